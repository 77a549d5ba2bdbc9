/- The project's Erase. label.Join of two levels; the project's raise, Raise, Level. -/
import Derived.Test.YtdeahnphcfcfpaaGrMath
import Derived.Test.YtdeahnphcfcfpaaRpSmall
import Derived.Test.YtdeahnphcfcfpaaRoLow
namespace Go.Proofs.Ytdeahnphcfcfpaa.Lab
open Go Go.RowKit

set_option maxHeartbeats 8000000 in
set_option maxRecDepth 100000 in
theorem erase_any (w : World) (v : Value) (R : Cls) (i j : Int) (b : Cel) (h : RowIn w v R) (hw : Wh R) (hl : R.length ≤ 1000) : Calls Try.prog 70 #[v, .int .i64 i, .int .i64 j, celV b] w (OwnRes w (erasePM R i j b)) := by
  obtain ⟨a, c, rfl⟩ := h.shape
  have HW := Lib.hid hw
  obtain ⟨N, hN⟩ : ∃ N, N = R.length := ⟨_, rfl⟩
  have HN := Lib.hid hN
  obtain ⟨w0, hw0⟩ : ∃ w0, w0 = w.alloc (.cells #[.int .i32 b.ru, .int .i32 b.m0, .int .i32 b.m1, .int .u8 b.k, .int .u8 b.a.fg.k, .int .u8 b.a.fg.r, .int .u8 b.a.fg.g, .int .u8 b.a.fg.b, .int .u8 b.a.bg.k, .int .u8 b.a.bg.r, .int .u8 b.a.bg.g, .int .u8 b.a.bg.b, .int .u16 (b.a.fl : Nat), .int .u8 b.l] 42) := ⟨_, rfl⟩
  obtain ⟨z, hz⟩ : ∃ z, z = w.heap.size := ⟨_, rfl⟩
  have b0 : Below w.heap.size w w0 := by rw [hw0]; exact (Below.refl _ _).alloc (Nat.le_refl _) _
  have HA0 := Lib.hid (show BAt w0 z b by rw [hw0, hz]; exact BAt.newAt w _ rfl b _)
  have HB0 := Lib.hid b0
  have HR0 := Lib.hid (h.below b0)
  rw [← hN] at HR0 hl ⊢
  obtain ⟨p, hp⟩ : ∃ p, p = inN i N := ⟨_, rfl⟩
  obtain ⟨q, hq⟩ : ∃ q, q = inN j N := ⟨_, rfl⟩
  have hpN : p ≤ N := by rw [hp]; exact inN_le _ _
  have hqN : q ≤ N := by rw [hq]; exact inN_le _ _
  obtain ⟨e, he⟩ : ∃ e, e = max p q := ⟨_, rfl⟩
  have HM := Lib.hid (show erasePM R i j b = place (brk (brk R p) q) p (List.replicate (e - p) b) by unfold erasePM eraP; rw [← hN, ← hp, ← hq, he])
  have CW1 := Lib.hid (show ∀ W, Calls Try.prog 85 #[.int .i64 i, .int .i64 (N : Nat)] W fun e w' => e = .returned (.int .i64 (p : Nat)) ∧ W = w' from fun W => by rw [hp]; exact within_any W i N)
  have CW2 := Lib.hid (show ∀ W, Calls Try.prog 85 #[.int .i64 j, .int .i64 (N : Nat)] W fun e w' => e = .returned (.int .i64 (q : Nat)) ∧ W = w' from fun W => by rw [hq]; exact within_any W j N)
  have HBL := Lib.hid (show (([(p : Int), (q : Int)]).foldl breakM R).length = N by rw [len_breaks]; exact hN.symm)
  have HBE := Lib.hid (show ([(p : Int), (q : Int)]).foldl breakM R = brk (brk R p) q from breaks_two R (by rw [← hN]; exact hpN) (by rw [← hN]; exact hqN))
  have heN : e ≤ N := by omega
  have hpe : p ≤ e := by omega
  have HE := Lib.hid he
  clear h hw hN b0 hp hq he
  obtain ⟨w1, hw1⟩ : ∃ x, x = w0.alloc (.cells #[.int .i64 ((p : Nat) : Int), .int .i64 ((q : Nat) : Int)] 3) := ⟨_, rfl⟩
  obtain ⟨s, hs⟩ : ∃ x, x = w0.heap.size := ⟨_, rfl⟩
  have bb : Below w0.heap.size w0 w1 := by rw [hw1]; exact (Below.refl _ _).alloc (Nat.le_refl _) _
  have HPS := Lib.hid (show PsAt w1 (.slice (some ⟨s, 0, none⟩) 2 2) [((p : Nat) : Int), ((q : Nat) : Int)] from ⟨s, 0, 2, rfl, by simp, by rw [hw1, hs]; simp, fun j hj => by
    rcases (show j = 0 ∨ j = 1 by simp at hj; omega) with rfl | rfl
    · rw [hw1, hs]; simp
    · rw [hw1, hs]; simp, fun j hj => by
    rcases (show j = 0 ∨ j = 1 by simp at hj; omega) with rfl | rfl
    · show (-100000 : Int) < ((p : Nat) : Int) ∧ ((p : Nat) : Int) < 100000
      omega
    · show (-100000 : Int) < ((q : Nat) : Int) ∧ ((q : Nat) : Int) < 100000
      omega⟩)
  have HR1 := Lib.hid (HR0.out.below bb)
  have HA1 := Lib.hid (HA0.out.below bb)
  have HB1 := Lib.hid (HB0.out.trans (bb.mono HB0.out.size))
  have HBK := Lib.hid (break_any w1 (.slice a N c) R _ [((p : Nat) : Int), ((q : Nat) : Int)] HR1.out HW.out (by rw [← HN.out]; omega) HPS.out)
  clear bb HR0 HA0 HB0 HR1 HPS
  go_enter Try.func70, Try.ntmps70
  go_upto_region 1 with (fail)
  rw [← hw0, ← hz]
  clear hw0 hz
  go_wp2_with fail
  refine (CW1.out _).mono ?_
  rintro e0 wx ⟨rfl, rfl⟩
  go_wp2_with fail
  refine (CW2.out _).mono ?_
  rintro e0 wx ⟨rfl, rfl⟩
  clear CW1 CW2
  go_wp2_with fail
  rw [← hw1, ← hs]
  clear hw1 hs
  refine HBK.out.mono ?_
  rintro e0 w2 ⟨g, c1, rfl, hc1, own1, hg1, hg2, b1⟩
  rw [HBL.out] at own1 hc1 ⊢
  have HO2 := Lib.hid own1
  have HC1 := Lib.hid hc1
  have HA2 := Lib.hid (HA1.out.below b1)
  have HB2 := Lib.hid (HB1.out.trans (b1.mono HB1.out.size))
  have HG := Lib.hid (show w.heap.size ≤ g from Nat.le_trans HB1.out.size hg1)
  have HB1s := Lib.hid HB1.out.size
  have HZG := Lib.hid (show z ≠ g by have := HA1.out.1; omega)
  clear own1 hc1 hg1 hg2 b1 HA1 HB1 HBK
  obtain ⟨B, hB⟩ : ∃ B, B = ([(p : Int), (q : Int)]).foldl breakM R := ⟨_, rfl⟩
  rw [← hB] at HO2 HBL HBE
  clear hB
  have hc1 := HC1.out
  obtain ⟨ad, m, cm, hm, hcm, k2, k2a, _⟩ := cut_both g N c1 p e hpe (by omega)
  have mx : max (p : Int) (q : Int) = (e : Int) := by have := HE.out; omega
  have HMP := Lib.hid (show p + m ≤ N by omega)
  have HMA := Lib.hid (show 0 < m → ad = some ⟨g, p * 14, none⟩ from k2a)
  have HME := Lib.hid hm
  have HNN := Lib.hid (show N ≤ 10000 by omega)
  clear hm hcm hc1 HC1 hpe hpN hqN heN hl k2a
  have mx : (if p < q then (q : Int) else (p : Int)) = (e : Int) := by have := HE.out; split <;> omega
  have mx2 : (if (p : Int) < (q : Int) then (q : Int) else (p : Int)) = (e : Int) := by have := HE.out; split <;> omega
  have HB2s := Lib.hid HB1s.out
  go_upto_region 3 with (fail)
  refine wp_region_held_drew (S := fun w' => w'.cell? ⟨z, 0, none⟩ = some (.int .i32 b.ru) ∧ w'.cell? ⟨z, 1, none⟩ = some (.int .i32 b.m0) ∧ w'.cell? ⟨z, 2, none⟩ = some (.int .i32 b.m1) ∧ w'.cell? ⟨z, 3, none⟩ = some (.int .u8 b.k) ∧ w'.cell? ⟨z, 4, none⟩ = some (.int .u8 b.a.fg.k) ∧ w'.cell? ⟨z, 5, none⟩ = some (.int .u8 b.a.fg.r) ∧ w'.cell? ⟨z, 6, none⟩ = some (.int .u8 b.a.fg.g) ∧ w'.cell? ⟨z, 7, none⟩ = some (.int .u8 b.a.fg.b) ∧ w'.cell? ⟨z, 8, none⟩ = some (.int .u8 b.a.bg.k) ∧ w'.cell? ⟨z, 9, none⟩ = some (.int .u8 b.a.bg.r) ∧ w'.cell? ⟨z, 10, none⟩ = some (.int .u8 b.a.bg.g) ∧ w'.cell? ⟨z, 11, none⟩ = some (.int .u8 b.a.bg.b) ∧ w'.cell? ⟨z, 12, none⟩ = some (.int .u16 (b.a.fl : Nat)) ∧ w'.cell? ⟨z, 13, none⟩ = some (.int .u8 b.l)) (by kernel_rfl) ?_ (fun hHeld => ?_)
  · exact HA2.out.2.1
  obtain ⟨u0, hu0⟩ : ∃ x, x = w2.drew := ⟨_, rfl⟩
  have bd : Below w2.heap.size w2 u0 := by rw [hu0]; exact ⟨rfl, rfl, rfl, Nat.le_refl _, fun _ _ => rfl⟩
  have HOu := Lib.hid (HO2.out.below bd)
  have HAu := Lib.hid (HA2.out.below bd)
  have HBu := Lib.hid (HB2.out.trans (bd.mono HB2.out.size))
  replace hHeld := HAu.out.2.1
  unfold D14 at hHeld
  rw [← hu0]
  clear hu0 bd HO2 HA2 HB2
  refine tk 0 rfl (fun w hSw => by (try dsimp only at hSw); go_simp; try with_reducible rfl) ?_
  go_frame
  refine tk 1 rfl (fun w hSw => by (try dsimp only at hSw); go_simp; try with_reducible rfl) ?_
  go_frame
  refine tk 2 rfl (fun w hSw => by (try dsimp only at hSw); go_simp; try with_reducible rfl) ?_
  go_frame
  refine tk 3 rfl (fun w hSw => by (try dsimp only at hSw); go_simp; try with_reducible rfl) ?_
  go_frame
  refine tk 4 rfl (fun w hSw => by (try dsimp only at hSw); go_simp; try with_reducible rfl) ?_
  go_frame
  refine tk 5 rfl (fun w hSw => by (try dsimp only at hSw); go_simp; try with_reducible rfl) ?_
  go_frame
  refine tk 6 rfl (fun w hSw => by (try dsimp only at hSw); go_simp; try with_reducible rfl) ?_
  go_frame
  refine do_at (i := 7) rfl (by kernel_rfl) (by kernel_rfl) (fun K hK => ?_)
  go_wp2_with fail
  refine (fill_any u0 _ g N c1 B b p m cm ad HOu.out HBL.out.symm HNN.out HMP.out HMA.out).mono ?_
  rintro e0 w3 ⟨rfl, own3, but3⟩
  have HO3 := Lib.hid own3
  have HA3 := Lib.hid (HAu.out.but but3 HZG.out)
  have HB3 := Lib.hid (HBu.out.trans (but3.below HG.out HBu.out.size))
  clear own3 but3 HOu HAu HBu
  go_wp2_with fail
  refine hK.out _ _ ?_ (fun hHeld => ?_)
  · exact HA3.out.2.1
  clear hK K
  try go_frame
  refine wpAnyH_done (by kernel_rfl) ?_ _
  clear hHeld HA3
  have HF := Lib.hid (show CRow w3 w.heap.size (.slice (some ⟨g, 0, none⟩) N c1) (erasePM R i j b) by
    rw [HM.out, ← HBE.out, ← HME.out]
    exact HO3.out.lower HB2s.out)
  clear HO3
  go_wp2
  go_ret
  exact ⟨_, rfl, HF.out, HB3.out⟩

theorem isLow_any (n : Int) (w : World) : Calls Try.prog 105 #[.int .u8 n] w fun e w' => e = .returned (.bool (n == 0)) ∧ w = w' := by
  go_enter Try.func105, Try.ntmps105
  go_wp2
  go_ret
  exact ⟨rfl, rfl⟩
theorem join1_any (n : Int) (w : World) : Calls Try.prog 104 #[.int .u8 n] w fun e w' => e = .returned (.bool (!(n == 0))) ∧ w = w' := by
  go_enter Try.func104, Try.ntmps104
  go_wp2_with fail
  refine (isLow_any _ _).mono ?_
  rintro e w' ⟨rfl, rfl⟩
  go_wp2
  go_ret
  exact ⟨rfl, rfl⟩
/-- A row of levels. -/
def LevsAt (w : World) (a : Option Addr) (len : Nat) (xs : List Int) : Prop :=
  xs.length = len ∧ len ≤ 1000 ∧ (0 < len → ∃ b off, a = some ⟨b, off, none⟩ ∧ ∀ i, i < len → w.cell? ⟨b, off + i, none⟩ = some (.int .u8 (xs[i]?.getD 0)))
theorem any_take1 (xs : List Int) (p : Int → Bool) (k : Nat) (h : k < xs.length) : (xs.take (k + 1)).any p = ((xs.take k).any p || p (xs[k]?.getD 0)) := by
  rw [List.take_succ_eq_append_getElem h]
  simp only [List.any_append, List.getElem?_eq_getElem h, Option.getD_some]
  simp
theorem any_more (xs : List Int) (p : Int → Bool) (k : Nat) (h : (xs.take k).any p = true) : xs.any p = true := by
  obtain ⟨x, hx, hp⟩ := List.any_eq_true.1 h
  exact List.any_eq_true.2 ⟨x, List.mem_of_mem_take hx, hp⟩
theorem bool_same {a b : Bool} (h : a = b) : Ending.returned (.bool a) = .returned (.bool b) := by rw [h]
theorem some_any (a : Option Addr) (len cap : Nat) (xs : List Int) (w : World) (hl : LevsAt w a len xs) :
    Calls Try.prog 103 #[.slice a len cap, .func (.func 104) #[] #[]] w fun e w' => e = .returned (.bool (xs.any fun n => !(n == 0))) ∧ w = w' := by
  obtain ⟨p, hp0⟩ : ∃ p : Int → Bool, p = fun n => !(n == 0) := ⟨_, rfl⟩
  have HF : Hid (∀ n w, Calls Try.prog 104 #[.int .u8 n] w fun e w' => e = .returned (.bool (p n)) ∧ w = w') := Lib.hid (fun n w => by rw [hp0]; exact join1_any n w)
  rw [← hp0]
  clear hp0
  obtain ⟨h1, h2, h3⟩ := hl
  by_cases h0 : len = 0
  · subst h0
    have hx : xs = [] := List.eq_nil_of_length_eq_zero h1
    subst hx
    go_enter Try.func103, Try.ntmps103
    go_wp2
    refine wp_loop_rounds 1 ?_
    rw [rounds_succ]
    go_wp2
    go_ret
    exact ⟨rfl, rfl⟩
  · obtain ⟨b, off, rfl, hc⟩ := h3 (by omega)
    have H1 := Lib.hid h1
    clear h1 h3
    go_enter Try.func103, Try.ntmps103
    go_wp2
    go_loop [9] (fun i => ∃ k : Nat, k ≤ len ∧ i = .int .i64 k ∧ (xs.take k).any p = false) (fun i => len - (intOf i).toNat)
    case atStart => exact ⟨0, Nat.zero_le _, rfl, rfl⟩
    case round =>
      obtain ⟨k, hk, rfl, hp⟩ := hrel
      have HP := Lib.hid hp
      clear hp
      by_cases hlt : k < len
      · have hck := hc k hlt
        go_wp2_with fail
        refine (HF.out _ _).mono ?_
        rintro e w' ⟨rfl, rfl⟩
        have hs := Lib.hid (any_take1 xs p k (by rw [H1.out]; exact hlt))
        by_cases hpk : p (xs[k]?.getD 0) = true
        · go_wp2
          go_ret
          exact ⟨bool_same (any_more xs p (k + 1) (by rw [hs.out, hpk]; simp)).symm, rfl⟩
        · have hpf : p (xs[k]?.getD 0) = false := by simpa using hpk
          go_wp2
          go_round
          case rel => exact ⟨k + 1, by omega, by go_num, by rw [hs.out, HP.out, hpf]; rfl⟩
          case measure => simp [intOf]; omega
      · go_wp2
        go_ret
        have e1 : xs.take k = xs := List.take_of_length_le (by rw [H1.out]; omega)
        have e2 := HP.out
        rw [e1] at e2
        exact ⟨bool_same e2.symm, rfl⟩
theorem joins_any (a : Option Addr) (len cap : Nat) (xs : List Int) (w : World) (hl : LevsAt w a len xs) :
    Calls Try.prog 92 #[.slice a len cap] w fun e w' => e = .returned (.int .u8 (if (xs.any fun n => !(n == 0)) = true then 1 else 0)) ∧ w = w' := by
  have HS := Lib.hid (some_any a len cap xs w hl)
  cases hx : xs.any fun n => !(n == 0)
  · rw [hx] at HS
    clear hx hl
    go_enter Try.func92, Try.ntmps92
    go_wp2_with fail
    refine HS.out.mono ?_
    rintro e w' ⟨rfl, rfl⟩
    go_wp2
    go_ret
    exact ⟨rfl, rfl⟩
  · rw [hx] at HS
    clear hx hl
    go_enter Try.func92, Try.ntmps92
    go_wp2_with fail
    refine HS.out.mono ?_
    rintro e w' ⟨rfl, rfl⟩
    go_wp2
    go_ret
    exact ⟨rfl, rfl⟩
/-- Of two levels, the greater one. -/
theorem join_two (w : World) (s : Nat) (x y : Int) (hx : x = 0 ∨ x = 1) (hy : y = 0 ∨ y = 1) (h0 : w.cell? ⟨s, 0, none⟩ = some (.int .u8 x)) (h1 : w.cell? ⟨s, 1, none⟩ = some (.int .u8 y)) :
    Calls Try.prog 92 #[.slice (some ⟨s, 0, none⟩) 2 2] w fun e w' => e = .returned (.int .u8 (max x y)) ∧ w = w' := by
  have := joins_any (some ⟨s, 0, none⟩) 2 2 [x, y] w ⟨rfl, by omega, fun _ => ⟨s, 0, rfl, fun i hi => by
    rcases (show i = 0 ∨ i = 1 by omega) with rfl | rfl
    · exact h0
    · exact h1⟩⟩
  have e : (if (([x, y] : List Int).any fun n => !(n == 0)) = true then (1 : Int) else 0) = max x y := by
    rcases hx with rfl | rfl <;> rcases hy with rfl | rfl <;> rfl
  rw [e] at this
  exact this
theorem join_none (w : World) : Calls Try.prog 92 #[.slice none 0 0] w fun e w' => e = .returned (.int .u8 0) ∧ w = w' := joins_any none 0 0 [] w ⟨rfl, by omega, fun h => absurd h (by omega)⟩

/-- The levels of m cells from a place on joined with a level. -/
def raiseAt (R : Cls) (p m : Nat) (l : Int) : Cls := R.mapIdx fun i c => if p ≤ i ∧ i < p + m then raiseC l c else c
theorem len_raiseAt (R : Cls) (p m : Nat) (l : Int) : (raiseAt R p m l).length = R.length := by simp [raiseAt]
theorem gc_raiseAt {R : Cls} {p m : Nat} {l : Int} {i : Nat} (h : i < R.length) : gc (raiseAt R p m l) i = if p ≤ i ∧ i < p + m then raiseC l (gc R i) else gc R i := by
  rw [gc_eq (by rw [len_raiseAt]; exact h), gc_eq h]
  simp [raiseAt]
theorem raiseAt_zero (R : Cls) (p : Nat) (l : Int) : raiseAt R p 0 l = R := by
  refine ext_gc (len_raiseAt _ _ _ _) fun i hi => ?_
  rw [len_raiseAt] at hi
  rw [gc_raiseAt hi, if_neg (by omega)]
theorem raiseAt_all (R : Cls) (l : Int) : raiseAt R 0 R.length l = raiseM R l := by
  refine ext_gc (by rw [len_raiseAt, len_raise]) fun i hi => ?_
  rw [len_raiseAt] at hi
  rw [gc_raiseAt hi, gc_raise hi, if_pos ⟨Nat.zero_le _, by omega⟩]
theorem raiseAt_step {R : Cls} {p k : Nat} {l : Int} : (raiseAt R p k l).set (p + k) (raiseC l (gc R (p + k))) = raiseAt R p (k + 1) l := by
  refine ext_gc (by rw [List.length_set, len_raiseAt, len_raiseAt]) fun i hi => ?_
  rw [List.length_set, len_raiseAt] at hi
  rw [gc_set (by rw [len_raiseAt]; exact hi), gc_raiseAt hi, gc_raiseAt hi]
  by_cases e : i = p + k
  · rw [if_pos e, if_pos (by omega), e]
  · rw [if_neg e]
    by_cases e2 : p ≤ i ∧ i < p + k
    · rw [if_pos e2, if_pos (by omega)]
    · rw [if_neg e2, if_neg (by omega)]
theorem gc_raiseAt_at {R : Cls} {p k : Nat} {l : Int} (h : p + k < R.length) : gc (raiseAt R p k l) (p + k) = gc R (p + k) := by
  rw [gc_raiseAt h, if_neg (by omega)]
set_option maxHeartbeats 4000000 in
set_option maxRecDepth 100000 in
theorem raise_any (W : World) (lo g n c : Nat) (R : Cls) (l : Int) (p m cm : Nat) (ad : Option Addr) (H : CRow W lo (.slice (some ⟨g, 0, none⟩) n c) R) (hn : n = R.length) (hl : n ≤ 10000) (hp : p + m ≤ n) (hA : 0 < m → ad = some ⟨g, p * 14, none⟩) (hv : Lv R) (h01 : l = 0 ∨ l = 1) :
    Calls Try.prog 91 #[.slice ad m cm, .int .u8 l] W fun e w' => e = .returned (.tuple #[]) ∧ CRow w' lo (.slice (some ⟨g, 0, none⟩) n c) (raiseAt R p m l) ∧ But g W w' := by
  have HO0 := Lib.hid (show CRow W lo (.slice (some ⟨g, 0, none⟩) n c) (raiseAt R p 0 l) by rw [raiseAt_zero]; exact H)
  have HB0 := Lib.hid (But.refl g W)
  have HA := Lib.hid hA
  have HN := Lib.hid hn
  have HV := Lib.hid hv
  have HL01 := Lib.hid h01
  obtain ⟨o, ho⟩ : ∃ o, o = p * 14 := ⟨_, rfl⟩
  have HO := Lib.hid ho
  rw [← ho] at HA
  clear H hA hn ho hv h01
  go_enter Try.func91, Try.ntmps91
  go_wp2
  go_loopg [7] m (fun G i wr => ∃ k : Nat, i = .int .i64 k ∧ k ≤ m ∧ m - k ≤ G ∧ Hid (CRow wr lo (.slice (some ⟨g, 0, none⟩) n c) (raiseAt R p k l)) ∧ Hid (But g W wr))
  case atStart => exact ⟨0, rfl, Nat.zero_le _, Nat.sub_le _ _, HO0, HB0⟩
  case round =>
    obtain ⟨k, rfl, hkm, hgk, HR, HB⟩ := hrel
    clear HO0 HB0
    by_cases hlt : k < m
    · obtain rfl := HA.out (by omega)
      have HLE := Lib.hid (show (raiseAt R p k l).length = R.length from len_raiseAt _ _ _ _)
      have hlen : p + k < R.length := by rw [← HN.out]; omega
      have HLEN := Lib.hid hlen
      have hoff : (p + k) * 14 = o + k * 14 := by have := HO.out; omega
      have HOFF := Lib.hid hoff
      obtain ⟨x, hx⟩ : ∃ x, x = (gc R (p + k)).l := ⟨_, rfl⟩
      have HX := Lib.hid hx
      have HX1 := Lib.hid (show x = 0 ∨ x = 1 by rw [hx]; exact HV.out _ hlen)
      have hat := HR.out.at (i := p + k) (by rw [HLE.out]; exact hlen)
      rw [hoff, gc_raiseAt_at hlen] at hat
      obtain ⟨_, _, _, _, _, _, _, _, _, _, _, _, _, b13⟩ := hat
      rw [← hx] at b13
      have hgr := (HR.out.lt g rfl).2
      obtain ⟨w1, hw1⟩ : ∃ w1, w1 = wr.alloc (.cells #[.int .u8 x, .int .u8 l] 40) := ⟨_, rfl⟩
      obtain ⟨s, hs⟩ : ∃ s, s = wr.heap.size := ⟨_, rfl⟩
      have b1 : Below wr.heap.size wr w1 := by rw [hw1]; exact (Below.refl _ _).alloc (Nat.le_refl _) _
      have HR1 := Lib.hid (HR.out.below b1)
      have HB1 := Lib.hid (HB.out.trans (But.of b1))
      have HJ := Lib.hid (join_two w1 s x l HX1.out HL01.out (by rw [hw1, hs]; simp) (by rw [hw1, hs]; simp))
      clear hlen hoff hx b1 HR HB hgr
      go_wp2_with fail
      rw [← hw1, ← hs]
      clear hw1 hs b13
      refine HJ.out.mono ?_
      rintro e w2 ⟨rfl, rfl⟩
      obtain ⟨w3, hw3⟩ : ∃ w3, w3 = w1.setCell ⟨g, o + k * 14 + 13, none⟩ (.int .u8 (max x l)) := ⟨_, rfl⟩
      have HR3 := Lib.hid (show CRow w3 lo (.slice (some ⟨g, 0, none⟩) n c) (raiseAt R p (k + 1) l) by
        rw [hw3, ← HOFF.out, ← raiseAt_step]
        refine HR1.out.fld (by rw [HLE.out]; exact HN.out) (by rw [HLE.out]; exact HLEN.out) (by decide) ?_
        rw [gc_raiseAt_at HLEN.out, HX.out]
        rfl)
      have HB3 := Lib.hid (show But g W w3 by rw [hw3]; exact HB1.out.trans (But.set _ _ _ _))
      have HF := fun j => HR1.out.frozen (by rw [HLE.out]; exact HN.out) j
      have hat := HR1.out.at (i := p + k) (by rw [HLE.out]; exact HLEN.out)
      rw [HOFF.out] at hat
      obtain ⟨_, _, _, _, _, _, _, _, _, _, _, _, _, c13⟩ := hat
      clear HR1 HB1 HJ
      go_upto_region 4 with (fail)
      rw [← hw3]
      clear hw3 HF c13
      go_wp2
      go_roundg (m - (k + 1))
      case rel => exact ⟨k + 1, by go_num, by omega, Nat.le_refl _, HR3, HB3⟩
      case measure => omega
    · obtain rfl : k = m := by omega
      go_wp2
      go_end0
      exact ⟨rfl, HR.out, HB.out⟩
theorem raiseAll_any (w : World) (v : Value) (R : Cls) (l : Int) (h : RowIn w v R) (hl : R.length ≤ 10000) (hv : Lv R) (h01 : l = 0 ∨ l = 1) : Calls Try.prog 67 #[v, .int .u8 l] w fun e w' => ∃ v', e = .returned v' ∧ CRow w' w.heap.size v' (raiseM R l) ∧ Below w.heap.size w w' := by
  obtain ⟨a, c, rfl⟩ := h.shape
  have HC := Lib.hid (anew_any w _ R h hl)
  have HV := Lib.hid hv
  have HL := Lib.hid h01
  obtain ⟨n, hn⟩ : ∃ n, n = R.length := ⟨_, rfl⟩
  have HN := Lib.hid hn
  rw [← hn] at hl HC ⊢
  clear h hv hn h01
  go_enter Try.func67, Try.ntmps67
  go_wp2_with fail
  refine HC.out.mono ?_
  rintro e w1 ⟨g, c1, rfl, hc1, own1, hg1, hg2, b1⟩
  rw [← HN.out] at own1 ⊢
  have HO := Lib.hid own1
  have HB := Lib.hid b1
  have HG := Lib.hid hg1
  clear own1 b1 hg1 hg2 hc1 HC
  go_wp2_with fail
  refine (raise_any w1 _ g n c1 R l 0 n c1 (some ⟨g, 0, none⟩) HO.out HN.out hl (by omega) (fun _ => rfl) HV.out HL.out).mono ?_
  rintro e w2 ⟨rfl, own2, but2⟩
  have HO2 := Lib.hid (show CRow w2 w.heap.size (.slice (some ⟨g, 0, none⟩) n c1) (raiseM R l) by rw [HN.out, raiseAt_all, ← HN.out] at own2; exact own2)
  have HB2 := Lib.hid (HB.out.trans (but2.below HG.out HB.out.size))
  clear own2 but2 HO HB HG
  go_wp2
  go_ret
  exact ⟨_, rfl, HO2.out, HB2.out⟩
end Go.Proofs.Ytdeahnphcfcfpaa.Lab
