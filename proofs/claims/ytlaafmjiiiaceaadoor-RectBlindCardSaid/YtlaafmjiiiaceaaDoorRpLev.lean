/- The project's Level of a row. -/
import Derived.Test.YtlaafmjiiiaceaaDoorRpLab
import Derived.Test.YtlaafmjiiiaceaaDoorRoMove
import Derived.Shelf.Abstract
namespace Go.Proofs.YtlaafmjiiiaceaaDoor.Lab
open Go Go.RowKit

def levTo (R : Cls) (p k : Nat) : Int := ((R.drop p).take (k - p)).foldl (fun l c => max l c.l) 0
theorem levTo_step {R : Cls} {p k : Nat} (hp : p ≤ k) (hk : k < R.length) : levTo R p (k + 1) = max (levTo R p k) (gc R k).l := by
  unfold levTo
  have hl : k - p < (R.drop p).length := by rw [List.length_drop]; omega
  rw [show k + 1 - p = (k - p) + 1 by omega, List.take_succ_eq_append_getElem hl, List.foldl_append]
  show max _ ((R.drop p)[k - p]).l = _
  rw [← gc_eq hl, gc_drop, show p + (k - p) = k by omega]
theorem levTo_01 {R : Cls} (h : Lv R) {p : Nat} (k : Nat) (hp : p ≤ k) (hk : k ≤ R.length) : levTo R p k = 0 ∨ levTo R p k = 1 := by
  induction k with
  | zero => left; unfold levTo; simp
  | succ k ih =>
    by_cases hpk : p ≤ k
    · rw [levTo_step hpk hk]
      have := ih hpk (by omega)
      have := h k hk
      omega
    · left
      unfold levTo
      rw [show k + 1 - p = 0 by omega]
      rfl
set_option maxHeartbeats 4000000 in
theorem level_any (w : World) (v : Value) (R : Cls) (i j : Int) (h : RowIn w v R) (hv : Lv R) (hl : R.length ≤ 1000) : Calls Tryd.prog 39 #[v, .int .i64 i, .int .i64 j] w fun e w' => e = .returned (.int .u8 (levelM R i j)) ∧ Below w.heap.size w w' := by
  obtain ⟨va, vc, rfl⟩ := h.shape
  have HV := Lib.hid hv
  obtain ⟨n, hn⟩ : ∃ n, n = R.length := ⟨_, rfl⟩
  have HN := Lib.hid hn
  have HB0 := Lib.hid (Below.refl w.heap.size w)
  have HR := Lib.hid h
  rw [← hn] at HR hl ⊢
  obtain ⟨p, hp⟩ : ∃ p, p = inN i n := ⟨_, rfl⟩
  obtain ⟨q, hq⟩ : ∃ q, q = inN j n := ⟨_, rfl⟩
  have hpn : p ≤ n := by rw [hp]; exact inN_le _ _
  have hqn : q ≤ n := by rw [hq]; exact inN_le _ _
  have HM := Lib.hid (show levelM R i j = levTo R p q by unfold levelM levTo; rw [← hn, ← hp, ← hq])
  have CW1 := Lib.hid (show ∀ W, Calls Tryd.prog 59 #[.int .i64 i, .int .i64 (n : Nat)] W fun e w' => e = .returned (.int .i64 (p : Nat)) ∧ W = w' from fun W => by rw [hp]; exact within_any W i n)
  have CW2 := Lib.hid (show ∀ W, Calls Tryd.prog 59 #[.int .i64 j, .int .i64 (n : Nat)] W fun e w' => e = .returned (.int .i64 (q : Nat)) ∧ W = w' from fun W => by rw [hq]; exact within_any W j n)
  clear h hv hn hp hq
  go_enter Tryd.func39, Tryd.ntmps39
  go_wp2_with fail
  refine (CW1.out _).mono ?_
  rintro e0 wx ⟨rfl, rfl⟩
  go_wp2_with fail
  refine (CW2.out _).mono ?_
  rintro e0 wx ⟨rfl, rfl⟩
  clear CW1 CW2
  go_wp2_with fail
  refine (join_none _).mono ?_
  rintro e0 wx ⟨rfl, rfl⟩
  go_wp2
  go_loopg [7, 8] (n - p) (fun G a k wr => ∃ (x : Int) (i : Nat), a = .int .u8 x ∧ k = .int .i64 i ∧ p ≤ i ∧ (i ≤ q ∨ i = p) ∧ n - i ≤ G ∧ Hid (x = levTo R p i) ∧ Hid (Below w.heap.size w wr))
  case atStart => exact ⟨0, p, rfl, rfl, Nat.le_refl _, .inr rfl, Nat.le_refl _, Lib.hid (by unfold levTo; rw [Nat.sub_self]; rfl), HB0⟩
  case round =>
    obtain ⟨x, i, rfl, rfl, hpi, hiq, hgk, HX, HB⟩ := hrel
    clear HB0
    by_cases hlt : i < q
    · have hin : i < n := by omega
      obtain ⟨g, o, cp, e, _, hg, hC⟩ := (HR.out.below HB.out).open (by rw [← HN.out]; omega)
      injection e with e1 e2 e3
      subst e1 e3
      obtain ⟨y, hy⟩ : ∃ y, y = (gc R i).l := ⟨_, rfl⟩
      have hat := hC i (by rw [← HN.out]; exact hin)
      obtain ⟨_, _, _, _, _, _, _, _, _, _, _, _, _, y13⟩ := hat
      rw [← hy] at y13
      have HY1 := Lib.hid (show y = 0 ∨ y = 1 by rw [hy]; exact HV.out i (by rw [← HN.out]; exact hin))
      have HX1 := Lib.hid (show x = 0 ∨ x = 1 by rw [HX.out]; exact levTo_01 HV.out i hpi (by rw [← HN.out]; omega))
      have HS := Lib.hid (show max x y = levTo R p (i + 1) by rw [levTo_step hpi (by rw [← HN.out]; exact hin), HX.out, hy])
      obtain ⟨w1, hw1⟩ : ∃ w1, w1 = wr.alloc (.cells #[.int .u8 x, .int .u8 y] 43) := ⟨_, rfl⟩
      obtain ⟨s, hs⟩ : ∃ s, s = wr.heap.size := ⟨_, rfl⟩
      have b1 : Below wr.heap.size wr w1 := by rw [hw1]; exact (Below.refl _ _).alloc (Nat.le_refl _) _
      have HB1 := Lib.hid (HB.out.trans (b1.mono HB.out.size))
      have HJ := Lib.hid (join_two w1 s x y HX1.out HY1.out (by rw [hw1, hs]; simp) (by rw [hw1, hs]; simp))
      clear hC hg e2 hy b1 HB
      go_wp2_with fail
      rw [← hw1, ← hs]
      clear hw1 hs y13
      refine HJ.out.mono ?_
      rintro e0 w2 ⟨rfl, rfl⟩
      clear HJ
      go_wp2
      go_roundg (n - (i + 1))
      case rel => exact ⟨max x y, i + 1, rfl, by go_num, by omega, .inl (by omega), Nat.le_refl _, HS, HB1⟩
      case measure => omega
    · have HE := Lib.hid (show x = levelM R _ _ from by
        rw [HM.out, HX.out]
        rcases hiq with h | h
        · rw [show i = q by omega]
        · unfold levTo
          rw [show i - p = 0 by omega, show q - p = 0 by omega])
      clear HX HM
      go_wp2
      go_ret
      exact ⟨by rw [← HE.out]; rfl, HB.out⟩

open Go Go.RowKit Go.Shelf
attribute [local go_sem] Oper.semAt_some

theorem foldl_max01 : ∀ (L : Cls) (a : Int), (a = 0 ∨ a = 1) → (∀ c ∈ L, c.l = 0 ∨ c.l = 1) → (L.foldl (fun l c => max l c.l) a = 0 ∨ L.foldl (fun l c => max l c.l) a = 1)
  | [], _, h, _ => h
  | c :: L, a, h, k => foldl_max01 L _ (by have := k c (List.mem_cons_self ..); show max a c.l = 0 ∨ max a c.l = 1; omega) (fun d hd => k d (List.mem_cons_of_mem _ hd))
theorem mem_lv {R : Cls} (h : Lv R) : ∀ c ∈ R, c.l = 0 ∨ c.l = 1 := by
  intro c hc
  obtain ⟨i, hi, rfl⟩ := List.mem_iff_getElem.1 hc
  have := h i hi
  rwa [gc_eq hi] at this
theorem level01 {R : Cls} (h : Lv R) (i j : Int) : levelM R i j = 0 ∨ levelM R i j = 1 := by
  unfold levelM
  exact foldl_max01 _ 0 (.inl rfl) (fun c hc => mem_lv h c (List.mem_of_mem_drop (List.mem_of_mem_take hc)))
end Go.Proofs.YtlaafmjiiiaceaaDoor.Lab
