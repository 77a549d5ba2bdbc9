/- The project's within, label.Join, row.Level: of a seat that has no more of row. -/
import Derived.Test.YtnefamgjlhdffaaRpSmall
import Derived.Test.YtnefamgjlhdffaaRoMove
import Derived.Test.YtnefamgjlhdffaaRoLow
import Derived.Shelf.Abstract
namespace Go.Proofs.Ytnefamgjlhdffaa.Lab
open Go Go.RowKit

theorem isLow_any (n : Int) (w : World) : Calls Try.prog 70 #[.int .u8 n] w fun e w' => e = .returned (.bool (n == 0)) ∧ w = w' := by
  go_enter Try.func70, Try.ntmps70
  go_wp2
  go_ret
  exact ⟨rfl, rfl⟩
theorem join1_any (n : Int) (w : World) : Calls Try.prog 69 #[.int .u8 n] w fun e w' => e = .returned (.bool (!(n == 0))) ∧ w = w' := by
  go_enter Try.func69, Try.ntmps69
  go_wp2_with fail
  refine (isLow_any _ _).mono ?_
  rintro e w' ⟨rfl, rfl⟩
  go_wp2
  go_ret
  exact ⟨rfl, rfl⟩
/-- A row of levels. -/
def LevsAt (w : World) (a : Option Addr) (len : Nat) (xs : List Int) : Prop :=
  xs.length = len ∧ len ≤ 1000 ∧ (0 < len → ∃ b off, a = some ⟨b, off, none⟩ ∧ ∀ i, i < len → w.cell? ⟨b, off + i, none⟩ = some (.int .u8 (xs[i]?.getD 0)))
theorem any_take1 (xs : List Int) (p : Int → Bool) (k : Nat) (h : k < xs.length) : (xs.take (k + 1)).any p = ((xs.take k).any p || p (xs[k]?.getD 0)) := by
  rw [List.take_succ_eq_append_getElem h]
  simp only [List.any_append, List.getElem?_eq_getElem h, Option.getD_some]
  simp
theorem any_more (xs : List Int) (p : Int → Bool) (k : Nat) (h : (xs.take k).any p = true) : xs.any p = true := by
  obtain ⟨x, hx, hp⟩ := List.any_eq_true.1 h
  exact List.any_eq_true.2 ⟨x, List.mem_of_mem_take hx, hp⟩
theorem bool_same {a b : Bool} (h : a = b) : Ending.returned (.bool a) = .returned (.bool b) := by rw [h]
theorem some_any (a : Option Addr) (len cap : Nat) (xs : List Int) (w : World) (hl : LevsAt w a len xs) :
    Calls Try.prog 68 #[.slice a len cap, .func (.func 69) #[] #[]] w fun e w' => e = .returned (.bool (xs.any fun n => !(n == 0))) ∧ w = w' := by
  obtain ⟨p, hp0⟩ : ∃ p : Int → Bool, p = fun n => !(n == 0) := ⟨_, rfl⟩
  have HF : Hid (∀ n w, Calls Try.prog 69 #[.int .u8 n] w fun e w' => e = .returned (.bool (p n)) ∧ w = w') := Lib.hid (fun n w => by rw [hp0]; exact join1_any n w)
  rw [← hp0]
  clear hp0
  obtain ⟨h1, h2, h3⟩ := hl
  by_cases h0 : len = 0
  · subst h0
    have hx : xs = [] := List.eq_nil_of_length_eq_zero h1
    subst hx
    go_enter Try.func68, Try.ntmps68
    go_wp2
    refine wp_loop_rounds 1 ?_
    rw [rounds_succ]
    go_wp2
    go_ret
    exact ⟨rfl, rfl⟩
  · obtain ⟨b, off, rfl, hc⟩ := h3 (by omega)
    have H1 := Lib.hid h1
    clear h1 h3
    go_enter Try.func68, Try.ntmps68
    go_wp2
    go_loop [9] (fun i => ∃ k : Nat, k ≤ len ∧ i = .int .i64 k ∧ (xs.take k).any p = false) (fun i => len - (intOf i).toNat)
    case atStart => exact ⟨0, Nat.zero_le _, rfl, rfl⟩
    case round =>
      obtain ⟨k, hk, rfl, hp⟩ := hrel
      have HP := Lib.hid hp
      clear hp
      by_cases hlt : k < len
      · have hck := hc k hlt
        go_wp2_with fail
        refine (HF.out _ _).mono ?_
        rintro e w' ⟨rfl, rfl⟩
        have hs := Lib.hid (any_take1 xs p k (by rw [H1.out]; exact hlt))
        by_cases hpk : p (xs[k]?.getD 0) = true
        · go_wp2
          go_ret
          exact ⟨bool_same (any_more xs p (k + 1) (by rw [hs.out, hpk]; simp)).symm, rfl⟩
        · have hpf : p (xs[k]?.getD 0) = false := by simpa using hpk
          go_wp2
          go_round
          case rel => exact ⟨k + 1, by omega, by go_num, by rw [hs.out, HP.out, hpf]; rfl⟩
          case measure => simp [intOf]; omega
      · go_wp2
        go_ret
        have e1 : xs.take k = xs := List.take_of_length_le (by rw [H1.out]; omega)
        have e2 := HP.out
        rw [e1] at e2
        exact ⟨bool_same e2.symm, rfl⟩
theorem joins_any (a : Option Addr) (len cap : Nat) (xs : List Int) (w : World) (hl : LevsAt w a len xs) :
    Calls Try.prog 60 #[.slice a len cap] w fun e w' => e = .returned (.int .u8 (if (xs.any fun n => !(n == 0)) = true then 1 else 0)) ∧ w = w' := by
  have HS := Lib.hid (some_any a len cap xs w hl)
  cases hx : xs.any fun n => !(n == 0)
  · rw [hx] at HS
    clear hx hl
    go_enter Try.func60, Try.ntmps60
    go_wp2_with fail
    refine HS.out.mono ?_
    rintro e w' ⟨rfl, rfl⟩
    go_wp2
    go_ret
    exact ⟨rfl, rfl⟩
  · rw [hx] at HS
    clear hx hl
    go_enter Try.func60, Try.ntmps60
    go_wp2_with fail
    refine HS.out.mono ?_
    rintro e w' ⟨rfl, rfl⟩
    go_wp2
    go_ret
    exact ⟨rfl, rfl⟩
/-- Of two levels, the greater one. -/
theorem join_two (w : World) (s : Nat) (x y : Int) (hx : x = 0 ∨ x = 1) (hy : y = 0 ∨ y = 1) (h0 : w.cell? ⟨s, 0, none⟩ = some (.int .u8 x)) (h1 : w.cell? ⟨s, 1, none⟩ = some (.int .u8 y)) :
    Calls Try.prog 60 #[.slice (some ⟨s, 0, none⟩) 2 2] w fun e w' => e = .returned (.int .u8 (max x y)) ∧ w = w' := by
  have := joins_any (some ⟨s, 0, none⟩) 2 2 [x, y] w ⟨rfl, by omega, fun _ => ⟨s, 0, rfl, fun i hi => by
    rcases (show i = 0 ∨ i = 1 by omega) with rfl | rfl
    · exact h0
    · exact h1⟩⟩
  have e : (if (([x, y] : List Int).any fun n => !(n == 0)) = true then (1 : Int) else 0) = max x y := by
    rcases hx with rfl | rfl <;> rcases hy with rfl | rfl <;> rfl
  rw [e] at this
  exact this
theorem join_none (w : World) : Calls Try.prog 60 #[.slice none 0 0] w fun e w' => e = .returned (.int .u8 0) ∧ w = w' := joins_any none 0 0 [] w ⟨rfl, by omega, fun h => absurd h (by omega)⟩


def levTo (R : Cls) (p k : Nat) : Int := ((R.drop p).take (k - p)).foldl (fun l c => max l c.l) 0
theorem levTo_step {R : Cls} {p k : Nat} (hp : p ≤ k) (hk : k < R.length) : levTo R p (k + 1) = max (levTo R p k) (gc R k).l := by
  unfold levTo
  have hl : k - p < (R.drop p).length := by rw [List.length_drop]; omega
  rw [show k + 1 - p = (k - p) + 1 by omega, List.take_succ_eq_append_getElem hl, List.foldl_append]
  show max _ ((R.drop p)[k - p]).l = _
  rw [← gc_eq hl, gc_drop, show p + (k - p) = k by omega]
theorem levTo_01 {R : Cls} (h : Lv R) {p : Nat} (k : Nat) (hp : p ≤ k) (hk : k ≤ R.length) : levTo R p k = 0 ∨ levTo R p k = 1 := by
  induction k with
  | zero => left; unfold levTo; simp
  | succ k ih =>
    by_cases hpk : p ≤ k
    · rw [levTo_step hpk hk]
      have := ih hpk (by omega)
      have := h k hk
      omega
    · left
      unfold levTo
      rw [show k + 1 - p = 0 by omega]
      rfl
set_option maxHeartbeats 4000000 in
theorem level_any (w : World) (v : Value) (R : Cls) (i j : Int) (h : RowIn w v R) (hv : Lv R) (hl : R.length ≤ 1000) : Calls Try.prog 51 #[v, .int .i64 i, .int .i64 j] w fun e w' => e = .returned (.int .u8 (levelM R i j)) ∧ Below w.heap.size w w' := by
  obtain ⟨va, vc, rfl⟩ := h.shape
  have HV := Lib.hid hv
  obtain ⟨n, hn⟩ : ∃ n, n = R.length := ⟨_, rfl⟩
  have HN := Lib.hid hn
  have HB0 := Lib.hid (Below.refl w.heap.size w)
  have HR := Lib.hid h
  rw [← hn] at HR hl ⊢
  obtain ⟨p, hp⟩ : ∃ p, p = inN i n := ⟨_, rfl⟩
  obtain ⟨q, hq⟩ : ∃ q, q = inN j n := ⟨_, rfl⟩
  have hpn : p ≤ n := by rw [hp]; exact inN_le _ _
  have hqn : q ≤ n := by rw [hq]; exact inN_le _ _
  have HM := Lib.hid (show levelM R i j = levTo R p q by unfold levelM levTo; rw [← hn, ← hp, ← hq])
  have CW1 := Lib.hid (show ∀ W, Calls Try.prog 59 #[.int .i64 i, .int .i64 (n : Nat)] W fun e w' => e = .returned (.int .i64 (p : Nat)) ∧ W = w' from fun W => by rw [hp]; exact within_any W i n)
  have CW2 := Lib.hid (show ∀ W, Calls Try.prog 59 #[.int .i64 j, .int .i64 (n : Nat)] W fun e w' => e = .returned (.int .i64 (q : Nat)) ∧ W = w' from fun W => by rw [hq]; exact within_any W j n)
  clear h hv hn hp hq
  go_enter Try.func51, Try.ntmps51
  go_wp2_with fail
  refine (CW1.out _).mono ?_
  rintro e0 wx ⟨rfl, rfl⟩
  go_wp2_with fail
  refine (CW2.out _).mono ?_
  rintro e0 wx ⟨rfl, rfl⟩
  clear CW1 CW2
  go_wp2_with fail
  refine (join_none _).mono ?_
  rintro e0 wx ⟨rfl, rfl⟩
  go_wp2
  go_loopg [7, 8] (n - p) (fun G a k wr => ∃ (x : Int) (i : Nat), a = .int .u8 x ∧ k = .int .i64 i ∧ p ≤ i ∧ (i ≤ q ∨ i = p) ∧ n - i ≤ G ∧ Hid (x = levTo R p i) ∧ Hid (Below w.heap.size w wr))
  case atStart => exact ⟨0, p, rfl, rfl, Nat.le_refl _, .inr rfl, Nat.le_refl _, Lib.hid (by unfold levTo; rw [Nat.sub_self]; rfl), HB0⟩
  case round =>
    obtain ⟨x, i, rfl, rfl, hpi, hiq, hgk, HX, HB⟩ := hrel
    clear HB0
    by_cases hlt : i < q
    · have hin : i < n := by omega
      obtain ⟨g, o, cp, e, _, hg, hC⟩ := (HR.out.below HB.out).open (by rw [← HN.out]; omega)
      injection e with e1 e2 e3
      subst e1 e3
      obtain ⟨y, hy⟩ : ∃ y, y = (gc R i).l := ⟨_, rfl⟩
      have hat := hC i (by rw [← HN.out]; exact hin)
      obtain ⟨_, _, _, _, _, _, _, _, _, _, _, _, _, y13⟩ := hat
      rw [← hy] at y13
      have HY1 := Lib.hid (show y = 0 ∨ y = 1 by rw [hy]; exact HV.out i (by rw [← HN.out]; exact hin))
      have HX1 := Lib.hid (show x = 0 ∨ x = 1 by rw [HX.out]; exact levTo_01 HV.out i hpi (by rw [← HN.out]; omega))
      have HS := Lib.hid (show max x y = levTo R p (i + 1) by rw [levTo_step hpi (by rw [← HN.out]; exact hin), HX.out, hy])
      obtain ⟨w1, hw1⟩ : ∃ w1, w1 = wr.alloc (.cells #[.int .u8 x, .int .u8 y] 25) := ⟨_, rfl⟩
      obtain ⟨s, hs⟩ : ∃ s, s = wr.heap.size := ⟨_, rfl⟩
      have b1 : Below wr.heap.size wr w1 := by rw [hw1]; exact (Below.refl _ _).alloc (Nat.le_refl _) _
      have HB1 := Lib.hid (HB.out.trans (b1.mono HB.out.size))
      have HJ := Lib.hid (join_two w1 s x y HX1.out HY1.out (by rw [hw1, hs]; simp) (by rw [hw1, hs]; simp))
      clear hC hg e2 hy b1 HB
      go_wp2_with fail
      rw [← hw1, ← hs]
      clear hw1 hs y13
      refine HJ.out.mono ?_
      rintro e0 w2 ⟨rfl, rfl⟩
      clear HJ
      go_wp2
      go_roundg (n - (i + 1))
      case rel => exact ⟨max x y, i + 1, rfl, by go_num, by omega, .inl (by omega), Nat.le_refl _, HS, HB1⟩
      case measure => omega
    · have HE := Lib.hid (show x = levelM R _ _ from by
        rw [HM.out, HX.out]
        rcases hiq with h | h
        · rw [show i = q by omega]
        · unfold levTo
          rw [show i - p = 0 by omega, show q - p = 0 by omega])
      clear HX HM
      go_wp2
      go_ret
      exact ⟨by rw [← HE.out]; rfl, HB.out⟩

open Go Go.RowKit Go.Shelf
attribute [local go_sem] Oper.semAt_some

theorem foldl_max01 : ∀ (L : Cls) (a : Int), (a = 0 ∨ a = 1) → (∀ c ∈ L, c.l = 0 ∨ c.l = 1) → (L.foldl (fun l c => max l c.l) a = 0 ∨ L.foldl (fun l c => max l c.l) a = 1)
  | [], _, h, _ => h
  | c :: L, a, h, k => foldl_max01 L _ (by have := k c (List.mem_cons_self ..); show max a c.l = 0 ∨ max a c.l = 1; omega) (fun d hd => k d (List.mem_cons_of_mem _ hd))
theorem mem_lv {R : Cls} (h : Lv R) : ∀ c ∈ R, c.l = 0 ∨ c.l = 1 := by
  intro c hc
  obtain ⟨i, hi, rfl⟩ := List.mem_iff_getElem.1 hc
  have := h i hi
  rwa [gc_eq hi] at this
theorem level01 {R : Cls} (h : Lv R) (i j : Int) : levelM R i j = 0 ∨ levelM R i j = 1 := by
  unfold levelM
  exact foldl_max01 _ 0 (.inl rfl) (fun c hc => mem_lv h c (List.mem_of_mem_drop (List.mem_of_mem_take hc)))
end Go.Proofs.Ytnefamgjlhdffaa.Lab
