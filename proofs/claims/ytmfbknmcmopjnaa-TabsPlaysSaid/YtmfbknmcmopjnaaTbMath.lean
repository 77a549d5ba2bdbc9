/- Tab stops: the bits of words, tab stops as a truth for each column, and what is done to them. -/
import Derived.Test.YtmfbknmcmopjnaaAtMath
import Derived.Laws.BitsAll
namespace Go.Proofs.Ytmfbknmcmopjnaa.Lab
open Go Go.RowKit

/-! ### words -/
def ofB : List Bool → Nat
  | [] => 0
  | b :: r => b.toNat + 2 * ofB r
theorem ofB_bit : ∀ (l : List Bool) (i : Nat), (ofB l).testBit i = l.getD i false
  | [], i => by simp [ofB]
  | b :: r, 0 => by
    rw [ofB, Nat.testBit_zero]
    cases b <;> simp <;> omega
  | b :: r, i + 1 => by
    have e : (b.toNat + 2 * ofB r) / 2 = ofB r := by cases b <;> simp <;> omega
    rw [ofB, Nat.testBit_succ, e, ofB_bit r i]
    simp
def wd (L : List Bool) (k : Nat) : Nat := ofB ((L.drop (64 * k)).take 64)
theorem wd_bit (L : List Bool) (k i : Nat) : (wd L k).testBit i = (decide (i < 64) && L.getD (64 * k + i) false) := by
  rw [wd, ofB_bit]
  simp only [List.getD_eq_getElem?_getD, List.getElem?_take, List.getElem?_drop]
  by_cases h : i < 64 <;> simp [h]
theorem wd_lt (L : List Bool) (k : Nat) : wd L k < 18446744073709551616 := by
  rw [show 18446744073709551616 = 2 ^ 64 by rfl]
  refine Nat.lt_pow_two_of_testBit _ fun i hi => ?_
  rw [wd_bit]
  simp [Nat.not_lt.2 hi]
theorem getD_set (L : List Bool) (c j : Nat) (v : Bool) (hc : c < L.length) : (L.set c v).getD j false = if c = j then v else L.getD j false := by
  simp only [List.getD_eq_getElem?_getD, List.getElem?_set]
  by_cases h : c = j
  · subst h
    simp [hc]
  · simp [h]
theorem at_word (c k i : Nat) (hi : i < 64) : c = 64 * k + i ↔ k = c / 64 ∧ i = c % 64 := by omega
theorem wd_set (L : List Bool) (c k : Nat) (hc : c < L.length) : wd (L.set c true) k = if k = c / 64 then wd L k ||| 2 ^ (c % 64) else wd L k := by
  refine Nat.eq_of_testBit_eq fun i => ?_
  rw [wd_bit, getD_set _ _ _ _ hc]
  by_cases hi : i < 64
  · have ha := at_word c k i hi
    by_cases hk : k = c / 64
    · rw [if_pos hk, Nat.testBit_or, wd_bit, Nat.testBit_two_pow]
      by_cases he : c % 64 = i
      · rw [if_pos (ha.2 ⟨hk, he.symm⟩)]
        simp [hi, he]
      · rw [if_neg (fun q => he (ha.1 q).2.symm)]
        simp [hi, he]
    · rw [if_neg hk, wd_bit, if_neg (fun q => hk (ha.1 q).1)]
  · by_cases hk : k = c / 64
    · rw [if_pos hk, Nat.testBit_or, wd_bit, Nat.testBit_two_pow]
      have he : ¬ c % 64 = i := by omega
      simp [hi, he]
    · rw [if_neg hk, wd_bit]
      simp [hi]
theorem wd_unset (L : List Bool) (c k : Nat) (hc : c < L.length) : wd (L.set c false) k = if k = c / 64 then wd L k &&& (18446744073709551615 - 2 ^ (c % 64)) else wd L k := by
  have hp : 2 ^ (c % 64) < 2 ^ 64 := Nat.pow_lt_pow_right (by decide) (Nat.mod_lt _ (by decide))
  have e : 18446744073709551615 - 2 ^ (c % 64) = 2 ^ 64 - (2 ^ (c % 64) + 1) := by omega
  refine Nat.eq_of_testBit_eq fun i => ?_
  rw [wd_bit, getD_set _ _ _ _ hc]
  by_cases hi : i < 64
  · have ha := at_word c k i hi
    by_cases hk : k = c / 64
    · rw [if_pos hk, Nat.testBit_and, wd_bit, e, Nat.testBit_two_pow_sub_succ hp, Nat.testBit_two_pow]
      by_cases he : c % 64 = i
      · rw [if_pos (ha.2 ⟨hk, he.symm⟩)]
        simp [hi, he]
      · rw [if_neg (fun q => he (ha.1 q).2.symm)]
        simp [hi, he]
    · rw [if_neg hk, wd_bit, if_neg (fun q => hk (ha.1 q).1)]
  · by_cases hk : k = c / 64
    · rw [if_pos hk, Nat.testBit_and, wd_bit]
      simp [hi]
    · rw [if_neg hk, wd_bit]
      simp [hi]
theorem wd_inj {L M : List Bool} (hl : L.length = M.length) (hL : L.length ≤ 512) (h : ∀ k, k < 8 → wd L k = wd M k) : L = M := by
  refine List.ext_getElem hl fun j h1 h2 => ?_
  have hk := congrArg (·.testBit (j % 64)) (h (j / 64) (by omega))
  simp only [wd_bit] at hk
  have hj : j % 64 < 64 := Nat.mod_lt _ (by decide)
  rw [show 64 * (j / 64) + j % 64 = j by omega] at hk
  simpa [hj, List.getD_eq_getElem?_getD, h1, h2] using hk
theorem wd_nil (L : List Bool) (h : ∀ j, L.getD j false = false) (k : Nat) : wd L k = 0 := by
  refine Nat.eq_of_testBit_eq fun i => ?_
  rw [wd_bit, h]
  simp
theorem wd_test (L : List Bool) (c : Nat) : (wd L (c / 64) &&& 2 ^ (c % 64) = 0) ↔ L.getD c false = false := by
  have hj : c % 64 < 64 := Nat.mod_lt _ (by decide)
  have hc := wd_bit L (c / 64) (c % 64)
  rw [show 64 * (c / 64) + c % 64 = c by omega] at hc
  constructor
  · intro h
    have := congrArg (·.testBit (c % 64)) h
    simp only [Nat.testBit_and, hc, Nat.testBit_two_pow] at this
    simpa [hj] using this
  · intro h
    refine Nat.eq_of_testBit_eq fun i => ?_
    rw [Nat.testBit_and, Nat.testBit_two_pow]
    by_cases e : c % 64 = i
    · rw [← e, hc, h]
      simp
    · simp [e]

/-! ### tab stops -/
structure Tb where
  L : List Bool
  b : Nat
  l : Nat
structure Tb.Ok (t : Tb) : Prop where
  len : t.L.length ≤ 512
  b1 : t.b ≤ 1
  l1 : t.l ≤ 1
abbrev wV (L : List Bool) (k : Nat) : Value := .int .u64 (wd L k : Nat)
abbrev tbC (t : Tb) : Array Value := #[wV t.L 0, wV t.L 1, wV t.L 2, wV t.L 3, wV t.L 4, wV t.L 5, wV t.L 6, wV t.L 7, .int .i64 (t.L.length : Nat), .int .u8 (t.b : Nat), .int .u8 (t.l : Nat)]
abbrev tbV (t : Tb) : Value := .agg (tbC t)

def inN (n : Int) (a b : Int) : Int := min (max n a) b
def firstB (i : Nat) : Bool := decide (0 < i ∧ i % 8 = 0)
def szN (c : Int) : Nat := (inN c 0 512).toNat
def newM (c : Int) (b : Nat) : Tb := ⟨(List.range (szN c)).map firstB, b, b⟩
def putB (v : Bool) (L : List Bool) (c : Int) : List Bool := if 0 ≤ c then L.set c.toNat v else L
def putL (v : Bool) (L : List Bool) (cs : List Int) : List Bool := cs.foldl (putB v) L
def Tb.raise (t : Tb) (l : Nat) : Tb := { t with l := max t.l l }
def Tb.decl (t : Tb) : Tb := { t with l := t.b }
def Tb.put (t : Tb) (v : Bool) (l : Nat) (cs : List Int) : Tb := ⟨putL v t.L cs, t.b, max t.l l⟩
def Tb.none (t : Tb) : Tb := ⟨List.replicate t.L.length false, t.b, t.b⟩
def resL (L : List Bool) (n : Nat) : List Bool := (List.range n).map fun i => if i < L.length then L.getD i false else firstB i
def Tb.res (t : Tb) (c : Int) : Tb := { t with L := resL t.L (szN c) }
def Tb.last (t : Tb) : Nat := t.L.length - 1
theorem len_putB (v : Bool) (L : List Bool) (c : Int) : (putB v L c).length = L.length := by unfold putB; split <;> simp
theorem len_putL (v : Bool) : ∀ (cs : List Int) (L : List Bool), (putL v L cs).length = L.length
  | [], _ => rfl
  | c :: cs, L => (len_putL v cs (putB v L c)).trans (len_putB v L c)
theorem putL_cons (v : Bool) (L : List Bool) (c : Int) (cs : List Int) : putL v L (c :: cs) = putL v (putB v L c) cs := rfl
theorem putL_snoc (v : Bool) (L : List Bool) (cs : List Int) (c : Int) : putL v L (cs ++ [c]) = putB v (putL v L cs) c := by simp [putL]
theorem szN_le (c : Int) : szN c ≤ 512 := by unfold szN inN; omega
theorem len_newM (c : Int) (b : Nat) : (newM c b).L.length = szN c := by simp [newM]
theorem len_resL (L : List Bool) (n : Nat) : (resL L n).length = n := by simp [resL]
theorem newM_ok (c : Int) {b : Nat} (hb : b ≤ 1) : (newM c b).Ok := ⟨by rw [len_newM]; exact szN_le c, hb, hb⟩
theorem Tb.Ok.raise {t : Tb} (h : t.Ok) {l : Nat} (hl : l ≤ 1) : (t.raise l).Ok := ⟨h.len, h.b1, Nat.max_le.2 ⟨h.l1, hl⟩⟩
theorem Tb.Ok.decl {t : Tb} (h : t.Ok) : t.decl.Ok := ⟨h.len, h.b1, h.b1⟩
theorem Tb.Ok.put {t : Tb} (h : t.Ok) (v : Bool) {l : Nat} (hl : l ≤ 1) (cs : List Int) : (t.put v l cs).Ok := ⟨by rw [Tb.put, len_putL]; exact h.len, h.b1, Nat.max_le.2 ⟨h.l1, hl⟩⟩
theorem Tb.Ok.none {t : Tb} (h : t.Ok) : t.none.Ok := ⟨by rw [Tb.none, List.length_replicate]; exact h.len, h.b1, h.b1⟩
theorem Tb.Ok.res {t : Tb} (h : t.Ok) (c : Int) : (t.res c).Ok := ⟨by rw [Tb.res, len_resL]; exact szN_le c, h.b1, h.l1⟩

/-! ### what a bit is behind each change -/
theorem getD_putB (v : Bool) (L : List Bool) (c : Int) (j : Nat) : (putB v L c).getD j false = if c = j ∧ j < L.length then v else L.getD j false := by
  unfold putB
  split
  · rename_i h
    obtain ⟨n, rfl⟩ := Int.eq_ofNat_of_zero_le h
    simp only [Int.toNat_natCast]
    by_cases hn : n < L.length
    · rw [getD_set _ _ _ _ hn]
      by_cases e : n = j
      · subst e
        simp [hn]
      · rw [if_neg e, if_neg (by omega)]
    · rw [List.set_eq_of_length_le (by omega), if_neg (by omega)]
  · rw [if_neg (by omega)]
theorem getD_putL (v : Bool) (j : Nat) : ∀ (cs : List Int) (L : List Bool), (putL v L cs).getD j false = if (j : Int) ∈ cs ∧ j < L.length then v else L.getD j false
  | [], L => by simp [putL]
  | c :: cs, L => by
    rw [putL_cons, getD_putL v j cs, len_putB, getD_putB]
    by_cases h1 : (j : Int) ∈ cs <;> by_cases h2 : j < L.length <;> by_cases h3 : c = (j : Int) <;> simp [h1, h2, h3, eq_comm]
theorem getD_resL (L : List Bool) (n j : Nat) : (resL L n).getD j false = if j < n then (if j < L.length then L.getD j false else firstB j) else false := by
  unfold resL
  rw [List.getD_eq_getElem?_getD, List.getElem?_map]
  by_cases h : j < n
  · rw [if_pos h, List.getElem?_range h]
    rfl
  · rw [if_neg h, List.getElem?_eq_none (by simpa using h)]
    rfl
theorem getD_new (c : Int) (b j : Nat) : (newM c b).L.getD j false = if j < szN c then firstB j else false := by
  unfold newM
  rw [List.getD_eq_getElem?_getD, List.getElem?_map]
  by_cases h : j < szN c
  · rw [if_pos h, List.getElem?_range h]
    rfl
  · rw [if_neg h, List.getElem?_eq_none (by simpa using h)]
    rfl
theorem bools_ext {L M : List Bool} (hl : L.length = M.length) (h : ∀ j, j < L.length → L.getD j false = M.getD j false) : L = M := by
  refine List.ext_getElem hl fun j h1 h2 => ?_
  have := h j h1
  simpa [List.getD_eq_getElem?_getD, h1, h2] using this
theorem getD_out {L : List Bool} {j : Nat} (h : L.length ≤ j) : L.getD j false = false := by
  rw [List.getD_eq_getElem?_getD, List.getElem?_eq_none h]
  rfl

/-! ### tab stops, told -/
def stops (L : List Bool) : List Nat := (List.range L.length).filter fun i => L.getD i false
def ups (L : List Bool) (a : Nat) : List Nat := (List.range' a (L.length - a)).filter fun i => L.getD i false
def downs (L : List Bool) : Nat → List Nat
  | 0 => []
  | a + 1 => if L.getD a false then a :: downs L a else downs L a
theorem ups_step (L : List Bool) {a : Nat} (h : a < L.length) : ups L a = if L.getD a false then a :: ups L (a + 1) else ups L (a + 1) := by
  unfold ups
  rw [show L.length - a = (L.length - (a + 1)) + 1 by omega, List.range'_succ, List.filter_cons]
theorem ups_out (L : List Bool) {a : Nat} (h : L.length ≤ a) : ups L a = [] := by
  unfold ups
  rw [show L.length - a = 0 by omega]
  rfl
theorem ups_zero (L : List Bool) : ups L 0 = stops L := by
  unfold ups stops
  rw [Nat.sub_zero, List.range_eq_range']
def lows (L : List Bool) (a : Nat) : List Nat := (List.range (min a L.length)).filter fun i => L.getD i false
theorem stops_split (L : List Bool) (a : Nat) : stops L = lows L a ++ ups L a := by
  unfold stops lows ups
  rw [← List.filter_append]
  congr 1
  by_cases h : a ≤ L.length
  · rw [Nat.min_eq_left h, List.range_eq_range', List.range_eq_range']
    have := List.range'_append_1 (s := 0) (m := a) (n := L.length - a)
    rw [Nat.zero_add, Nat.add_sub_cancel' h] at this
    exact this.symm
  · rw [Nat.min_eq_right (by omega), show L.length - a = 0 by omega]
    simp
theorem downs_eq (L : List Bool) : ∀ a, downs L a = (lows L a).reverse
  | 0 => by simp [downs, lows]
  | a + 1 => by
    rw [downs, downs_eq L a]
    unfold lows
    by_cases h : a < L.length
    · rw [Nat.min_eq_left (by omega : a + 1 ≤ L.length), Nat.min_eq_left (by omega : a ≤ L.length), List.range_succ, List.filter_append, List.reverse_append]
      by_cases e : L.getD a false = true
      · rw [if_pos e, List.filter_cons, if_pos e]
        rfl
      · rw [if_neg e, List.filter_cons, if_neg e]
        rfl
    · rw [Nat.min_eq_right (by omega : L.length ≤ a + 1), Nat.min_eq_right (by omega : L.length ≤ a), getD_out (by omega)]
      rfl
theorem stops_lt (L : List Bool) : (stops L).Pairwise (· < ·) := List.Pairwise.filter _ List.pairwise_lt_range
theorem mem_stops {L : List Bool} {i : Nat} : i ∈ stops L ↔ i < L.length ∧ L.getD i false = true := by
  unfold stops
  rw [List.mem_filter, List.mem_range]
theorem stops_len (L : List Bool) : (stops L).length ≤ L.length := by
  have := List.length_filter_le (fun i => L.getD i false) (List.range L.length)
  rw [List.length_range] at this
  exact this
theorem ups_at {L : List Bool} {a : Nat} (h : L.getD a false = true) : ups L a = a :: ups L (a + 1) := by
  have hl : a < L.length := by
    rcases Nat.lt_or_ge a L.length with c | c
    · exact c
    · rw [getD_out c] at h
      cases h
  rw [ups_step L hl, if_pos h]
theorem stop_at {L : List Bool} {i : Nat} (h : i < (stops L).length) : lows L (stops L)[i] = (stops L).take i ∧ ups L ((stops L)[i] + 1) = (stops L).drop (i + 1) := by
  obtain ⟨a, ha⟩ : ∃ a, a = (stops L)[i] := ⟨_, rfl⟩
  have hm := mem_stops.1 (ha ▸ List.getElem_mem h)
  have hs := stops_split L a
  rw [ups_at hm.2] at hs
  have hk : (lows L a).length < (stops L).length := by rw [hs]; simp
  have hv : (stops L)[(lows L a).length] = a := by
    have : (stops L)[(lows L a).length]? = some a := by rw [hs]; simp
    exact Option.some.inj ((List.getElem?_eq_getElem hk).symm.trans this)
  have hik : (lows L a).length = i := by
    rcases Nat.lt_trichotomy (lows L a).length i with c | c | c
    · have := List.pairwise_iff_getElem.1 (stops_lt L) _ _ hk h c
      omega
    · exact c
    · have := List.pairwise_iff_getElem.1 (stops_lt L) _ _ h hk c
      omega
  rw [← ha]
  refine ⟨?_, ?_⟩
  · rw [hs, ← hik, List.take_left]
  · rw [hs, ← hik, ← List.drop_drop, List.drop_left]
    rfl
theorem lows_all (L : List Bool) : lows L L.length = stops L := by simp [lows, stops]

def lastM (L : List Bool) : Nat := L.length - 1
def edgeM (L : List Bool) (c : Int) : Nat := (inN c 0 (lastM L)).toNat
def nextM (L : List Bool) (c n : Int) : Nat := if n < 1 then edgeM L c else (ups L (inN c (-1) L.length + 1).toNat).getD (n - 1).toNat (lastM L)
def backM (L : List Bool) (c n : Int) : Nat := if n < 1 then edgeM L c else (downs L (inN c (-1) L.length).toNat).getD (n - 1).toNat 0
theorem next_one (L : List Bool) {c : Int} {a : Nat} (h0 : -1 ≤ c) (h1 : c ≤ L.length) (ha : c + 1 = a) : nextM L c 1 = (ups L a).getD 0 (lastM L) := by
  unfold nextM inN
  rw [if_neg (by omega), show (min (max c (-1)) (L.length : Int) + 1).toNat = a by omega]
  rfl
theorem back_one (L : List Bool) {a : Nat} (h1 : a ≤ L.length) : backM L (a : Int) 1 = (downs L a).getD 0 0 := by
  unfold backM inN
  rw [if_neg (by omega), show (min (max (a : Int) (-1)) (L.length : Int)).toNat = a by omega]
  rfl
theorem next_start (L : List Bool) : nextM L (-1) 1 = (stops L).getD 0 (lastM L) := by
  rw [next_one L (a := 0) (by omega) (by omega) (by omega), ups_zero]
theorem stop_lt {L : List Bool} {i : Nat} (h : i < (stops L).length) : (stops L)[i] < L.length := (mem_stops.1 (List.getElem_mem h)).1
theorem next_stop {L : List Bool} {i : Nat} (h : i < (stops L).length) : nextM L ((stops L)[i] : Nat) 1 = (stops L).getD (i + 1) (lastM L) := by
  have hl := stop_lt h
  rw [next_one L (a := (stops L)[i] + 1) (by omega) (by omega) (by omega), (stop_at h).2]
  simp [List.getD_eq_getElem?_getD, List.getElem?_drop]
theorem next_last (L : List Bool) : nextM L (lastM L : Nat) 1 = lastM L := by
  rw [next_one L (a := lastM L + 1) (by omega) (by unfold lastM; omega) (by omega), ups_out L (by unfold lastM; omega)]
  rfl
theorem back_stop {L : List Bool} {i : Nat} (h : i < (stops L).length) : backM L ((stops L)[i] : Nat) 1 = ((stops L).take i).reverse.getD 0 0 := by
  have hl := stop_lt h
  rw [back_one L (by omega), downs_eq, (stop_at h).1]
theorem back_end (L : List Bool) : backM L (L.length : Nat) 1 = (stops L).reverse.getD 0 0 := by
  rw [back_one L (Nat.le_refl _), downs_eq, lows_all]
theorem back_zero (L : List Bool) : backM L (0 : Nat) 1 = 0 := by
  rw [back_one L (Nat.zero_le _)]
  rfl
theorem lt_of_getD {L : List Bool} {a : Nat} (h : L.getD a false = true) : a < L.length := by
  rcases Nat.lt_or_ge a L.length with c | c
  · exact c
  · rw [getD_out c] at h
    cases h
/-- n at once are n one by one. -/
theorem ups_drop (L : List Bool) (a k x : Nat) (h : (ups L a)[k]? = some x) : x < L.length ∧ ups L (x + 1) = (ups L a).drop (k + 1) := by
  have hs := stops_split L a
  have hk : k < (ups L a).length := (List.getElem?_eq_some_iff.1 h).1
  have hi : (lows L a).length + k < (stops L).length := by rw [hs, List.length_append]; omega
  have hx : (stops L)[(lows L a).length + k] = x := by
    have : (stops L)[(lows L a).length + k]? = some x := by rw [hs, List.getElem?_append_right (by omega), Nat.add_sub_cancel_left]; exact h
    exact Option.some.inj ((List.getElem?_eq_getElem hi).symm.trans this)
  have := stop_at hi
  rw [hx] at this
  refine ⟨hx ▸ stop_lt hi, this.2.trans ?_⟩
  conv => lhs; rw [hs]
  rw [Nat.add_assoc, ← List.drop_drop, List.drop_left]
theorem downs_drop (L : List Bool) (a k x : Nat) (h : (downs L a)[k]? = some x) : x < L.length ∧ downs L x = (downs L a).drop (k + 1) := by
  rw [downs_eq] at h ⊢
  have hs := stops_split L a
  have hk : k < (lows L a).length := by have := (List.getElem?_eq_some_iff.1 h).1; simpa using this
  rw [List.getElem?_reverse hk] at h
  have hi : (lows L a).length - 1 - k < (stops L).length := by rw [hs, List.length_append]; omega
  have hx : (stops L)[(lows L a).length - 1 - k] = x := by
    have : (stops L)[(lows L a).length - 1 - k]? = some x := by rw [hs, List.getElem?_append_left (by omega)]; exact h
    exact Option.some.inj ((List.getElem?_eq_getElem hi).symm.trans this)
  have := stop_at hi
  rw [hx] at this
  refine ⟨hx ▸ stop_lt hi, ?_⟩
  rw [downs_eq, this.1, hs, List.take_append_of_le_length (by omega), List.drop_reverse]
  congr 2
  omega
theorem next_many (L : List Bool) (k : Nat) : nextM L 0 ((k + 1 : Nat) : Int) = nextM L (nextM L 0 (k : Nat) : Nat) 1 := by
  by_cases h0 : L.length = 0
  · obtain rfl := List.eq_nil_of_length_eq_zero h0
    unfold nextM edgeM lastM inN
    simp [ups]
  have one : ∀ n : Nat, nextM L 0 ((n + 1 : Nat) : Int) = (ups L 1).getD n (lastM L) := fun n => by
    unfold nextM inN
    rw [if_neg (by omega), show (min (max 0 (-1)) (L.length : Int) + 1).toNat = 1 by omega, show (((n + 1 : Nat) : Int) - 1).toNat = n by omega]
  rw [one k]
  cases k with
  | zero =>
    rw [show nextM L 0 (0 : Nat) = 0 by unfold nextM edgeM inN; rw [if_pos (by decide)]; omega, next_one L (a := 1) (by omega) (by omega) (by omega)]
  | succ k =>
    rw [one k]
    cases h : (ups L 1)[k]? with
    | none =>
      rw [List.getD_eq_getElem?_getD, List.getD_eq_getElem?_getD, h, List.getElem?_eq_none (by have := List.getElem?_eq_none_iff.1 h; omega)]
      exact (next_last L).symm
    | some x =>
      obtain ⟨hx, hu⟩ := ups_drop L 1 k x h
      rw [List.getD_eq_getElem?_getD, List.getD_eq_getElem?_getD, h, Option.getD_some, next_one L (a := x + 1) (by omega) (by omega) (by omega), hu]
      simp [List.getD_eq_getElem?_getD, List.getElem?_drop]
theorem back_many (L : List Bool) (k : Nat) : backM L (lastM L : Nat) ((k + 1 : Nat) : Int) = backM L (backM L (lastM L : Nat) (k : Nat) : Nat) 1 := by
  by_cases h0 : L.length = 0
  · obtain rfl := List.eq_nil_of_length_eq_zero h0
    have e : ∀ a, downs [] a = [] := fun a => by induction a with
      | zero => rfl
      | succ a ih => rw [downs, ih]; rfl
    unfold backM edgeM lastM inN
    simp only [e]
    simp
  have hl : lastM L < L.length := by unfold lastM; omega
  have one : ∀ n : Nat, backM L (lastM L : Nat) ((n + 1 : Nat) : Int) = (downs L (lastM L)).getD n 0 := fun n => by
    unfold backM inN
    rw [if_neg (by omega), show (min (max (lastM L : Int) (-1)) (L.length : Int)).toNat = lastM L by omega, show (((n + 1 : Nat) : Int) - 1).toNat = n by omega]
  rw [one k]
  cases k with
  | zero =>
    rw [show backM L (lastM L : Nat) (0 : Nat) = lastM L by unfold backM edgeM inN; simp, back_one L (by omega)]
  | succ k =>
    rw [one k]
    cases h : (downs L (lastM L))[k]? with
    | none =>
      rw [List.getD_eq_getElem?_getD, List.getD_eq_getElem?_getD, h, List.getElem?_eq_none (by have := List.getElem?_eq_none_iff.1 h; omega)]
      exact (back_zero L).symm
    | some x =>
      obtain ⟨hx, hu⟩ := downs_drop L (lastM L) k x h
      rw [List.getD_eq_getElem?_getD, List.getD_eq_getElem?_getD, h, Option.getD_some, back_one L (by omega), hu]
      simp [List.getD_eq_getElem?_getD, List.getElem?_drop]
end Go.Proofs.Ytmfbknmcmopjnaa.Lab
