/- Whether parameters may be; rows of rows held against each other; heads. -/
import Derived.Test.YtclaopidjfekmaaDoorToPar
namespace Go.Proofs.YtclaopidjfekmaaDoor.Lab
open Go.RowKit

theorem take_at' {α : Type} (l : List α) (d : α) {k : Nat} (h : k < l.length) : l.take (k + 1) = l.take k ++ [l.getD k d] := by
  rw [List.take_succ_eq_append_getElem h, List.getD_eq_getElem?_getD, List.getElem?_eq_getElem h]
  rfl
theorem getD_mem' {α : Type} {l : List α} (d : α) {k : Nat} (h : k < l.length) : l.getD k d ∈ l := by
  rw [List.getD_eq_getElem?_getD, List.getElem?_eq_getElem h]
  exact List.getElem_mem h

set_option maxHeartbeats 2000000 in
theorem every_mat (v : Value) (l : Rws) (w : World) (hM : MatAt w v l) : Calls Tryd.prog 75 #[v, .func (.func 76) #[] #[]] w fun e w' => e = .returned (.bool (l.all rowB)) ∧ w = w' := by
  obtain ⟨a, cp, rfl, hm, hc⟩ := hM
  unfold maxLen at hm
  obtain ⟨n, hn⟩ : ∃ n, l.length = n := ⟨_, rfl⟩
  rw [hn] at hc hm ⊢
  have HC := Lib.hid hc
  have HN := Lib.hid hn
  clear hc hn
  go_enter Tryd.func75, Tryd.ntmps75
  go_wp2
  go_loop [9] (fun i => ∃ k : Nat, k ≤ n ∧ i = .int .i64 k ∧ Hid ((l.take k).all rowB = true)) (fun i => n - (intOf i).toNat)
  case atStart => exact ⟨0, Nat.zero_le _, rfl, Lib.hid (by simp)⟩
  case round =>
    obtain ⟨k, hk, rfl, HA⟩ := hrel
    by_cases hlt : k < n
    · obtain ⟨g, o, ha, hcell⟩ := HC.out (by omega)
      obtain ⟨u, c1, hu⟩ := hcell k hlt
      have HU := Lib.hid hu
      have HX := Lib.hid (take_at' l [] (k := k) (by rw [HN.out]; exact hlt))
      have HE := Lib.hid (getD_mem' (l := l) [] (k := k) (by rw [HN.out]; exact hlt))
      clear hcell hu
      subst ha
      obtain ⟨q, hq⟩ : ∃ q, rowB (l.getD k []) = q := ⟨_, rfl⟩
      have HQ := Lib.hid hq
      clear hq
      cases q
      · go_wp2_with fail
        refine (row1_any _ _ _ HU.out).mono ?_
        rintro e w' ⟨rfl, rfl⟩
        rw [HQ.out]
        go_wp2
        go_ret
        refine ⟨?_, rfl⟩
        have : l.all rowB = false := by
          rw [List.all_eq_false]
          exact ⟨_, HE.out, by rw [HQ.out]; simp⟩
        rw [this]
        rfl
      · go_wp2_with fail
        refine (row1_any _ _ _ HU.out).mono ?_
        rintro e w' ⟨rfl, rfl⟩
        rw [HQ.out]
        go_wp2
        go_round
        case rel => exact ⟨k + 1, by omega, by go_num, Lib.hid (by rw [HX.out, List.all_append, HA.out, List.all_cons, HQ.out]; rfl)⟩
        case measure => simp [intOf]; omega
    · go_wp2
      go_ret
      refine ⟨?_, rfl⟩
      have := HA.out
      rw [List.take_of_length_le (by rw [HN.out]; omega)] at this
      rw [this]
      rfl

theorem minus_made (w : World) : NumsAt (w.alloc (.cells #[.int .i64 (-1)] 3)) (.slice (some ⟨w.heap.size, 0, none⟩) 1 1) [-1] := by
  refine ⟨_, 1, rfl, by simp [maxLen], fun _ => ⟨_, _, rfl, fun j hj => ?_⟩⟩
  have hj' : j < 1 := hj
  obtain rfl : j = 0 := by omega
  simp

set_option maxHeartbeats 2000000 in
set_option maxRecDepth 100000 in
theorem params_any (v : Value) (R : Rws) (w : World) (hM : MatAt w v R) : Calls Tryd.prog 64 #[v] w fun e w' => e = .returned (.bool (parB R)) ∧ Below w.heap.size w w' := by
  have HM := Lib.hid hM
  obtain ⟨a, c, rfl, hm, hc⟩ := hM
  unfold maxLen at hm
  by_cases h1 : R.length = 1
  · obtain ⟨r, rfl⟩ := List.length_eq_one_iff.1 h1
    obtain ⟨g, o, rfl, hcell⟩ := hc (by simp)
    obtain ⟨u, c1, hu⟩ := hcell 0 (by simp)
    have HU := Lib.hid (show NumsAt w u r from hu)
    have HE := Lib.hid (show parB [r] = (!decide (r = [-1]) && [r].all rowB) by simp [parB])
    clear hcell hu hc hm h1
    have b1 : Below w.heap.size w (w.alloc (.cells #[.int .i64 (-1)] 3)) := (Below.refl _ _).alloc (Nat.le_refl _) _
    have C := Lib.hid (equal_any _ _ r [-1] _ (HU.out.below b1) (minus_made w))
    have HB := Lib.hid b1
    have HM1 := Lib.hid (HM.out.below b1)
    simp only [List.length_cons, List.length_nil, Nat.zero_add, Nat.add_zero] at c1 HM1 ⊢
    obtain ⟨q, hq⟩ : ∃ q, decide (r = [-1]) = q := ⟨_, rfl⟩
    have HQ := Lib.hid hq
    clear hq b1
    cases q
    · go_enter Tryd.func64, Tryd.ntmps64
      go_wp2_with fail
      refine C.out.mono ?_
      rintro e w2 ⟨rfl, b2⟩
      rw [HQ.out]
      have HB2 := Lib.hid (HB.out.trans (b2.mono HB.out.size))
      have HM2 := Lib.hid (HM1.out.below b2)
      clear b2
      go_wp2_with fail
      refine (every_mat _ [r] _ HM2.out).mono ?_
      rintro e w3 ⟨rfl, rfl⟩
      go_wp2
      go_ret
      refine ⟨?_, HB2.out⟩
      have e9 : parB [r] = rowB r := by rw [HE.out, HQ.out]; simp
      rw [e9]
      rfl
    · go_enter Tryd.func64, Tryd.ntmps64
      go_wp2_with fail
      refine C.out.mono ?_
      rintro e w2 ⟨rfl, b2⟩
      rw [HQ.out]
      have HB2 := Lib.hid (HB.out.trans (b2.mono HB.out.size))
      clear b2
      go_wp2
      go_ret
      exact ⟨by rw [HE.out, HQ.out]; rfl, HB2.out⟩
  · have HE := Lib.hid (show parB R = (decide (R.length ≤ 32) && R.all rowB) by
      rw [parB, decide_eq_false (by rintro rfl; exact h1 rfl)]
      rfl)
    obtain ⟨n, hn⟩ : ∃ n, R.length = n := ⟨_, rfl⟩
    rw [hn] at hm h1 ⊢
    have HN := Lib.hid hn
    have e1 : ((n : Int) == 1) = false := by simp; omega
    have e2 : (n == 1) = false := by simpa using h1
    clear hn hc h1
    rw [HN.out] at HE HM
    clear HN
    by_cases h3 : n ≤ 32
    · have hE := HE.out
      rw [decide_eq_true h3] at hE
      have HE := Lib.hid hE
      clear hE
      go_enter Tryd.func64, Tryd.ntmps64
      go_wp2_with fail
      refine (every_mat _ R _ ?hm).mono ?_
      case hm => exact HM.out
      rintro e w3 ⟨rfl, rfl⟩
      go_wp2
      go_ret
      exact ⟨by rw [HE.out]; rfl, Below.refl _ _⟩
    · have hE := HE.out
      rw [decide_eq_false h3] at hE
      have HE := Lib.hid hE
      have d3 : decide ((n : Int) ≤ 32) = false := by simp; omega
      clear hE
      go_enter Tryd.func64, Tryd.ntmps64
      go_wp2
      go_ret
      exact ⟨by rw [HE.out]; rfl, Below.refl _ _⟩

set_option maxHeartbeats 2000000 in
set_option maxRecDepth 100000 in
theorem equalf_any (u v : Value) (R S : Rws) (w : World) (hu : MatAt w u R) (hv : MatAt w v S) :
    Calls Tryd.prog 32 #[u, v, .func (.func 33) #[] #[]] w fun e w' => e = .returned (.bool (decide (R = S))) ∧ Below w.heap.size w w' := by
  obtain ⟨a, c, rfl, hm, hc⟩ := hu
  obtain ⟨b, d, rfl, hm', hd⟩ := hv
  unfold maxLen at hm hm'
  obtain ⟨n, hn⟩ : ∃ n, R.length = n := ⟨_, rfl⟩
  obtain ⟨m, hm2⟩ : ∃ m, S.length = m := ⟨_, rfl⟩
  rw [hn] at hm hc ⊢
  rw [hm2] at hm' hd ⊢
  have HN := Lib.hid hn
  have HS := Lib.hid hm2
  have HC := Lib.hid hc
  have HD := Lib.hid hd
  clear hn hm2 hc hd
  by_cases h1 : n = m
  · subst h1
    go_enter Tryd.func32, Tryd.ntmps32
    go_wp2
    go_loopw [17] (fun i wr => ∃ k : Nat, k ≤ n ∧ i = .int .i64 k ∧ Hid (R.take k = S.take k) ∧ Hid (Below w.heap.size w wr)) (fun i _ => n - (intOf i).toNat)
    case atStart => exact ⟨0, Nat.zero_le _, rfl, Lib.hid rfl, Lib.hid (Below.refl _ _)⟩
    case round =>
      obtain ⟨k, hk, rfl, HA, HB⟩ := hrel
      by_cases hlt : k < n
      · obtain ⟨g, o, ha, hcell⟩ := HC.out (by omega)
        obtain ⟨g', o', hb, hcell'⟩ := HD.out (by omega)
        obtain ⟨x, c1, hx⟩ := hcell k hlt
        obtain ⟨y, c2, hy⟩ := hcell' k hlt
        have d1 := Keeps.of HB.out _ _ _ c1
        have d2 := Keeps.of HB.out _ _ _ c2
        have CE := Lib.hid (equal_any x y _ _ wr (hx.below HB.out) (hy.below HB.out))
        have HX := Lib.hid (take_at' R [] (k := k) (by rw [HN.out]; exact hlt))
        have HY := Lib.hid (take_at' S [] (k := k) (by rw [HS.out]; exact hlt))
        clear hcell hcell' c1 c2 hx hy
        subst ha
        subst hb
        obtain ⟨q, hq⟩ : ∃ q, decide (R.getD k [] = S.getD k []) = q := ⟨_, rfl⟩
        have HQ := Lib.hid hq
        clear hq
        cases q
        · go_wp2_with fail
          refine CE.out.mono ?_
          rintro e w' ⟨rfl, b'⟩
          rw [HQ.out]
          have HB' := Lib.hid (HB.out.trans (b'.mono HB.out.size))
          clear b'
          go_wp2
          go_ret
          refine ⟨?_, HB'.out⟩
          have : decide (R = S) = false := by
            rw [decide_eq_false_iff_not]
            rintro rfl
            have := HQ.out
            simp at this
          rw [this]
          rfl
        · go_wp2_with fail
          refine CE.out.mono ?_
          rintro e w' ⟨rfl, b'⟩
          rw [HQ.out]
          have HB' := Lib.hid (HB.out.trans (b'.mono HB.out.size))
          clear b'
          go_wp2
          go_roundw
          case rel => exact ⟨k + 1, by omega, by go_num, Lib.hid (by rw [HX.out, HY.out, HA.out, of_decide_eq_true HQ.out]), HB'⟩
          case measure => simp [intOf]; omega
      · go_wp2
        go_ret
        refine ⟨?_, HB.out⟩
        have := HA.out
        rw [List.take_of_length_le (by rw [HN.out]; omega), List.take_of_length_le (by rw [HS.out]; omega)] at this
        rw [decide_eq_true this]
        rfl
  · have HE := Lib.hid (show decide (R = S) = false by
      rw [decide_eq_false_iff_not]
      rintro rfl
      exact h1 (HN.out.symm.trans HS.out))
    have e1 : ((n : Int) != (m : Int)) = true := by simp; omega
    have e2 : (n != m) = true := by simpa using h1
    have e3 : (n == m) = false := by simpa using h1
    go_enter Tryd.func32, Tryd.ntmps32
    go_wp2
    go_ret
    exact ⟨by rw [HE.out]; rfl, Below.refl _ _⟩

def hdB (p : Int) (R : Rws) (i : ByteArray) (f : Int) : Bool := (decide (p = 0) || btw 60 63 p) && parB R && intB i && btw 64 126 f
theorem hd_iff {t : Tok} : hdB t.priv t.P t.inter t.fin = true ↔ hdOk t := by
  rw [hdB, Bool.and_eq_true, Bool.and_eq_true, Bool.and_eq_true, Bool.or_eq_true, decide_eq_true_eq, btw_iff, btw_iff, par_iff, int_iff]
  unfold hdOk
  constructor
  · rintro ⟨⟨⟨a, b⟩, c⟩, d⟩
    exact ⟨a, b, c, d⟩
  · rintro ⟨a, b, c, d⟩
    exact ⟨⟨⟨a, b⟩, c⟩, d⟩

set_option maxHeartbeats 4000000 in
set_option maxRecDepth 100000 in
theorem heads_any (k r p f : Int) (v : Value) (R : Rws) (i d : ByteArray) (w : World) (hM : MatAt w v R) (hi : i.size ≤ maxLen) :
    Calls Tryd.prog 48 #[.agg #[.int .i64 k, .int .i32 r, .int .u8 p, v, .string i, .int .u8 f, .string d]] w fun e w' => e = .returned (.bool (hdB p R i f)) ∧ Below w.heap.size w w' := by
  have HI := Lib.hid hi
  have b1 : Below w.heap.size w (w.alloc (.cells #[.int .i64 k, .int .i32 r, .int .u8 p, v, .string i, .int .u8 f, .string d] 27)) := (Below.refl _ _).alloc (Nat.le_refl _) _
  have HM := Lib.hid (hM.below b1)
  have HB := Lib.hid b1
  obtain ⟨q2, hq2⟩ : ∃ q, parB R = q := ⟨_, rfl⟩
  obtain ⟨q3, hq3⟩ : ∃ q, intB i = q := ⟨_, rfl⟩
  have H2 := Lib.hid hq2
  have H3 := Lib.hid hq3
  clear hM hi b1 hq2 hq3
  have K0 : ∀ o x, (#[.int .i64 k, .int .i32 r, .int .u8 p, v, .string i, .int .u8 f, .string d] : Array Value)[o]? = some x → (w.alloc (.cells #[.int .i64 k, .int .i32 r, .int .u8 p, v, .string i, .int .u8 f, .string d] 27)).cell? ⟨w.heap.size, o, none⟩ = some x := by
    intro o x h
    rw [World.cell?_alloc_new]
    exact h
  have HK := Lib.hid K0
  clear K0
  by_cases hp : p = 0
  · subst hp
    cases q2
    · go_enter Tryd.func48, Tryd.ntmps48
      go_wp2_with fail
      refine (params_any _ R _ HM.out).mono ?_
      rintro e w2 ⟨rfl, b2⟩
      rw [H2.out]
      have HB2 := Lib.hid (HB.out.trans (b2.mono HB.out.size))
      have c4 := Keeps.of b2 _ _ _ (HK.out 4 _ rfl)
      have c5 := Keeps.of b2 _ _ _ (HK.out 5 _ rfl)
      clear b2
      go_wp2
      go_ret
      exact ⟨by rw [hdB, show (decide ((0 : Int) = 0) || btw 60 63 0) = true from rfl, H2.out]; rfl, HB2.out⟩
    · cases q3
      · go_enter Tryd.func48, Tryd.ntmps48
        go_wp2_with fail
        refine (params_any _ R _ HM.out).mono ?_
        rintro e w2 ⟨rfl, b2⟩
        rw [H2.out]
        have HB2 := Lib.hid (HB.out.trans (b2.mono HB.out.size))
        have c4 := Keeps.of b2 _ _ _ (HK.out 4 _ rfl)
        have c5 := Keeps.of b2 _ _ _ (HK.out 5 _ rfl)
        clear b2
        go_wp2_with fail
        refine (between_any i HI.out _).mono ?_
        rintro e w3 ⟨rfl, b3⟩
        rw [H3.out]
        have HB3 := Lib.hid (HB2.out.trans (b3.mono HB2.out.size))
        have c6 := Keeps.of b3 _ _ _ c5
        clear b3 c4 c5
        go_wp2
        go_ret
        exact ⟨by rw [hdB, show (decide ((0 : Int) = 0) || btw 60 63 0) = true from rfl, H2.out, H3.out]; rfl, HB3.out⟩
      · go_enter Tryd.func48, Tryd.ntmps48
        go_wp2_with fail
        refine (params_any _ R _ HM.out).mono ?_
        rintro e w2 ⟨rfl, b2⟩
        rw [H2.out]
        have HB2 := Lib.hid (HB.out.trans (b2.mono HB.out.size))
        have c4 := Keeps.of b2 _ _ _ (HK.out 4 _ rfl)
        have c5 := Keeps.of b2 _ _ _ (HK.out 5 _ rfl)
        clear b2
        go_wp2_with fail
        refine (between_any i HI.out _).mono ?_
        rintro e w3 ⟨rfl, b3⟩
        rw [H3.out]
        have HB3 := Lib.hid (HB2.out.trans (b3.mono HB2.out.size))
        have c6 := Keeps.of b3 _ _ _ c5
        clear b3 c4 c5
        go_wp2_with fail
        refine (within_u8 _ _ _ _).mono ?_
        rintro e w4 ⟨rfl, rfl⟩
        go_wp2
        go_ret
        exact ⟨by rw [hdB, show (decide ((0 : Int) = 0) || btw 60 63 0) = true from rfl, H2.out, H3.out]; rfl, HB3.out⟩
  · have e1 : (p == 0) = false := by simpa using hp
    have e2 : (p != 0) = true := by simpa using hp
    obtain ⟨q, hq⟩ : ∃ q, btw 60 63 p = q := ⟨_, rfl⟩
    have HP := Lib.hid hq
    have HF := Lib.hid (show (decide (p = 0) || btw 60 63 p) = q by rw [hq, decide_eq_false hp]; rfl)
    clear hq hp
    cases q
    · go_enter Tryd.func48, Tryd.ntmps48
      go_wp2_with fail
      refine (within_u8 _ _ _ _).mono ?_
      rintro e wx ⟨rfl, rfl⟩
      rw [HP.out]
      go_wp2
      go_ret
      exact ⟨by rw [hdB, HF.out]; rfl, HB.out⟩
    · cases q2
      · go_enter Tryd.func48, Tryd.ntmps48
        go_wp2_with fail
        refine (within_u8 _ _ _ _).mono ?_
        rintro e wx ⟨rfl, rfl⟩
        rw [HP.out]
        go_wp2_with fail
        refine (params_any _ R _ HM.out).mono ?_
        rintro e w2 ⟨rfl, b2⟩
        rw [H2.out]
        have HB2 := Lib.hid (HB.out.trans (b2.mono HB.out.size))
        have c4 := Keeps.of b2 _ _ _ (HK.out 4 _ rfl)
        have c5 := Keeps.of b2 _ _ _ (HK.out 5 _ rfl)
        clear b2
        go_wp2
        go_ret
        exact ⟨by rw [hdB, HF.out, H2.out]; rfl, HB2.out⟩
      · cases q3
        · go_enter Tryd.func48, Tryd.ntmps48
          go_wp2_with fail
          refine (within_u8 _ _ _ _).mono ?_
          rintro e wx ⟨rfl, rfl⟩
          rw [HP.out]
          go_wp2_with fail
          refine (params_any _ R _ HM.out).mono ?_
          rintro e w2 ⟨rfl, b2⟩
          rw [H2.out]
          have HB2 := Lib.hid (HB.out.trans (b2.mono HB.out.size))
          have c4 := Keeps.of b2 _ _ _ (HK.out 4 _ rfl)
          have c5 := Keeps.of b2 _ _ _ (HK.out 5 _ rfl)
          clear b2
          go_wp2_with fail
          refine (between_any i HI.out _).mono ?_
          rintro e w3 ⟨rfl, b3⟩
          rw [H3.out]
          have HB3 := Lib.hid (HB2.out.trans (b3.mono HB2.out.size))
          have c6 := Keeps.of b3 _ _ _ c5
          clear b3 c4 c5
          go_wp2
          go_ret
          exact ⟨by rw [hdB, HF.out, H2.out, H3.out]; rfl, HB3.out⟩
        · go_enter Tryd.func48, Tryd.ntmps48
          go_wp2_with fail
          refine (within_u8 _ _ _ _).mono ?_
          rintro e wx ⟨rfl, rfl⟩
          rw [HP.out]
          go_wp2_with fail
          refine (params_any _ R _ HM.out).mono ?_
          rintro e w2 ⟨rfl, b2⟩
          rw [H2.out]
          have HB2 := Lib.hid (HB.out.trans (b2.mono HB.out.size))
          have c4 := Keeps.of b2 _ _ _ (HK.out 4 _ rfl)
          have c5 := Keeps.of b2 _ _ _ (HK.out 5 _ rfl)
          clear b2
          go_wp2_with fail
          refine (between_any i HI.out _).mono ?_
          rintro e w3 ⟨rfl, b3⟩
          rw [H3.out]
          have HB3 := Lib.hid (HB2.out.trans (b3.mono HB2.out.size))
          have c6 := Keeps.of b3 _ _ _ c5
          clear b3 c4 c5
          go_wp2_with fail
          refine (within_u8 _ _ _ _).mono ?_
          rintro e w4 ⟨rfl, rfl⟩
          go_wp2
          go_ret
          exact ⟨by rw [hdB, HF.out, H2.out, H3.out]; rfl, HB3.out⟩
end Go.Proofs.YtclaopidjfekmaaDoor.Lab
