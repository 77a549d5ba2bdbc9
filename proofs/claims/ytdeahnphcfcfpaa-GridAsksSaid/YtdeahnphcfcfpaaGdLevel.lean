/- The project's Level. -/
import Derived.Test.YtdeahnphcfcfpaaRpRaise
import Derived.Test.YtdeahnphcfcfpaaGdRaise
import Derived.Test.YtdeahnphcfcfpaaGdAcc
import Derived.Test.YtdeahnphcfcfpaaRoMove
namespace Go.Proofs.Ytdeahnphcfcfpaa.Lab
open Go Go.RowKit

def levTo (R : Cls) (p k : Nat) : Int := ((R.drop p).take (k - p)).foldl (fun l c => max l c.l) 0
theorem levTo_step {R : Cls} {p k : Nat} (hp : p ≤ k) (hk : k < R.length) : levTo R p (k + 1) = max (levTo R p k) (gc R k).l := by
  unfold levTo
  have hl : k - p < (R.drop p).length := by rw [List.length_drop]; omega
  rw [show k + 1 - p = (k - p) + 1 by omega, List.take_succ_eq_append_getElem hl, List.foldl_append]
  show max _ ((R.drop p)[k - p]).l = _
  rw [← gc_eq hl, gc_drop, show p + (k - p) = k by omega]
theorem levTo_01 {R : Cls} (h : Lv R) {p : Nat} (k : Nat) (hp : p ≤ k) (hk : k ≤ R.length) : levTo R p k = 0 ∨ levTo R p k = 1 := by
  induction k with
  | zero => left; unfold levTo; simp
  | succ k ih =>
    by_cases hpk : p ≤ k
    · rw [levTo_step hpk hk]
      have := ih hpk (by omega)
      have := h k hk
      omega
    · left
      unfold levTo
      rw [show k + 1 - p = 0 by omega]
      rfl
set_option maxHeartbeats 4000000 in
theorem level_any (w : World) (v : Value) (R : Cls) (i j : Int) (h : RowIn w v R) (hv : Lv R) (hl : R.length ≤ 1000) : Calls Try.prog 71 #[v, .int .i64 i, .int .i64 j] w fun e w' => e = .returned (.int .u8 (levelM R i j)) ∧ Below w.heap.size w w' := by
  obtain ⟨va, vc, rfl⟩ := h.shape
  have HV := Lib.hid hv
  obtain ⟨n, hn⟩ : ∃ n, n = R.length := ⟨_, rfl⟩
  have HN := Lib.hid hn
  have HB0 := Lib.hid (Below.refl w.heap.size w)
  have HR := Lib.hid h
  rw [← hn] at HR hl ⊢
  obtain ⟨p, hp⟩ : ∃ p, p = inN i n := ⟨_, rfl⟩
  obtain ⟨q, hq⟩ : ∃ q, q = inN j n := ⟨_, rfl⟩
  have hpn : p ≤ n := by rw [hp]; exact inN_le _ _
  have hqn : q ≤ n := by rw [hq]; exact inN_le _ _
  have HM := Lib.hid (show levelM R i j = levTo R p q by unfold levelM levTo; rw [← hn, ← hp, ← hq])
  have CW1 := Lib.hid (show ∀ W, Calls Try.prog 85 #[.int .i64 i, .int .i64 (n : Nat)] W fun e w' => e = .returned (.int .i64 (p : Nat)) ∧ W = w' from fun W => by rw [hp]; exact within_any W i n)
  have CW2 := Lib.hid (show ∀ W, Calls Try.prog 85 #[.int .i64 j, .int .i64 (n : Nat)] W fun e w' => e = .returned (.int .i64 (q : Nat)) ∧ W = w' from fun W => by rw [hq]; exact within_any W j n)
  clear h hv hn hp hq
  go_enter Try.func71, Try.ntmps71
  go_wp2_with fail
  refine (CW1.out _).mono ?_
  rintro e0 wx ⟨rfl, rfl⟩
  go_wp2_with fail
  refine (CW2.out _).mono ?_
  rintro e0 wx ⟨rfl, rfl⟩
  clear CW1 CW2
  go_wp2_with fail
  refine (join_none _).mono ?_
  rintro e0 wx ⟨rfl, rfl⟩
  go_wp2
  go_loopg [7, 8] (n - p) (fun G a k wr => ∃ (x : Int) (i : Nat), a = .int .u8 x ∧ k = .int .i64 i ∧ p ≤ i ∧ (i ≤ q ∨ i = p) ∧ n - i ≤ G ∧ Hid (x = levTo R p i) ∧ Hid (Below w.heap.size w wr))
  case atStart => exact ⟨0, p, rfl, rfl, Nat.le_refl _, .inr rfl, Nat.le_refl _, Lib.hid (by unfold levTo; rw [Nat.sub_self]; rfl), HB0⟩
  case round =>
    obtain ⟨x, i, rfl, rfl, hpi, hiq, hgk, HX, HB⟩ := hrel
    clear HB0
    by_cases hlt : i < q
    · have hin : i < n := by omega
      obtain ⟨g, o, cp, e, _, hg, hC⟩ := (HR.out.below HB.out).open (by rw [← HN.out]; omega)
      injection e with e1 e2 e3
      subst e1 e3
      obtain ⟨y, hy⟩ : ∃ y, y = (gc R i).l := ⟨_, rfl⟩
      have hat := hC i (by rw [← HN.out]; exact hin)
      obtain ⟨_, _, _, _, _, _, _, _, _, _, _, _, _, y13⟩ := hat
      rw [← hy] at y13
      have HY1 := Lib.hid (show y = 0 ∨ y = 1 by rw [hy]; exact HV.out i (by rw [← HN.out]; exact hin))
      have HX1 := Lib.hid (show x = 0 ∨ x = 1 by rw [HX.out]; exact levTo_01 HV.out i hpi (by rw [← HN.out]; omega))
      have HS := Lib.hid (show max x y = levTo R p (i + 1) by rw [levTo_step hpi (by rw [← HN.out]; exact hin), HX.out, hy])
      obtain ⟨w1, hw1⟩ : ∃ w1, w1 = wr.alloc (.cells #[.int .u8 x, .int .u8 y] 40) := ⟨_, rfl⟩
      obtain ⟨s, hs⟩ : ∃ s, s = wr.heap.size := ⟨_, rfl⟩
      have b1 : Below wr.heap.size wr w1 := by rw [hw1]; exact (Below.refl _ _).alloc (Nat.le_refl _) _
      have HB1 := Lib.hid (HB.out.trans (b1.mono HB.out.size))
      have HJ := Lib.hid (join_two w1 s x y HX1.out HY1.out (by rw [hw1, hs]; simp) (by rw [hw1, hs]; simp))
      clear hC hg e2 hy b1 HB
      go_wp2_with fail
      rw [← hw1, ← hs]
      clear hw1 hs y13
      refine HJ.out.mono ?_
      rintro e0 w2 ⟨rfl, rfl⟩
      clear HJ
      go_wp2
      go_roundg (n - (i + 1))
      case rel => exact ⟨max x y, i + 1, rfl, by go_num, by omega, .inl (by omega), Nat.le_refl _, HS, HB1⟩
      case measure => omega
    · have HE := Lib.hid (show x = levelM R _ _ from by
        rw [HM.out, HX.out]
        rcases hiq with h | h
        · rw [show i = q by omega]
        · unfold levTo
          rw [show i - p = 0 by omega, show q - p = 0 by omega])
      clear HX HM
      go_wp2
      go_ret
      exact ⟨by rw [← HE.out]; rfl, HB.out⟩

open Go Go.RowKit Go.Shelf
attribute [local go_sem] Oper.semAt_some

theorem foldl_max01 : ∀ (L : Cls) (a : Int), (a = 0 ∨ a = 1) → (∀ c ∈ L, c.l = 0 ∨ c.l = 1) → (L.foldl (fun l c => max l c.l) a = 0 ∨ L.foldl (fun l c => max l c.l) a = 1)
  | [], _, h, _ => h
  | c :: L, a, h, k => foldl_max01 L _ (by have := k c (List.mem_cons_self ..); show max a c.l = 0 ∨ max a c.l = 1; omega) (fun d hd => k d (List.mem_cons_of_mem _ hd))
theorem mem_lv {R : Cls} (h : Lv R) : ∀ c ∈ R, c.l = 0 ∨ c.l = 1 := by
  intro c hc
  obtain ⟨i, hi, rfl⟩ := List.mem_iff_getElem.1 hc
  have := h i hi
  rwa [gc_eq hi] at this
theorem level01 {R : Cls} (h : Lv R) (i j : Int) : levelM R i j = 0 ∨ levelM R i j = 1 := by
  unfold levelM
  exact foldl_max01 _ 0 (.inl rfl) (fun c hc => mem_lv h c (List.mem_of_mem_drop (List.mem_of_mem_take hc)))
/-- The level of all rows. -/
def rowL (R : Cls) : Int := levelM R 0 (R.length : Nat)
def levG (G : List Cls) : Int := if G.any (fun R => rowL R != 0) then 1 else 0
set_option maxHeartbeats 4000000 in
set_option maxRecDepth 100000 in
theorem glevel_any (w : World) (lo p rb c : Nat) (H : List Hd) (h : GAt w lo p rb c H) (hl : H.length ≤ 1000) (hR : ∀ x ∈ H, x.R.length ≤ 1000 ∧ Lv x.R) :
    Calls Try.prog 37 #[gV p] w fun e w' => e = .returned (.int .u8 (levG (H.map (·.R)))) ∧ Below w.heap.size w w' := by
  obtain ⟨b2, hb2⟩ : ∃ b, b = w.heap.size := ⟨_, rfl⟩
  obtain ⟨w2, hw2⟩ : ∃ x, x = w.alloc (.cells #[.int .u8 0] 40) := ⟨_, rfl⟩
  obtain ⟨n, hn⟩ : ∃ n, n = H.length := ⟨_, rfl⟩
  have B2 : Below w.heap.size w w2 := by rw [hw2]; exact (Below.refl _ _).alloc (Nat.le_refl _) _
  have HB2 := Lib.hid B2
  have c2 : w2.cell? ⟨b2, 0, none⟩ = some (.int .u8 0) := by rw [hw2, hb2]; simp
  have f2 : w2.frozen? ⟨b2, 0, none⟩ = false := by rw [hw2, hb2]; simp
  have HC2 := Lib.hid c2
  have HF2 := Lib.hid f2
  have g2 : GAt w2 lo p rb c H := h.below B2
  have HG2 := Lib.hid g2
  have HHR := Lib.hid hR
  have HSZ := Lib.hid (show b2 < w2.heap.size ∧ w.heap.size ≤ b2 by rw [hw2, hb2]; simp)
  have HN := Lib.hid hn
  have hl' : n ≤ 1000 := by omega
  clear B2 g2 h hR hn c2 f2 hl
  refine (callsIn_wide (n := 0)).1 ?_
  refine callsIn_of_wp_marks Try.func37 rfl trivial ?_ rfl
  simp only [Try.ntmps37, List.size_toArray, List.length_cons, List.length_nil, Nat.reduceAdd, Nat.reduceSub, Array.replicate_succ, Array.replicate_zero, List.push_toArray, List.append_toArray, List.nil_append, List.cons_append]
  gi_wp2
  rw [← hw2, ← hb2]
  clear hw2 hb2
  refine wp_range (gf := 49) (pre := #[gV p]) (post := #[]) rfl (enters_of Try.func49 (by kernel_rfl) rfl) (each_iter p rb c n H hl') (fun _ => rfl)
    (fun k W => k ≤ n ∧ (∀ j, j < k → rowL (hdAt H j).R = 0) ∧ GAt W lo p rb c H ∧ Below w2.heap.size w2 W)
    (fun cc W => cc = .ret ∧ levG (H.map (·.R)) = 1 ∧ W.cell? ⟨b2, 0, none⟩ = some (.int .u8 1) ∧ Below w.heap.size w W) ?hI ?hIx ?hH ?h0
    (fun k => { tmps := #[gV p, undef, .pointer (some ⟨b2, 0, none⟩), undef, hdV (hdAt H k), undef, gV p, .func (.func 49) #[gV p] #[], .int .i64 (k : Nat), hdV (hdAt H k), undef, undef, undef, undef, undef, undef, undef], defers := [] }) ?assign ?body ?done ?stop
  case hI => exact fun k W W' row hs hg hr => ⟨hs.1, hs.2.1, hs.2.2.1.turn hg (fun r e => (hr r e).2), hs.2.2.2.grown hg hs.2.2.2.size (fun r e => (hr r e).1)⟩
  case hIx => exact fun k W W' row hs hg hr => ⟨hs.1, hs.2.1, cell_kept hs.2.2.1 hg (fun r e => (hr r e).2), hs.2.2.2.grown hg hs.2.2.2.size (fun r e => Nat.le_trans HB2.out.size (hr r e).1)⟩
  case hH =>
    rintro k W ⟨hk, _, hi, _⟩
    exact ⟨fun _ => by rw [HN.out]; exact hi.cell, fun hlt => hi.head (by rw [← HN.out]; exact hlt)⟩
  case h0 => exact ⟨Nat.zero_le _, fun j hj => absurd hj (Nat.not_lt_zero _), HG2.out, Below.refl _ _⟩
  case assign =>
    intro ll k W K hK
    gi_wp2
    exact hK
  case body =>
    rintro ll k W1 hk ⟨hk', hz, hi, hb⟩
    have hkH : k < H.length := by rw [← HN.out]; exact hk
    obtain ⟨y, hy⟩ : ∃ y, y = hdAt H k := ⟨_, rfl⟩
    have hyH : y ∈ H := by rw [hy, hdAt_eq hkH]; exact List.getElem_mem hkH
    have HROW := Lib.hid (show CRow W1 lo (hdV y) y.R by rw [hy]; exact hi.row hkH)
    have HY := Lib.hid hy
    have HYH := Lib.hid hyH
    rw [← hy]
    have HI := Lib.hid hi
    have HZ := Lib.hid hz
    have HB := Lib.hid hb
    obtain ⟨r2, r3⟩ := HHR.out y hyH
    have HLEV := Lib.hid (level_any W1 _ y.R 0 (y.R.length : Nat) HROW.out.row r3 r2)
    have h01 := level01 r3 0 (y.R.length : Nat)
    obtain ⟨lv, hlv⟩ : ∃ lv, lv = levelM y.R 0 (y.R.length : Nat) := ⟨_, rfl⟩
    rw [← hlv] at HLEV h01
    have HLV := Lib.hid hlv
    clear hz hi hb hy hyH r2 r3 hlv
    by_cases h0 : lv = 0
    · subst h0
      clear h01
      gi_wp2_with (refine ⟨trivial, rfl, ?_⟩; refine (CallsIn.inRound ll (callsIn_wide.2 HLEV.out)).mono ?_; rintro e w5 ⟨rfl, b5⟩)
      refine ⟨(keeps_below b5).from _, by omega, fun j hj => ?_, HI.out.below b5, HB.out.trans (b5.mono HB.out.size)⟩
      by_cases e : j = k
      · subst e
        rw [← HY.out]
        exact HLV.out.symm
      · exact HZ.out j (by omega)
    · obtain rfl : lv = 1 := by omega
      clear h01
      have hcb : ∀ w5, Below W1.heap.size W1 w5 → w5.cell? ⟨b2, 0, none⟩ = some (.int .u8 0) ∧ w5.frozen? ⟨b2, 0, none⟩ = false := fun w5 b5 => by
        have bb := HB.out.trans (b5.mono HB.out.size)
        exact ⟨(bb.cell (p := ⟨b2, 0, none⟩) HSZ.out.1).trans HC2.out, (bb.frozen (p := ⟨b2, 0, none⟩) HSZ.out.1).trans HF2.out⟩
      have HCB := Lib.hid hcb
      clear hcb
      gi_wp2_with (refine ⟨trivial, rfl, ?_⟩; refine (CallsIn.inRound ll (callsIn_wide.2 HLEV.out)).mono ?_; rintro e w5 ⟨rfl, b5⟩; obtain ⟨k1, k2⟩ := HCB.out w5 b5)
      refine ⟨((keeps_below b5).trans (KeepsOthers.setCell _ _ _)).from _, rfl, ?_, World.cell?_setCell_same' _ _ _ (by rw [k1]; rfl), (HB2.out.trans ((HB.out.trans (b5.mono HB.out.size)).mono HB2.out.size)).setCell (p := ⟨b2, 0, none⟩) HSZ.out.2 _⟩
      unfold levG
      rw [if_pos]
      exact List.any_eq_true.2 ⟨y.R, List.mem_map.2 ⟨y, HYH.out, rfl⟩, by unfold rowL; rw [← HLV.out]; rfl⟩
  case done =>
    rintro D W hD ⟨_, hz, hi, hb⟩ hK
    have k1 := (hb.cell (p := ⟨b2, 0, none⟩) HSZ.out.1).trans HC2.out
    have k2 := (hb.frozen (p := ⟨b2, 0, none⟩) HSZ.out.1).trans HF2.out
    have HK := Lib.hid hK
    have HHZ := Lib.hid hz
    have HHB := Lib.hid hb
    clear hz hb hi hK
    gi_wp2
    have hK' := (KeepsOthers.setCell W ⟨b2, 0, none⟩ (.int .u8 0)).same D _ HK.out rfl
    refine ⟨by simp, .inl ⟨_, _, rfl, run_takeDeferred hK', ?_⟩⟩
    have hc5 := cell_kept (World.cell?_setCell_same' W ⟨b2, 0, none⟩ (.int .u8 0) (by rw [k1]; rfl)) (grownBy_putObj' _ D (.deferred none)) (fun r e => by cases e; exact ⟨_, hK', rfl⟩)
    refine ⟨.int .u8 0, ?_, ?_, ?_⟩
    · simp [results, Try.f37, go_sem, hc5]
    · have : levG (H.map (·.R)) = 0 := by
        unfold levG
        rw [if_neg]
        intro ha
        obtain ⟨R, hR, hne⟩ := List.any_eq_true.1 ha
        obtain ⟨x, hx, rfl⟩ := List.mem_map.1 hR
        obtain ⟨i, hi, rfl⟩ := List.mem_iff_getElem.1 hx
        have := HHZ.out i (by rw [HN.out]; exact hi)
        rw [hdAt_eq hi] at this
        rw [this] at hne
        exact absurd hne (by decide)
      rw [this]
    · refine Below.grown (row := some D) ((HB2.out.trans (HHB.out.mono HB2.out.size)).setCell (p := ⟨b2, 0, none⟩) HSZ.out.2 _) (grownBy_putObj' _ D (.deferred none)) ?_ (fun r e => by cases e; exact Nat.le_trans HB2.out.size hD)
      have := HHB.out.size
      have := HB2.out.size
      simp
      omega
  case stop =>
    rintro D cc W hD ⟨rfl, hv, k1, hb⟩ hK
    have HK := Lib.hid hK
    have HHB := Lib.hid hb
    have HV := Lib.hid hv
    clear hb hK hv
    gi_wp2
    refine ⟨by simp, .inl ⟨_, _, rfl, run_takeDeferred HK.out, ?_⟩⟩
    have hc5 := cell_kept k1 (grownBy_putObj' _ D (.deferred none)) (fun r e => by cases e; exact ⟨_, HK.out, rfl⟩)
    refine ⟨.int .u8 1, ?_, ?_, ?_⟩
    · simp [results, Try.f37, go_sem, hc5]
    · rw [HV.out]
    · exact Below.grown (row := some D) HHB.out (grownBy_putObj' _ D (.deferred none)) HHB.out.size (fun r e => by cases e; exact Nat.le_trans HB2.out.size hD)
end Go.Proofs.Ytdeahnphcfcfpaa.Lab
