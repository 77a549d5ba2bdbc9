/- The reference's grids that are drawn. The law's of: the program's grid of the document's; Row and Set over lists of rows. -/
import Derived.Test.YtdeahnphcfcfpaaGrSet
import Derived.Test.YtdeahnphcfcfpaaRoRow
namespace Go.Proofs.Ytdeahnphcfcfpaa.Lab
open Go Go.RowKit

/-- Lines as they come in: of each its drafts. -/
def LnsIn (w : World) (v : Value) (LL : List (List Dc)) : Prop :=
  ∃ a c, v = .slice a LL.length c ∧ LL.length ≤ maxLen ∧ (0 < LL.length → ∃ g o, a = some ⟨g, o, none⟩ ∧ g < w.heap.size ∧ ∀ i, (hi : i < LL.length) → ∃ u, w.cell? ⟨g, o + i * 2 + 1, none⟩ = some u ∧ DsIn w u LL[i])
theorem LnsIn.below {w w' : World} {v : Value} {LL : List (List Dc)} (h : LnsIn w v LL) (k : Below w.heap.size w w') : LnsIn w' v LL := by
  obtain ⟨a, c, e, hm, h⟩ := h
  refine ⟨a, c, e, hm, fun h0 => ?_⟩
  obtain ⟨g, o, ea, hg, hC⟩ := h h0
  refine ⟨g, o, ea, Nat.lt_of_lt_of_le hg k.size, fun i hi => ?_⟩
  obtain ⟨u, hu, hd⟩ := hC i hi
  exact ⟨u, (k.cell (p := ⟨g, o + i * 2 + 1, none⟩) hg).trans hu, hd.below k⟩
/-- The row of a line of a draft. -/
def rowF (c : Nat) (O L : List Dc) : Cls := if 0 < O.length then otherM c L O else rowM c L
theorem rowF_good {c : Nat} (hc : c ≤ 20) (O L : List Dc) : Wh (rowF c O L) ∧ (rowF c O L).length = c ∧ Lv (rowF c O L) := by
  obtain ⟨h1, h2, h3⟩ := rowM_whole c L
  rw [show c % 31 = c by omega] at h3
  unfold rowF
  split
  · obtain ⟨k1, k2⟩ := otherM_whole c L O
    refine ⟨k1, by rw [← k2.1]; exact h3, fun i hi => ?_⟩
    rw [← (k2.2 i (by rw [k2.1]; exact hi)).1]
    exact h2 i (by rw [k2.1]; exact hi)
  · exact ⟨h1, h3, h2⟩
theorem rowF_low (c : Nat) (O L : List Dc) : LowE (rowF c [] L) (rowF c O L) := by
  unfold rowF
  rw [if_neg (by simp)]
  split
  · exact (otherM_whole c L O).2
  · exact LowE.refl _
def rowsD (c : Nat) (LL : List (List Dc)) (O : List Dc) : List Cls := (LL.take 8).map (rowF c O)
def gK (c : Nat) (RS : List Cls) (n k : Nat) : List Cls := RS.take k ++ List.replicate (n - k) (newM c Cel.z)
def gridM (cols : Nat) (LL : List (List Dc)) (O : List Dc) : List Cls := gK (1 + cols % 20) (rowsD (1 + cols % 20) LL O) (max 1 (min 8 LL.length)) (min 8 LL.length)
theorem gK_row {c : Nat} {RS : List Cls} {P : Cls → Prop} (h : ∀ R ∈ RS, P R) (hz : P (newM c Cel.z)) (n k : Nat) : ∀ R ∈ gK c RS n k, P R := fun R hR => by
  rcases List.mem_append.1 hR with h1 | h1
  · exact h R (List.mem_of_mem_take h1)
  · rw [List.eq_of_mem_replicate h1]; exact hz
theorem gK_len {c : Nat} {RS : List Cls} {n k : Nat} (h1 : k ≤ RS.length) (h2 : k ≤ n) : (gK c RS n k).length = n := by
  unfold gK
  rw [List.length_append, List.length_take, List.length_replicate]
  omega
theorem gK_set {c : Nat} {RS : List Cls} {n k : Nat} (h : ∀ R ∈ RS, R.length = c) (h1 : k < RS.length) (h2 : k < n) : setRG (gK c RS n k) (k : Nat) RS[k] = gK c RS n (k + 1) := by
  have hl := gK_len (c := c) (n := n) (Nat.le_of_lt h1) (Nat.le_of_lt h2)
  have hall := gK_row (P := fun R => R.length = c) h (len_newM c Cel.z) n k
  unfold setRG
  rw [if_pos, Int.toNat_natCast]
  · unfold gK
    rw [show List.replicate (n - k) (newM c Cel.z) = newM c Cel.z :: List.replicate (n - (k + 1)) (newM c Cel.z) by rw [← List.replicate_succ]; congr 1; omega, List.take_succ_eq_append_getElem h1]
    have hlt : (RS.take k).length = k := by rw [List.length_take]; omega
    have := set_mid (RS.take k) (List.replicate (n - (k + 1)) (newM c Cel.z)) (newM c Cel.z) RS[k]
    rw [hlt] at this
    exact this
  · rw [Bool.and_eq_true, isInB_nat, decide_eq_true_eq, decide_eq_true_eq]
    refine ⟨by omega, ?_⟩
    rw [h _ (List.getElem_mem h1), hall _ (rowG_mem (by omega))]
theorem newM_good (c : Nat) : Wh (newM c Cel.z) ∧ (newM c Cel.z).length = c ∧ Lv (newM c Cel.z) := by
  refine ⟨Wh.rep c rfl, len_newM c Cel.z, fun i hi => .inl ?_⟩
  rw [len_newM] at hi
  unfold newM gc
  rw [List.getD_eq_getElem?_getD, List.getElem?_replicate, if_pos hi]
  rfl
theorem gridM_good (cols : Nat) (LL : List (List Dc)) (O : List Dc) : Good (gridM cols LL O) (1 + cols % 20) := by
  have hl : (rowsD (1 + cols % 20) LL O).length = min 8 LL.length := by unfold rowsD; rw [List.length_map, List.length_take]
  have hn := gK_len (c := 1 + cols % 20) (RS := rowsD (1 + cols % 20) LL O) (n := max 1 (min 8 LL.length)) (k := min 8 LL.length) (by omega) (by omega)
  refine ⟨gK_row (fun R hR => ?_) (newM_good _) _ _, ?_, ?_, by omega, by omega⟩
  · obtain ⟨L, _, rfl⟩ := List.mem_map.1 hR
    exact rowF_good (by omega) O L
  · rw [gridM, hn]; omega
  · rw [gridM, hn]; omega
set_option maxHeartbeats 8000000 in
set_option maxRecDepth 100000 in
theorem rgrid_any (w : World) (cols : Nat) (lv ov : Value) (LL : List (List Dc)) (O : List Dc) (hl : LnsIn w lv LL) (ho : DsIn w ov O) :
    Calls Try.prog 7 #[.agg #[.int .u8 (cols : Nat), lv], ov] w fun e w' => ∃ v, e = .returned (.agg #[v]) ∧ Rl w' w.heap.size v (gridM cols LL O) ∧ Below w.heap.size w w' := by
  obtain ⟨la, lc, rfl, hmx, hopen⟩ := hl
  obtain ⟨oa, oc, rfl⟩ := ho.shape
  obtain ⟨ll, hll⟩ : ∃ ll, ll = LL.length := ⟨_, rfl⟩
  obtain ⟨lv, hlv⟩ : ∃ lv : Value, lv = .slice la LL.length lc := ⟨_, rfl⟩
  rw [← hlv]
  rw [← hll] at hmx hlv
  subst hlv
  obtain ⟨oo, hoo⟩ : ∃ oo, oo = O.length := ⟨_, rfl⟩
  rw [← hoo] at ho
  obtain ⟨lv, hlv⟩ : ∃ lv : Value, lv = .slice oa O.length oc := ⟨_, rfl⟩
  rw [← hlv]
  rw [← hoo] at hlv
  subst hlv
  obtain ⟨r, hr⟩ : ∃ r, r = cols % 20 := ⟨_, rfl⟩
  obtain ⟨c, hc⟩ : ∃ c, c = 1 + r := ⟨_, rfl⟩
  have hr20 : r < 20 := by omega
  have r1 : Int.tmod (cols : Int) 20 = (r : Int) := by rw [hr]; rfl
  have r1' : (cols : Int) % 20 = (r : Int) := by rw [hr]; rfl
  have u1 : IntKind.u8.wrap (r : Int) = (r : Int) := by rw [IntKind.wrap_u8]; omega
  have u2 : IntKind.i64.wrap (r : Int) = (r : Int) := by rw [IntKind.wrap_i64]; omega
  have u3 : IntKind.i64.wrap (1 + (r : Int)) = (c : Int) := by rw [IntKind.wrap_i64]; omega
  have u4 : IntKind.u8.wrap (c : Int) = (c : Int) := by rw [IntKind.wrap_u8]; omega
  obtain ⟨nb, hnb⟩ : ∃ nb, nb = min 8 ll := ⟨_, rfl⟩
  obtain ⟨n, hn⟩ : ∃ n, n = max 1 nb := ⟨_, rfl⟩
  obtain ⟨RS, hRS⟩ : ∃ RS, RS = rowsD c LL O := ⟨_, rfl⟩
  have HGM := Lib.hid (show gridM cols LL O = gK c RS n nb by unfold gridM; rw [← hr, ← hc, ← hRS, ← hll, ← hnb, ← hn])
  have HRSL := Lib.hid (show RS.length = nb by rw [hRS]; unfold rowsD; rw [List.length_map, List.length_take, ← hll, hnb])
  have HRSR := Lib.hid (show ∀ R ∈ RS, R.length = c from fun R hR => by
    rw [hRS] at hR
    obtain ⟨L, _, rfl⟩ := List.mem_map.1 hR
    exact (rowF_good (by omega) O L).2.1)
  have HRSK := Lib.hid (show ∀ k, (h : k < nb) → ∀ Lk, Lk = LL.getD k [] → ∃ h', RS[k]'h' = rowF c O Lk from fun k h Lk hLk => by
    subst hRS
    refine ⟨by unfold rowsD; rw [List.length_map, List.length_take]; omega, ?_⟩
    simp only [rowsD, List.getElem_map, List.getElem_take]
    rw [hLk, List.getD_eq_getElem?_getD, List.getElem?_eq_getElem (by omega)]
    rfl)
  obtain ⟨w0, hw0⟩ : ∃ W0, W0 = (w.alloc (.cells #[.int .u8 (cols : Nat), .slice la ll lc] 24)).alloc (.cells #[.slice none 0 0] 29) := ⟨_, rfl⟩
  obtain ⟨b2, hb2⟩ : ∃ b, b = w.heap.size := ⟨_, rfl⟩
  obtain ⟨b4, hb4⟩ : ∃ b, b = w.heap.size + 1 := ⟨_, rfl⟩
  have B0 : Below w.heap.size w w0 := by rw [hw0]; exact ((Below.refl _ _).alloc (Nat.le_refl _) _).alloc (by simp) _
  have h2 : Lie w0 b2 [.int .u8 (cols : Nat), .slice la ll lc] := by rw [hw0]; exact (Lie.new w _ _ b2 hb2).below ((Below.refl _ _).alloc (Nat.le_refl _) _)
  have h4 : w0.heap[b4]? = some (.cells #[.slice none 0 0] 29 (0, 0)) := by
    have := World.alloc_heap_new (w.alloc (.cells #[.int .u8 (cols : Nat), .slice la ll lc] 24)) (.cells #[.slice none 0 0] 29)
    rw [World.size_alloc] at this
    rw [hw0, hb4]
    exact this
  have HNE := Lib.hid (show b2 = w.heap.size ∧ b4 = w.heap.size + 1 ∧ w0.heap.size = w.heap.size + 2 ∧ n ≤ 8 ∧ nb ≤ n ∧ nb ≤ ll ∧ nb ≤ 8 ∧ 1 ≤ n ∧ (nb = ll ∨ nb = 8) by rw [hw0]; exact ⟨hb2, hb4, by simp, by omega, by omega, by omega, by omega, by omega, by omega⟩)
  have HB0 := Lib.hid B0
  have H4 := Lib.hid h4
  have HC256 := Lib.hid (show c < 256 by omega)
  have HOV := Lib.hid (show ∀ W, Below w.heap.size w W → DsIn W (.slice oa oo oc) O from fun W k => ho.below k)
  have HLO := Lib.hid (show ∀ k, (h : k < nb) → ∀ Lk, Lk = LL.getD k [] → ∃ g o, la = some ⟨g, o, none⟩ ∧ g < w.heap.size ∧ ∃ ua uc, w.cell? ⟨g, o + k * 2 + 1, none⟩ = some (.slice ua Lk.length uc) ∧ DsIn w (.slice ua Lk.length uc) Lk from fun k h Lk hLk => by
    obtain ⟨g, o, e, hg, hC⟩ := hopen (by omega)
    obtain ⟨u, hu, hd⟩ := hC k (by omega)
    have hLk' : Lk = LL[k]'(by omega) := by rw [hLk, List.getD_eq_getElem?_getD, List.getElem?_eq_getElem (by omega)]; rfl
    obtain ⟨ua, uc, rfl⟩ := hd.shape
    rw [← hLk'] at hu hd
    exact ⟨g, o, e, hg, ua, uc, hu, hd⟩)
  have HY := Lib.hid (show ∀ W, Below w0.heap.size w0 W → W.cell? ⟨b2, 0, none⟩ = some (.int .u8 (cols : Nat)) ∧ W.cell? ⟨b2, 1, none⟩ = some (.slice la ll lc) from fun W k => by
    have := h2.below k
    exact ⟨this.at 0 rfl, this.at 1 rfl⟩)
  obtain ⟨y0, y1⟩ := HY.out w0 (Below.refl _ _)
  have hc1 : 1 ≤ c ∧ c ≤ 20 := by omega
  have HOO := Lib.hid (show oo = O.length from hoo)
  have HMX := Lib.hid (show nb = min 8 ll ∧ n = max 1 nb from ⟨hnb, hn⟩)
  clear B0 h2 h4 ho hopen hmx hRS hr hoo hll hnb hn hc
  go_enter Try.func7, Try.ntmps7
  go_upto_region 1 with (fail)
  rw [← hw0, ← hb4, ← hb2]
  clear hw0 hb4 hb2
  go_upto_region 2 with (fail)
  have hmx : max 1 (min 8 (ll : Int)) = (n : Int) := by have := HMX.out; omega
  go_wp2_with fail
  refine (rgnew_yes w0 n c Cel.z (by unfold canB; have := HNE.out; simp; omega)).mono ?_
  rintro e w1 ⟨v, rfl, ⟨Kl, gk, hk⟩, b1⟩
  obtain ⟨va, vc, hv'⟩ := gk.shape
  obtain ⟨ln, hln⟩ : ∃ ln, ln = Kl.length := ⟨_, rfl⟩
  rw [← hln] at hv'
  subst hv'
  obtain ⟨wc, hwc⟩ : ∃ X, X = w1.alloc (.cells #[.slice va ln vc] 29) := ⟨_, rfl⟩
  obtain ⟨b6, hb6⟩ : ∃ b, b = w1.heap.size := ⟨_, rfl⟩
  have HV0 := Lib.hid (show wc.heap[b6]? = some (.cells #[.slice va ln vc] 29 (0, 0)) by rw [hwc, hb6]; exact World.alloc_heap_new _ _)
  have HG0 := Lib.hid (show GRow wc w.heap.size w.heap.size (.slice va ln vc) Kl by rw [hwc]; exact (gk.lower HB0.out.size HB0.out.size).below ((Below.refl _ _).alloc (Nat.le_refl _) _))
  have HM0 := Lib.hid (show Kl.map (·.R) = gK c RS n 0 by rw [hk]; rfl)
  have HB6 := Lib.hid (show w0.heap.size ≤ b6 by rw [hb6]; exact b1.size)
  have HBC := Lib.hid (show Below w0.heap.size w0 wc by rw [hwc]; exact b1.alloc b1.size _)
  have HT0 := Lib.hid (Buts.refl (· = b6) wc)
  clear hln gk hk b1
  go_upto_region 3 with (fail)
  rw [← hwc, ← hb6]
  clear hwc hb6 hmx
  clear y0 y1 u3
  go_wp2
  go_loopg [7] nb (fun G i wr => ∃ (k : Nat) (v : Value) (Kl : List Hd), i = .int .i64 k ∧ k ≤ nb ∧ nb - k ≤ G ∧ Hid (wr.heap[b6]? = some (.cells #[v] 29 (0, 0))) ∧ Hid (GRow wr w.heap.size w.heap.size v Kl) ∧ Hid (Kl.map (·.R) = gK c RS n k) ∧ Hid (Buts (· = b6) wc wr))
  case atStart => exact ⟨0, _, _, rfl, Nat.zero_le _, Nat.sub_le _ _, HV0, HG0, HM0, HT0⟩
  case round =>
    obtain ⟨k, v, Kl, rfl, hkn, hgk, H8, HGK, HMK, HBT⟩ := hrel
    clear HV0 HG0 HM0 HT0
    have HBB := Lib.hid (show Below w0.heap.size w0 wr from HBC.out.trans (HBT.out.below (C := w0.heap.size) (fun i hi => by have := HB6.out; omega) HBC.out.size))
    obtain ⟨y0, y1⟩ := HY.out wr HBB.out
    by_cases hlt : k < nb
    · have hA : (k : Int) < (ll : Int) := by have := HNE.out; omega
      have hB : (k : Int) < 8 := by have := HNE.out; omega
      obtain ⟨Lk, hLk⟩ : ∃ Lk, Lk = LL.getD k [] := ⟨_, rfl⟩
      obtain ⟨g, o, rfl, hg, ua, uc, hcu, hds⟩ := HLO.out k hlt Lk hLk
      obtain ⟨hRk, hRk2⟩ := HRSK.out k hlt Lk hLk
      obtain ⟨lk, hlk⟩ : ∃ lk, lk = Lk.length := ⟨_, rfl⟩
      rw [← hlk] at hcu hds
      have HBW := Lib.hid (show Below w.heap.size w wr from HB0.out.trans (HBB.out.mono HB0.out.size))
      have cu : wr.cell? ⟨g, o + k * 2 + 1, none⟩ = some (.slice ua lk uc) := (HBW.out.cell (p := ⟨g, o + k * 2 + 1, none⟩) hg).trans hcu
      obtain ⟨wq, hwq⟩ : ∃ X, X = wr.alloc (.cells #[.int .u8 (c : Nat), .slice ua lk uc] 91) := ⟨_, rfl⟩
      obtain ⟨b8, hb8⟩ : ∃ b, b = wr.heap.size := ⟨_, rfl⟩
      have LB6 := Lib.hid (show b6 < wr.heap.size from (Array.getElem?_eq_some_iff.1 H8.out).1)
      have HWQ := Lib.hid (show Below wr.heap.size wr wq by rw [hwq]; exact (Below.refl _ _).alloc (Nat.le_refl _) _)
      have HBQ := Lib.hid (show Below w.heap.size w wq from HBW.out.trans (HWQ.out.mono HBW.out.size))
      have h8 : Lie wq b8 [.int .u8 (c : Nat), .slice ua lk uc] := by rw [hwq]; exact Lie.new wr _ _ b8 hb8
      have HSK := Lib.hid (show ∀ W, Below wq.heap.size wq W → (fun wx => wx.cell? ⟨b8, 0, none⟩ = some (.int .u8 (c : Nat)) ∧ wx.cell? ⟨b8, 1, none⟩ = some (.slice ua lk uc)) W from fun W kb => by
        have := h8.below kb
        exact ⟨this.at 0 rfl, this.at 1 rfl⟩)
      have L8 := Lib.hid (show b6 < wq.heap.size from Nat.lt_of_lt_of_le LB6.out HWQ.out.size)
      have C8 := Lib.hid (show wq.cell? ⟨b6, 0, none⟩ = some v by rw [cell_of_row wq b6 0 _ _ _ ((HWQ.out.block b6 LB6.out).trans H8.out)]; simp)
      have NB8 := Lib.hid (show b8 ≠ b6 by have := LB6.out; omega)
      have HSK8 := Lib.hid (show ∀ W x, Below wq.heap.size wq W → (fun wx => wx.cell? ⟨b8, 0, none⟩ = some (.int .u8 (c : Nat)) ∧ wx.cell? ⟨b8, 1, none⟩ = some (.slice ua lk uc)) (W.setCell ⟨b6, 0, none⟩ x) from fun W x kb => by
        have := HSK.out W kb
        exact ⟨(World.cell?_setCell_other _ _ _ _ (fun e => NB8.out (by injection e with e _ _; exact e.symm))).trans this.1, (World.cell?_setCell_other _ _ _ _ (fun e => NB8.out (by injection e with e _ _; exact e.symm))).trans this.2⟩)
      have HDK := Lib.hid (show ∀ W, Below wq.heap.size wq W → DsIn W (.slice ua lk uc) Lk from fun W kb => hds.below (HBQ.out.trans (kb.mono HBQ.out.size)))
      obtain ⟨R, hR⟩ : ∃ R, R = rowF c O Lk := ⟨_, rfl⟩
      have HRR := Lib.hid (rowF_good hc1.2 O Lk)
      rw [← hR] at HRR
      have HRL := Lib.hid (show R.length ≤ 1000 by have := HRR.out.2.1; omega)
      have HKL := Lib.hid (show Kl.length = n by have h1 := congrArg List.length HMK.out; rw [List.length_map, gK_len (by rw [HRSL.out]; exact hkn) (Nat.le_trans hkn HNE.out.2.2.2.2.1)] at h1; exact h1)
      have HK0 := Lib.hid (show 0 < Kl.length by have h1 := HKL.out; have := HNE.out; omega)
      have HK1 := Lib.hid (show Kl.length ≤ 600 by have h1 := HKL.out; have := HNE.out; omega)
      have HKM := Lib.hid (show 0 < (hdAt Kl 0).R.length by
        rw [rowG_hd, HMK.out, gK_row (P := fun R => R.length = c) HRSR.out (len_newM c Cel.z) n k _ (rowG_mem (by rw [gK_len (by rw [HRSL.out]; exact hkn) (Nat.le_trans hkn HNE.out.2.2.2.2.1)]; have := HNE.out; omega))]
        omega)
      have HSTEP := Lib.hid (show setRG (gK c RS n k) (k : Nat) R = gK c RS n (k + 1) by
        rw [hR, ← hRk2]
        exact gK_set HRSR.out hRk (by have := HNE.out; omega))
      by_cases hoo : oo = 0
      · have HRF := Lib.hid (show rowM c Lk = R by rw [hR]; unfold rowF; rw [if_neg (by rw [← HOO.out]; omega)])
        clear hLk hRk2 hlk hcu hds h8 hR hg HKL HRR NB8
        subst hoo
        go_upto_region 9 with (fail)
        rw [← hwq, ← hb8]
        clear hwq hb8
        refine wp_region_held_drew (S := fun wx => wx.cell? ⟨b8, 0, none⟩ = some (.int .u8 (c : Nat)) ∧ wx.cell? ⟨b8, 1, none⟩ = some (.slice ua lk uc)) (by kernel_rfl) ?_ (fun hHeld => ?_)
        · exact HSK.out _ ((Below.refl _ _).drew)
        obtain ⟨wd, hwd⟩ : ∃ X, X = wq.drew := ⟨_, rfl⟩
        have HX := Lib.hid (show Below wq.heap.size wq wd by rw [hwd]; exact (Below.refl _ _).drew)
        replace hHeld := HSK.out _ HX.out
        rw [← hwd]
        clear hwd
        refine tk 1 rfl (fun w hSw => by (try dsimp only at hSw); go_simp; try with_reducible rfl) ?_
        go_frame
        refine tk 2 rfl (fun w hSw => by (try dsimp only at hSw); go_simp; try with_reducible rfl) ?_
        go_frame
        refine two_at (i := 0) (j := 3) rfl rfl (by kernel_rfl) (by kernel_rfl) (by kernel_rfl) (fun K hK => ?_) (fun K hK => ?_)
        · have hc8 : wd.cell? ⟨b6, 0, none⟩ = some v := (HX.out.cell (p := ⟨b6, 0, none⟩) L8.out).trans C8.out
          go_simp
          clear hc8
          refine hK.out _ _ ?_ (fun hHeld => ?_)
          · exact HSK.out _ HX.out
          clear hK K
          try go_frame
          refine do_at (i := 3) rfl (by kernel_rfl) (by kernel_rfl) (fun K hK => ?_)
          go_simp
          refine (rrow_any wd c (.slice ua lk uc) Lk HC256.out (HDK.out _ HX.out)).mono ?_
          rintro e wz ⟨r, rfl, own, bz⟩
          obtain ⟨ra, rc, hr⟩ := own.shape
          rw [HRF.out] at own hr
          have HRW := Lib.hid own.row
          replace HX := Lib.hid (HX.out.trans (bz.mono HX.out.size))
          clear own bz
          obtain ⟨lr, hlr⟩ : ∃ lr, lr = R.length := ⟨_, rfl⟩
          rw [← hlr] at hr
          subst hr
          clear hlr
          go_wp2_with fail
          refine hK.out _ _ ?_ (fun hHeld => ?_)
          · exact HSK.out _ HX.out
          clear hK K
          try go_frame
          refine do_at (i := 4) rfl (by kernel_rfl) (by kernel_rfl) (fun K hK => ?_)
          go_simp
          refine (rset_any wz w.heap.size w.heap.size v Kl (k : Nat) _ R (HGK.out.below (HWQ.out.trans (HX.out.mono HWQ.out.size))) HK0.out HK1.out (Nat.le_trans HBQ.out.size HX.out.size) HRW.out HRL.out HKM.out).mono ?_
          rintro e ws ⟨v', Kn, rfl, gk, hk, bs⟩
          obtain ⟨va, vc, hv'⟩ := gk.shape
          obtain ⟨ln, hln⟩ : ∃ ln, ln = Kn.length := ⟨_, rfl⟩
          rw [← hln] at hv'
          subst hv'
          clear hln
          have HGS := Lib.hid (gk.lower (Nat.le_refl _) (Nat.le_trans HBQ.out.size HX.out.size))
          have HKS := Lib.hid (show Kn.map (·.R) = gK c RS n (k + 1) by rw [hk, HMK.out]; exact HSTEP.out)
          replace HX := Lib.hid (HX.out.trans (bs.mono HX.out.size))
          clear gk hk bs
          have H8A := Lib.hid (show ws.heap[b6]? = some (.cells #[v] 29 (0, 0)) from (HX.out.block b6 L8.out).trans ((HWQ.out.block b6 LB6.out).trans H8.out))
          go_wp2_with fail
          refine hK.out _ _ ?_ (fun hHeld => ?_)
          · exact HSK.out _ HX.out
          clear hK K
          try go_frame
          refine do_at (i := 5) rfl (by kernel_rfl) (by kernel_rfl) (fun K hK => ?_)
          have hc8 : ws.cell? ⟨b6, 0, none⟩ = some v := by rw [cell_of_row ws b6 0 _ _ _ H8A.out]; simp
          have hf8 : ws.frozen? ⟨b6, 0, none⟩ = false := frozen_of_row ws b6 0 _ _ H8A.out
          go_simp
          clear hc8 hf8
          refine hK.out _ _ ?_ (fun hHeld => ?_)
          · exact HSK8.out _ _ HX.out
          clear hK K
          try go_frame
          refine wpAnyH_done (by kernel_rfl) ?_ _
          have ha8 := Lib.hid (heap_set1 (v := .slice va ln vc) H8A.out)
          have hg8 := Lib.hid (show GRow (ws.setCell ⟨b6, 0, none⟩ (.slice va ln vc)) w.heap.size w.heap.size (.slice va ln vc) Kn from HGS.out.asideR (But.set ws b6 0 _) H8A.out)
          have hb8 := Lib.hid (((HBT.out.trans (Buts.of HWQ.out)).trans (Buts.of HX.out)).trans (Buts.but (S := (· = b6)) (But.set ws b6 0 (.slice va ln vc)) rfl))
          clear hHeld HGS H8A HX HRW
          clear HWQ HBQ L8 C8 HRF HRL HDK HSK HSK8 HK0 HK1 HKM HSTEP LB6 HBT HMK HGK H8 HBB
          go_wp2
          go_roundg (nb - (k + 1))
          case rel => exact ⟨k + 1, _, Kn, by go_num, by omega, Nat.le_refl _, ha8, hg8, HKS, hb8⟩
          case measure => omega
        · go_simp
          refine (rrow_any wd c (.slice ua lk uc) Lk HC256.out (HDK.out _ HX.out)).mono ?_
          rintro e wz ⟨r, rfl, own, bz⟩
          obtain ⟨ra, rc, hr⟩ := own.shape
          rw [HRF.out] at own hr
          have HRW := Lib.hid own.row
          replace HX := Lib.hid (HX.out.trans (bz.mono HX.out.size))
          clear own bz
          obtain ⟨lr, hlr⟩ : ∃ lr, lr = R.length := ⟨_, rfl⟩
          rw [← hlr] at hr
          subst hr
          clear hlr
          go_wp2_with fail
          refine hK.out _ _ ?_ (fun hHeld => ?_)
          · exact HSK.out _ HX.out
          clear hK K
          try go_frame
          refine do_at (i := 0) rfl (by kernel_rfl) (by kernel_rfl) (fun K hK => ?_)
          have hc8 : wz.cell? ⟨b6, 0, none⟩ = some v := (HX.out.cell (p := ⟨b6, 0, none⟩) L8.out).trans C8.out
          go_simp
          clear hc8
          refine hK.out _ _ ?_ (fun hHeld => ?_)
          · exact HSK.out _ HX.out
          clear hK K
          try go_frame
          refine do_at (i := 4) rfl (by kernel_rfl) (by kernel_rfl) (fun K hK => ?_)
          go_simp
          refine (rset_any wz w.heap.size w.heap.size v Kl (k : Nat) _ R (HGK.out.below (HWQ.out.trans (HX.out.mono HWQ.out.size))) HK0.out HK1.out (Nat.le_trans HBQ.out.size HX.out.size) HRW.out HRL.out HKM.out).mono ?_
          rintro e ws ⟨v', Kn, rfl, gk, hk, bs⟩
          obtain ⟨va, vc, hv'⟩ := gk.shape
          obtain ⟨ln, hln⟩ : ∃ ln, ln = Kn.length := ⟨_, rfl⟩
          rw [← hln] at hv'
          subst hv'
          clear hln
          have HGS := Lib.hid (gk.lower (Nat.le_refl _) (Nat.le_trans HBQ.out.size HX.out.size))
          have HKS := Lib.hid (show Kn.map (·.R) = gK c RS n (k + 1) by rw [hk, HMK.out]; exact HSTEP.out)
          replace HX := Lib.hid (HX.out.trans (bs.mono HX.out.size))
          clear gk hk bs
          have H8A := Lib.hid (show ws.heap[b6]? = some (.cells #[v] 29 (0, 0)) from (HX.out.block b6 L8.out).trans ((HWQ.out.block b6 LB6.out).trans H8.out))
          go_wp2_with fail
          refine hK.out _ _ ?_ (fun hHeld => ?_)
          · exact HSK.out _ HX.out
          clear hK K
          try go_frame
          refine do_at (i := 5) rfl (by kernel_rfl) (by kernel_rfl) (fun K hK => ?_)
          have hc8 : ws.cell? ⟨b6, 0, none⟩ = some v := by rw [cell_of_row ws b6 0 _ _ _ H8A.out]; simp
          have hf8 : ws.frozen? ⟨b6, 0, none⟩ = false := frozen_of_row ws b6 0 _ _ H8A.out
          go_simp
          clear hc8 hf8
          refine hK.out _ _ ?_ (fun hHeld => ?_)
          · exact HSK8.out _ _ HX.out
          clear hK K
          try go_frame
          refine wpAnyH_done (by kernel_rfl) ?_ _
          have ha8 := Lib.hid (heap_set1 (v := .slice va ln vc) H8A.out)
          have hg8 := Lib.hid (show GRow (ws.setCell ⟨b6, 0, none⟩ (.slice va ln vc)) w.heap.size w.heap.size (.slice va ln vc) Kn from HGS.out.asideR (But.set ws b6 0 _) H8A.out)
          have hb8 := Lib.hid (((HBT.out.trans (Buts.of HWQ.out)).trans (Buts.of HX.out)).trans (Buts.but (S := (· = b6)) (But.set ws b6 0 (.slice va ln vc)) rfl))
          clear hHeld HGS H8A HX HRW
          clear HWQ HBQ L8 C8 HRF HRL HDK HSK HSK8 HK0 HK1 HKM HSTEP LB6 HBT HMK HGK H8 HBB
          go_wp2
          go_roundg (nb - (k + 1))
          case rel => exact ⟨k + 1, _, Kn, by go_num, by omega, Nat.le_refl _, ha8, hg8, HKS, hb8⟩
          case measure => omega
      · have HRF := Lib.hid (show otherM c Lk O = R by rw [hR]; unfold rowF; rw [if_pos (by rw [← HOO.out]; omega)])
        clear hLk hRk2 hlk hcu hds h8 hR hg HKL HRR NB8
        have hp : (0 : Int) < (oo : Int) := by omega
        go_upto_region 8 with (fail)
        rw [← hwq, ← hb8]
        clear hwq hb8
        refine wp_region_held_drew (S := fun wx => wx.cell? ⟨b8, 0, none⟩ = some (.int .u8 (c : Nat)) ∧ wx.cell? ⟨b8, 1, none⟩ = some (.slice ua lk uc)) (by kernel_rfl) ?_ (fun hHeld => ?_)
        · exact HSK.out _ ((Below.refl _ _).drew)
        obtain ⟨wd, hwd⟩ : ∃ X, X = wq.drew := ⟨_, rfl⟩
        have HX := Lib.hid (show Below wq.heap.size wq wd by rw [hwd]; exact (Below.refl _ _).drew)
        replace hHeld := HSK.out _ HX.out
        rw [← hwd]
        clear hwd
        refine tk 1 rfl (fun w hSw => by (try dsimp only at hSw); go_simp; try with_reducible rfl) ?_
        go_frame
        refine tk 2 rfl (fun w hSw => by (try dsimp only at hSw); go_simp; try with_reducible rfl) ?_
        go_frame
        refine tk 3 rfl (fun w hSw => by (try dsimp only at hSw); go_simp; try with_reducible rfl) ?_
        go_frame
        refine two_at (i := 0) (j := 4) rfl rfl (by kernel_rfl) (by kernel_rfl) (by kernel_rfl) (fun K hK => ?_) (fun K hK => ?_)
        · have hc8 : wd.cell? ⟨b6, 0, none⟩ = some v := (HX.out.cell (p := ⟨b6, 0, none⟩) L8.out).trans C8.out
          go_simp
          clear hc8
          refine hK.out _ _ ?_ (fun hHeld => ?_)
          · exact HSK.out _ HX.out
          clear hK K
          try go_frame
          refine do_at (i := 4) rfl (by kernel_rfl) (by kernel_rfl) (fun K hK => ?_)
          go_simp
          refine (rother_any wd c (.slice ua lk uc) (.slice oa oo oc) Lk O HC256.out (HDK.out _ HX.out) (HOV.out _ (HBQ.out.trans (HX.out.mono HBQ.out.size)))).mono ?_
          rintro e wz ⟨r, rfl, own, bz⟩
          obtain ⟨ra, rc, hr⟩ := own.shape
          rw [HRF.out] at own hr
          have HRW := Lib.hid own.row
          replace HX := Lib.hid (HX.out.trans (bz.mono HX.out.size))
          clear own bz
          obtain ⟨lr, hlr⟩ : ∃ lr, lr = R.length := ⟨_, rfl⟩
          rw [← hlr] at hr
          subst hr
          clear hlr
          go_wp2_with fail
          refine hK.out _ _ ?_ (fun hHeld => ?_)
          · exact HSK.out _ HX.out
          clear hK K
          try go_frame
          refine do_at (i := 5) rfl (by kernel_rfl) (by kernel_rfl) (fun K hK => ?_)
          go_simp
          refine (rset_any wz w.heap.size w.heap.size v Kl (k : Nat) _ R (HGK.out.below (HWQ.out.trans (HX.out.mono HWQ.out.size))) HK0.out HK1.out (Nat.le_trans HBQ.out.size HX.out.size) HRW.out HRL.out HKM.out).mono ?_
          rintro e ws ⟨v', Kn, rfl, gk, hk, bs⟩
          obtain ⟨va, vc, hv'⟩ := gk.shape
          obtain ⟨ln, hln⟩ : ∃ ln, ln = Kn.length := ⟨_, rfl⟩
          rw [← hln] at hv'
          subst hv'
          clear hln
          have HGS := Lib.hid (gk.lower (Nat.le_refl _) (Nat.le_trans HBQ.out.size HX.out.size))
          have HKS := Lib.hid (show Kn.map (·.R) = gK c RS n (k + 1) by rw [hk, HMK.out]; exact HSTEP.out)
          replace HX := Lib.hid (HX.out.trans (bs.mono HX.out.size))
          clear gk hk bs
          have H8A := Lib.hid (show ws.heap[b6]? = some (.cells #[v] 29 (0, 0)) from (HX.out.block b6 L8.out).trans ((HWQ.out.block b6 LB6.out).trans H8.out))
          go_wp2_with fail
          refine hK.out _ _ ?_ (fun hHeld => ?_)
          · exact HSK.out _ HX.out
          clear hK K
          try go_frame
          refine do_at (i := 6) rfl (by kernel_rfl) (by kernel_rfl) (fun K hK => ?_)
          have hc8 : ws.cell? ⟨b6, 0, none⟩ = some v := by rw [cell_of_row ws b6 0 _ _ _ H8A.out]; simp
          have hf8 : ws.frozen? ⟨b6, 0, none⟩ = false := frozen_of_row ws b6 0 _ _ H8A.out
          go_simp
          clear hc8 hf8
          refine hK.out _ _ ?_ (fun hHeld => ?_)
          · exact HSK8.out _ _ HX.out
          clear hK K
          try go_frame
          refine wpAnyH_done (by kernel_rfl) ?_ _
          have ha8 := Lib.hid (heap_set1 (v := .slice va ln vc) H8A.out)
          have hg8 := Lib.hid (show GRow (ws.setCell ⟨b6, 0, none⟩ (.slice va ln vc)) w.heap.size w.heap.size (.slice va ln vc) Kn from HGS.out.asideR (But.set ws b6 0 _) H8A.out)
          have hb8 := Lib.hid (((HBT.out.trans (Buts.of HWQ.out)).trans (Buts.of HX.out)).trans (Buts.but (S := (· = b6)) (But.set ws b6 0 (.slice va ln vc)) rfl))
          clear hHeld HGS H8A HX HRW
          clear HWQ HBQ L8 C8 HRF HRL HDK HSK HSK8 HK0 HK1 HKM HSTEP LB6 HBT HMK HGK H8 HBB
          go_wp2
          go_roundg (nb - (k + 1))
          case rel => exact ⟨k + 1, _, Kn, by go_num, by omega, Nat.le_refl _, ha8, hg8, HKS, hb8⟩
          case measure => omega
        · go_simp
          refine (rother_any wd c (.slice ua lk uc) (.slice oa oo oc) Lk O HC256.out (HDK.out _ HX.out) (HOV.out _ (HBQ.out.trans (HX.out.mono HBQ.out.size)))).mono ?_
          rintro e wz ⟨r, rfl, own, bz⟩
          obtain ⟨ra, rc, hr⟩ := own.shape
          rw [HRF.out] at own hr
          have HRW := Lib.hid own.row
          replace HX := Lib.hid (HX.out.trans (bz.mono HX.out.size))
          clear own bz
          obtain ⟨lr, hlr⟩ : ∃ lr, lr = R.length := ⟨_, rfl⟩
          rw [← hlr] at hr
          subst hr
          clear hlr
          go_wp2_with fail
          refine hK.out _ _ ?_ (fun hHeld => ?_)
          · exact HSK.out _ HX.out
          clear hK K
          try go_frame
          refine do_at (i := 0) rfl (by kernel_rfl) (by kernel_rfl) (fun K hK => ?_)
          have hc8 : wz.cell? ⟨b6, 0, none⟩ = some v := (HX.out.cell (p := ⟨b6, 0, none⟩) L8.out).trans C8.out
          go_simp
          clear hc8
          refine hK.out _ _ ?_ (fun hHeld => ?_)
          · exact HSK.out _ HX.out
          clear hK K
          try go_frame
          refine do_at (i := 5) rfl (by kernel_rfl) (by kernel_rfl) (fun K hK => ?_)
          go_simp
          refine (rset_any wz w.heap.size w.heap.size v Kl (k : Nat) _ R (HGK.out.below (HWQ.out.trans (HX.out.mono HWQ.out.size))) HK0.out HK1.out (Nat.le_trans HBQ.out.size HX.out.size) HRW.out HRL.out HKM.out).mono ?_
          rintro e ws ⟨v', Kn, rfl, gk, hk, bs⟩
          obtain ⟨va, vc, hv'⟩ := gk.shape
          obtain ⟨ln, hln⟩ : ∃ ln, ln = Kn.length := ⟨_, rfl⟩
          rw [← hln] at hv'
          subst hv'
          clear hln
          have HGS := Lib.hid (gk.lower (Nat.le_refl _) (Nat.le_trans HBQ.out.size HX.out.size))
          have HKS := Lib.hid (show Kn.map (·.R) = gK c RS n (k + 1) by rw [hk, HMK.out]; exact HSTEP.out)
          replace HX := Lib.hid (HX.out.trans (bs.mono HX.out.size))
          clear gk hk bs
          have H8A := Lib.hid (show ws.heap[b6]? = some (.cells #[v] 29 (0, 0)) from (HX.out.block b6 L8.out).trans ((HWQ.out.block b6 LB6.out).trans H8.out))
          go_wp2_with fail
          refine hK.out _ _ ?_ (fun hHeld => ?_)
          · exact HSK.out _ HX.out
          clear hK K
          try go_frame
          refine do_at (i := 6) rfl (by kernel_rfl) (by kernel_rfl) (fun K hK => ?_)
          have hc8 : ws.cell? ⟨b6, 0, none⟩ = some v := by rw [cell_of_row ws b6 0 _ _ _ H8A.out]; simp
          have hf8 : ws.frozen? ⟨b6, 0, none⟩ = false := frozen_of_row ws b6 0 _ _ H8A.out
          go_simp
          clear hc8 hf8
          refine hK.out _ _ ?_ (fun hHeld => ?_)
          · exact HSK8.out _ _ HX.out
          clear hK K
          try go_frame
          refine wpAnyH_done (by kernel_rfl) ?_ _
          have ha8 := Lib.hid (heap_set1 (v := .slice va ln vc) H8A.out)
          have hg8 := Lib.hid (show GRow (ws.setCell ⟨b6, 0, none⟩ (.slice va ln vc)) w.heap.size w.heap.size (.slice va ln vc) Kn from HGS.out.asideR (But.set ws b6 0 _) H8A.out)
          have hb8 := Lib.hid (((HBT.out.trans (Buts.of HWQ.out)).trans (Buts.of HX.out)).trans (Buts.but (S := (· = b6)) (But.set ws b6 0 (.slice va ln vc)) rfl))
          clear hHeld HGS H8A HX HRW
          clear HWQ HBQ L8 C8 HRF HRL HDK HSK HSK8 HK0 HK1 HKM HSTEP LB6 HBT HMK HGK H8 HBB
          go_wp2
          go_roundg (nb - (k + 1))
          case rel => exact ⟨k + 1, _, Kn, by go_num, by omega, Nat.le_refl _, ha8, hg8, HKS, hb8⟩
          case measure => omega
    · obtain rfl : k = nb := by omega
      have h6 := (HBB.out.block b4 (by have := HNE.out; omega)).trans H4.out
      have c6 : wr.cell? ⟨b4, 0, none⟩ = some (.slice none 0 0) := by rw [cell_of_row wr b4 0 _ _ _ h6]; simp
      have f6 : wr.frozen? ⟨b4, 0, none⟩ = false := frozen_of_row wr b4 0 _ _ h6
      have c7 : wr.cell? ⟨b6, 0, none⟩ = some v := by rw [cell_of_row wr b6 0 _ _ _ H8.out]; simp
      obtain ⟨va, vc, hvs⟩ := HGK.out.shape
      obtain ⟨ln, hln⟩ : ∃ ln, ln = Kl.length := ⟨_, rfl⟩
      rw [← hln] at hvs
      subst hvs
      obtain ⟨xe, hxe⟩ : ∃ X, X = wr.setCell ⟨b4, 0, none⟩ (.slice va ln vc) := ⟨_, rfl⟩
      have HXE := Lib.hid (show xe.cell? ⟨b4, 0, none⟩ = some (.slice va ln vc) by rw [hxe]; exact World.cell?_setCell_same' _ _ _ (by rw [c6]; rfl))
      have HGE := Lib.hid (show GRow xe w.heap.size w.heap.size (.slice va ln vc) Kl by rw [hxe]; exact HGK.out.asideR (But.set wr b4 0 _) h6)
      have HBE := Lib.hid (show Below w.heap.size w xe by rw [hxe]; exact (HB0.out.trans (HBB.out.mono HB0.out.size)).trans ((But.set wr b4 0 _).below (C := w.heap.size) (by have := HNE.out; omega) (Nat.le_trans HB0.out.size HBB.out.size)))
      clear h6 hln
      by_cases hq : k = ll
      · subst hq
        go_wp2
        rw [← hxe]
        clear hxe c6 f6 c7
        have q0 := HXE.out
        exact bodyPost_ret (v := .agg #[.slice va ln vc]) (by simp [results, Try.results7, go_sem, q0]) rfl ⟨_, rfl, ⟨Kl, HGE.out, by rw [HMK.out, HGM.out]⟩, HBE.out⟩
      · have g8 : (8 : Int) < (ll : Int) := by have := HNE.out; omega
        obtain rfl : k = 8 := by have := HNE.out; omega
        go_wp2
        rw [← hxe]
        clear hxe c6 f6 c7
        have q0 := HXE.out
        exact bodyPost_ret (v := .agg #[.slice va ln vc]) (by simp [results, Try.results7, go_sem, q0]) rfl ⟨_, rfl, ⟨Kl, HGE.out, by rw [HMK.out, HGM.out]⟩, HBE.out⟩

theorem ggrow (w : World) (lo p rb c m k : Nat) (G : List Cls) (h : Gg w lo p rb c G) (g : Good G m) (hk : k < G.length) :
    Calls Try.prog 16 #[gV p, .int .i64 (k : Nat)] w fun e w' => ∃ x : Hd, e = .returned (hdV x) ∧ x.R = rowG G k ∧ w.heap.size ≤ x.b ∧ CRow w' w.heap.size (hdV x) x.R ∧ Below w.heap.size w w' := by
  obtain ⟨H, h1, rfl⟩ := h
  rw [List.length_map] at hk
  have hr := g.len (i := k) (by rw [List.length_map]; exact hk)
  rw [← rowG_hd] at hr ⊢
  have := g.m0
  have := g.m1
  exact row_yes w lo p rb c k H h1 hk (by omega)
theorem ggset (w : World) (lo p rb c m k : Nat) (G : List Cls) (v : Value) (R : Cls) (h : Gg w lo p rb c G) (hlo : lo ≤ w.heap.size) (g : ∀ R ∈ G, R.length = m) (m0 : 0 < m) (m1 : m ≤ 1000) (hk : k < G.length) (hv : RowIn w v R) (hR : R.length = m) :
    Calls Try.prog 18 #[gV p, .int .i64 (k : Nat), v] w fun e w' => e = .returned (.bool true) ∧ Gg w' lo p rb c (G.set k R) ∧ Buts (· = rb) w w' := by
  obtain ⟨H, h1, h2⟩ := h
  have hl : H.length = G.length := by rw [← h2, List.length_map]
  have e0 : (hdAt H 0).R.length = m := by rw [rowG_hd, h2]; exact g _ (rowG_mem (by omega))
  refine (gset_yes w lo p rb c k H v R h1 hlo (by omega) hv (by omega) (by omega) (by omega)).mono ?_
  rintro e w' ⟨rfl, ⟨x, hx, _, hg⟩, bt⟩
  exact ⟨rfl, Gg.of_set hg h2 hx, bt⟩
theorem gK_put {c : Nat} {RS : List Cls} {n k : Nat} (h1 : k < RS.length) (h2 : k < n) : (gK c RS n k).set k (rowG RS k) = gK c RS n (k + 1) := by
  unfold gK
  rw [show List.replicate (n - k) (newM c Cel.z) = newM c Cel.z :: List.replicate (n - (k + 1)) (newM c Cel.z) by rw [← List.replicate_succ]; congr 1; omega, List.take_succ_eq_append_getElem h1]
  have hlt : (RS.take k).length = k := by rw [List.length_take]; omega
  have := set_mid (RS.take k) (List.replicate (n - (k + 1)) (newM c Cel.z)) (newM c Cel.z) RS[k]
  rw [hlt] at this
  rw [show rowG RS k = RS[k] by unfold rowG; rw [List.getD_eq_getElem?_getD, List.getElem?_eq_getElem h1]; rfl]
  exact this
theorem gK_all (c : Nat) (RS : List Cls) : gK c RS RS.length RS.length = RS := by
  unfold gK
  rw [List.take_length, Nat.sub_self, List.replicate_zero, List.append_nil]
set_option maxHeartbeats 8000000 in
set_option maxRecDepth 100000 in
theorem of_any (w : World) (lo m : Nat) (v : Value) (G : List Cls) (h : Rl w lo v G) (gd : Good G m) (hm5 : G.length ≤ 512 ∧ m ≤ 512) :
    Calls Try.prog 8 #[.agg #[v]] w fun e w' => ∃ p rb c, e = .returned (gV p) ∧ Gg w' w.heap.size p rb c G ∧ Below w.heap.size w w' := by
  obtain ⟨H, hg, hG⟩ := h
  have hlG : G.length = H.length := by rw [← hG, List.length_map]
  have n0 := gd.n0
  obtain ⟨g, c, rfl, _, hgs⟩ := hg.here (by omega)
  obtain ⟨nn, hnn⟩ : ∃ nn, nn = H.length := ⟨_, rfl⟩
  rw [← hnn] at hg
  obtain ⟨lv, hlv⟩ : ∃ lv : Value, lv = .slice (some ⟨g, 0, none⟩) H.length c := ⟨_, rfl⟩
  rw [← hlv]
  rw [← hnn] at hlv
  subst hlv
  obtain ⟨yb, yc, hy⟩ : ∃ yb yc, hdV (hdAt H 0) = .slice (some ⟨yb, 0, none⟩) m yc := ⟨_, _, by rw [hdV, rowG_hd, hG, (gd.len n0).2.1]⟩
  obtain ⟨w0, hw0⟩ : ∃ W0, W0 = w.alloc (.cells #[.slice (some ⟨g, 0, none⟩) nn c] 29) := ⟨_, rfl⟩
  obtain ⟨b1, hb1⟩ : ∃ b, b = w.heap.size := ⟨_, rfl⟩
  have B0 : Below w.heap.size w w0 := by rw [hw0]; exact (Below.refl _ _).alloc (Nat.le_refl _) _
  have h1 : Lie w0 b1 [.slice (some ⟨g, 0, none⟩) nn c] := by rw [hw0]; exact Lie.new w _ _ b1 hb1
  have HNE := Lib.hid (show b1 = w.heap.size ∧ w0.heap.size = w.heap.size + 1 ∧ g < w.heap.size ∧ nn = G.length ∧ 0 < m ∧ m ≤ 512 ∧ nn ≤ 512 ∧ 0 < nn by rw [hw0]; exact ⟨hb1, by simp, hgs, by omega, gd.m0, hm5.2, by omega, by omega⟩)
  have HB0 := Lib.hid B0
  have HCAN := Lib.hid (show canB (nn : Nat) (m : Nat) = true by unfold canB; have := HNE.out; simp; omega)
  have HC1 := Lib.hid (show ∀ W, Below w0.heap.size w0 W → W.cell? ⟨b1, 0, none⟩ = some (.slice (some ⟨g, 0, none⟩) nn c) from fun W k => (h1.below k).at 0 rfl)
  have HCK := Lib.hid (show ∀ W k, Below w0.heap.size w0 W → k < nn → W.cell? ⟨g, k, none⟩ = some (hdV (hdAt H k)) from fun W k kb hk => by
    rw [kb.cell (p := ⟨g, k, none⟩) (Nat.lt_of_lt_of_le hgs HB0.out.size), HB0.out.cell (p := ⟨g, k, none⟩) hgs, hdAt_eq (by omega)]
    exact hg.at (by omega))
  have HRK := Lib.hid (show ∀ W k, Below w0.heap.size w0 W → k < nn → RowIn W (hdV (hdAt H k)) (rowG G k) from fun W k kb hk => by
    rw [← hG, ← rowG_hd, hdAt_eq (by omega)]
    exact (((hg.row (by omega)).below HB0.out).below kb).row)
  have HSK := Lib.hid (show ∀ W, Below w0.heap.size w0 W → (fun wx => wx.cell? ⟨b1, 0, none⟩ = some (.slice (some ⟨g, 0, none⟩) nn c) ∧ wx.cell? ⟨g, 0, none⟩ = some (.slice (some ⟨yb, 0, none⟩) m yc)) W from fun W kb => ⟨HC1.out W kb, by rw [← hy]; exact HCK.out W 0 kb (by have := HNE.out; omega)⟩)
  have HGD := Lib.hid (show ∀ R ∈ G, R.length = m from fun R hR => (gd.row R hR).2.1)
  have c1 := HC1.out w0 (Below.refl _ _)
  have hnz : ((nn : Int) == 0) = false := by have := HNE.out; simp; omega
  have hp0 : 0 < nn := HNE.out.2.2.2.2.2.2.2
  have hn5 : nn ≤ 512 := HNE.out.2.2.2.2.2.2.1
  clear B0 h1 hg hG hlG n0 hnn hy hgs gd hm5
  go_enter Try.func8, Try.ntmps8
  go_upto_region 1 with (fail)
  rw [← hw0, ← hb1]
  clear hw0 hb1
  go_upto_region 3 with (fail)
  refine wp_region_held_drew (S := fun wx => wx.cell? ⟨b1, 0, none⟩ = some (.slice (some ⟨g, 0, none⟩) nn c) ∧ wx.cell? ⟨g, 0, none⟩ = some (.slice (some ⟨yb, 0, none⟩) m yc)) (by kernel_rfl) ?_ (fun hHeld => ?_)
  · exact HSK.out _ ((Below.refl _ _).drew)
  obtain ⟨wd, hwd⟩ : ∃ X, X = w0.drew := ⟨_, rfl⟩
  have HX := Lib.hid (show Below w0.heap.size w0 wd by rw [hwd]; exact (Below.refl _ _).drew)
  replace hHeld := HSK.out _ HX.out
  rw [← hwd]
  clear hwd
  refine tk 0 rfl (fun w hSw => by (try dsimp only at hSw); go_simp; try with_reducible rfl) ?_
  go_frame
  refine tk 1 rfl (fun w hSw => by (try dsimp only at hSw); go_simp; try with_reducible rfl) ?_
  go_frame
  refine tk 2 rfl (fun w hSw => by (try dsimp only at hSw); go_simp; try with_reducible rfl) ?_
  go_frame
  refine tk 3 rfl (fun w hSw => by (try dsimp only at hSw); go_simp; try with_reducible rfl) ?_
  go_frame
  refine tk 4 rfl (fun w hSw => by (try dsimp only at hSw); go_simp; try with_reducible rfl) ?_
  go_frame
  refine tk 5 rfl (fun w hSw => by (try dsimp only at hSw); go_simp; try with_reducible rfl) ?_
  go_frame
  refine tk 6 rfl (fun w hSw => by (try dsimp only at hSw); go_simp; try with_reducible rfl) ?_
  go_frame
  refine tk 7 rfl (fun w hSw => by (try dsimp only at hSw); go_simp; try with_reducible rfl) ?_
  go_frame
  refine tk 8 rfl (fun w hSw => by (try dsimp only at hSw); go_simp; try with_reducible rfl) ?_
  go_frame
  refine do_at (i := 9) rfl (by kernel_rfl) (by kernel_rfl) (fun K hK => ?_)
  go_simp
  refine (gnew_any wd (nn : Nat) (m : Nat) Cel.z HCAN.out).mono ?_
  rintro e wz ⟨p, rb, cc, F, rfl, hat, hF, _, bz⟩
  rw [Int.toNat_natCast, Int.toNat_natCast] at hF
  have HRB := Lib.hid (show w0.heap.size ≤ rb from Nat.le_trans HX.out.size hat.lt.2.2)
  have HG0 := Lib.hid (show Gg wz w.heap.size p rb cc (gK m G nn 0) from Gg.lower ⟨F, hat, by rw [hF]; rfl⟩ (Nat.le_trans HB0.out.size HX.out.size))
  replace HX := Lib.hid (HX.out.trans (bz.mono HX.out.size))
  clear hat hF bz
  go_wp2_with fail
  refine hK.out _ _ ?_ (fun hHeld => ?_)
  · exact HSK.out _ HX.out
  clear hK K
  try go_frame
  refine tk 10 rfl (fun w hSw => by (try dsimp only at hSw); go_simp; try with_reducible rfl) ?_
  go_frame
  refine wpAnyH_done (by kernel_rfl) ?_ _
  go_wp2
  go_loopg [4] nn (fun Gs i wr => ∃ (k : Nat), i = .int .i64 k ∧ k ≤ nn ∧ nn - k ≤ Gs ∧ Hid (Gg wr w.heap.size p rb cc (gK m G nn k)) ∧ Hid (Below w0.heap.size w0 wr))
  case atStart => exact ⟨0, rfl, Nat.zero_le _, Nat.sub_le _ _, HG0, HX⟩
  case round =>
    obtain ⟨k, rfl, hkn, hgk, HGG, HBT⟩ := hrel
    clear HG0 HX
    have c1 := HC1.out wr HBT.out
    by_cases hlt : k < nn
    · have HR := Lib.hid (HRK.out wr k HBT.out hlt)
      have ck := HCK.out wr k HBT.out hlt
      obtain ⟨x, hx⟩ : ∃ x, x = hdAt H k := ⟨_, rfl⟩
      rw [← hx] at HR ck
      clear hx
      go_wp2_with fail
      refine (ggset wr w.heap.size p rb cc m k (gK m G nn k) (hdV x) (rowG G k) HGG.out (Nat.le_trans HB0.out.size HBT.out.size) (gK_row HGD.out (len_newM m Cel.z) nn k) HNE.out.2.2.2.2.1 (by have := HNE.out; omega) (by rw [gK_len (by have := HNE.out; omega) hkn]; exact hlt) HR.out (HGD.out _ (rowG_mem (by have := HNE.out; omega)))).mono ?_
      rintro e w2 ⟨rfl, gg2, bt2⟩
      have G2 := Lib.hid (show Gg w2 w.heap.size p rb cc (gK m G nn (k + 1)) by rw [← gK_put (by have := HNE.out; omega) hlt]; exact gg2)
      have B2 := Lib.hid (show Below w0.heap.size w0 w2 from HBT.out.trans (bt2.below (C := w0.heap.size) (fun i hi => by have := HRB.out; omega) HBT.out.size))
      have HLT := Lib.hid (show k + 1 ≤ nn from hlt)
      clear gg2 bt2 HGG HBT HR ck
      go_wp2
      go_roundg (nn - (k + 1))
      case rel => exact ⟨k + 1, by go_num, HLT.out, Nat.le_refl _, G2, B2⟩
      case measure => have := HLT.out; omega
    · obtain rfl : k = nn := by omega
      have HE := Lib.hid (show Gg wr w.heap.size p rb cc G by have h1 := HGG.out; rw [HNE.out.2.2.2.1, gK_all] at h1; exact h1)
      have HBE := Lib.hid (HB0.out.trans (HBT.out.mono HB0.out.size))
      clear HGG
      go_wp2
      go_ret
      exact ⟨p, rb, cc, rfl, HE.out, HBE.out⟩
end Go.Proofs.Ytdeahnphcfcfpaa.Lab
