/- The reference's parts: numbers that are bytes, or none. The reference's colored: the colour of a kind and numbers, if these are right. -/
import Derived.Test.YtlmhnebgkginkaaDoorAtRSim
namespace Go.Proofs.YtlmhnebgkginkaaDoor.Lab
open Go Go.RowKit

def PtsOut (w : World) (L : List Int) (e : Ending) (w' : World) : Prop := ∃ u b, e = .returned (.tuple #[u, .bool b]) ∧ ((b = true ∧ (partsM partM L).length = L.length ∧ BRow w' w.heap.size u (partsM partM L)) ∨ (b = false ∧ (partsM partM L).length < L.length ∧ u = .slice none 0 0)) ∧ Below w.heap.size w w'
set_option maxHeartbeats 4000000 in
set_option maxRecDepth 100000 in
theorem rparts_any (w : World) (X : Nat → Prop) (v : Value) (L : List Int) (h : NumsAt w X v L) (hl : L.length ≤ 1000) : Calls Tryd.prog 56 #[v] w (PtsOut w L) := by
  obtain ⟨ad, c, rfl⟩ := h.shape
  obtain ⟨n, hn⟩ : ∃ n, n = L.length := ⟨_, rfl⟩
  have HN := Lib.hid hn
  have HL := Lib.hid h
  rw [← hn] at hl HL ⊢
  obtain ⟨ib, hi, hz0, hz1, hz2⟩ := info_parts infoU8
  clear hn h
  go_enter Tryd.func56, Tryd.ntmps56
  go_wp2
  go_loopw [4, 5] (fun u i wr => ∃ k : Nat, k ≤ n ∧ i = .int .i64 k ∧ Hid (BRow wr w.heap.size u (partsM partM (L.take k))) ∧ Hid ((partsM partM (L.take k)).length = k) ∧ Hid (Below w.heap.size w wr)) (fun _ i _ => n - (intOf i).toNat)
  case atStart => exact ⟨0, Nat.zero_le _, rfl, Lib.hid (World.ownsRow_nil _ _ _ 1), Lib.hid rfl, Lib.hid (Below.refl _ _)⟩
  case round =>
    obtain ⟨k, hk, rfl, HR, HK, HB⟩ := hrel
    by_cases hlt : k < n
    · have hkL : k < L.length := by rw [← HN.out]; exact hlt
      obtain ⟨S1, S2⟩ := partsM_snoc partM L k hkL HK.out
      have HS1 := Lib.hid S1
      have HS2 := Lib.hid S2
      obtain ⟨g, o, c2, e2, _, _, _, hg, hcell⟩ := HL.out.open (by omega)
      injection e2 with e2 e3 e4
      subst e2
      clear e3 e4 S1 S2
      have a1 : wr.cell? ⟨g, o + k, none⟩ = some (.int .i64 (L.getD k 0)) := (HB.out.cell (p := ⟨g, o + k, none⟩) hg).trans (hcell k hkL)
      have hEl : L.getD k 0 = L[k] := by rw [List.getD_eq_getElem?_getD, List.getElem?_eq_getElem hkL]; rfl
      rw [hEl] at a1
      obtain ⟨x, hx⟩ : ∃ x, x = L[k] := ⟨_, rfl⟩
      rw [← hx] at a1 HS1 HS2
      have HLEN := Lib.hid (show (partsM partM (L.take k)).length < L.length by rw [HK.out]; exact hkL)
      clear hcell hEl hx
      by_cases x1 : x = -1
      · have hp : partM x = some 0 := by rw [x1]; rfl
        subst x1
        have HE := Lib.hid (HS1.out 0 hp)
        clear hp HS1 HS2 HLEN
        obtain ⟨l0, hl0⟩ : ∃ l0, l0 = partsM partM (L.take k) := ⟨_, rfl⟩
        have hR1 : wr.ownsRow w.heap.size 5 1 u4 k (bytesI l0) := by have := HR.out; unfold BRow at this; rwa [HK.out, ← hl0] at this
        have hll : l0.length = k := by rw [hl0]; exact HK.out
        have HL0 := Lib.hid hl0
        clear HR hl0
        go_wp2_with (at_builtin; refine wpList_append_own _ rfl (.tmp 25) (.tmp 28) 92 rfl w.heap.size 5 ib (.int .u8 0) 1 1 Tryd.underlying92 hi hz0 hz1 hz2 rfl (by decide) u4 k (bytesI l0) rfl (hR1.alloc _) ⟨wr.heap.size, 0, none⟩ 1 1 [.int .u8 0] rfl rfl ?c1 ?c2 ?c3 ?c4 ?c5 ?_)
        case c1 => exact new_cells wr [.int .u8 0] 5 _ rfl
        case c2 => simp [Value.oneCell']
        case c3 => unfold maxLen; omega
        case c4 => omega
        case c5 => have := HB.out.size; simp; omega
        intro v' w2 own2 grow2 _
        have b2 : Below w.heap.size w w2 := (HB.out.alloc HB.out.size _).grown grow2 (by have := HB.out.size; simp; omega) (fun j hj => (hR1.lt j hj).1)
        have HR2 := Lib.hid (show BRow w2 w.heap.size v' (partsM partM (L.take (k + 1))) by
          unfold BRow
          rw [HE.out.2, HE.out.1, ← HL0.out]
          simpa [bytesI] using own2)
        have HB2 := Lib.hid b2
        have HK2 := Lib.hid HE.out.2
        clear own2 grow2 b2 hR1 HE
        go_wp2
        go_roundw
        case rel => exact ⟨k + 1, by omega, by go_num, HR2, HK2, HB2⟩
        case measure => simp [intOf]; omega
      have e1 : (x == -1) = false := by simp [x1]
      by_cases x2 : x < 0
      · have hp : partM x = none := by unfold partM valM; rw [if_neg x1, if_neg (by omega)]
        have e2 : decide (x < 0) = true := decide_eq_true x2
        clear x1 x2
        have HE := Lib.hid (HS2.out hp)
        clear hp HS1 HS2
        go_wp2
        go_ret2
        exact ⟨.slice none 0 0, false, rfl, .inr ⟨rfl, by rw [HE.out]; exact HLEN.out, rfl⟩, HB.out⟩
      have e2 : decide (x < 0) = false := decide_eq_false x2
      by_cases x3 : 255 < x
      · have hp : partM x = none := by unfold partM valM; rw [if_neg x1, if_neg (by omega)]
        have e3 : decide (255 < x) = true := decide_eq_true x3
        clear x1 x2 x3
        have HE := Lib.hid (HS2.out hp)
        clear hp HS1 HS2
        go_wp2
        go_ret2
        exact ⟨.slice none 0 0, false, rfl, .inr ⟨rfl, by rw [HE.out]; exact HLEN.out, rfl⟩, HB.out⟩
      · have hp : partM x = some x := by unfold partM valM; rw [if_neg x1, if_pos (by omega)]
        have e3 : decide (255 < x) = false := decide_eq_false x3
        have e4 : IntKind.u8.wrap x = x := by rw [IntKind.wrap_u8]; omega
        clear x1 x2 x3
        have HE := Lib.hid (HS1.out x hp)
        clear hp HS1 HS2 HLEN
        obtain ⟨l0, hl0⟩ : ∃ l0, l0 = partsM partM (L.take k) := ⟨_, rfl⟩
        have hR1 : wr.ownsRow w.heap.size 5 1 u4 k (bytesI l0) := by have := HR.out; unfold BRow at this; rwa [HK.out, ← hl0] at this
        have hll : l0.length = k := by rw [hl0]; exact HK.out
        have HL0 := Lib.hid hl0
        clear HR hl0
        go_wp2_with (at_builtin; refine wpList_append_own _ rfl (.tmp 25) (.tmp 28) 92 rfl w.heap.size 5 ib (.int .u8 0) 1 1 Tryd.underlying92 hi hz0 hz1 hz2 rfl (by decide) u4 k (bytesI l0) rfl (hR1.alloc _) ⟨wr.heap.size, 0, none⟩ 1 1 [.int .u8 x] rfl rfl ?c1 ?c2 ?c3 ?c4 ?c5 ?_)
        case c1 => exact new_cells wr [.int .u8 x] 5 _ rfl
        case c2 => simp [Value.oneCell']
        case c3 => unfold maxLen; omega
        case c4 => omega
        case c5 => have := HB.out.size; simp; omega
        intro v' w2 own2 grow2 _
        have b2 : Below w.heap.size w w2 := (HB.out.alloc HB.out.size _).grown grow2 (by have := HB.out.size; simp; omega) (fun j hj => (hR1.lt j hj).1)
        have HR2 := Lib.hid (show BRow w2 w.heap.size v' (partsM partM (L.take (k + 1))) by
          unfold BRow
          rw [HE.out.2, HE.out.1, ← HL0.out]
          simpa [bytesI] using own2)
        have HB2 := Lib.hid b2
        have HK2 := Lib.hid HE.out.2
        clear own2 grow2 b2 hR1 HE
        go_wp2
        go_roundw
        case rel => exact ⟨k + 1, by omega, by go_num, HR2, HK2, HB2⟩
        case measure => simp [intOf]; omega
    · have HE := Lib.hid (show L.take k = L from List.take_of_length_le (by rw [← HN.out]; omega))
      have hkn : k = n := by omega
      go_wp2
      go_ret2
      exact ⟨u4, true, rfl, .inl ⟨rfl, by have := HK.out; rw [HE.out] at this; rw [this, hkn, HN.out], by have := HR.out; rwa [HE.out] at this⟩, HB.out⟩

/-- Of a kind and numbers, which are as many as it needs. -/
def coloredM (k : Int) (l : List Int) : Option Cl := if l.length = needed k then madeM k (partsM partM l) else none
def setC2 (which : Int) (a : At) (c : Option Cl) : At := if which = 38 then a.setFg c else a.setBg c
theorem setC2_none (which : Int) (a : At) : setC2 which a none = a := by unfold setC2 At.setFg At.setBg; split <;> rfl
theorem colored_short {k : Int} {l : List Int} (h : (partsM partM l).length < l.length) : coloredM k l = none := by
  unfold coloredM
  split
  · unfold madeM
    rw [if_pos (by omega)]
  · rfl
theorem colored_5 {l : List Int} (h : (partsM partM l).length = 1) (hl : (partsM partM l).length = l.length) : coloredM 5 l = some ⟨1, (partsM partM l).getD 0 0, 0, 0⟩ := by
  unfold coloredM madeM
  rw [show needed 5 = 1 from rfl, if_pos (by omega), if_neg (by omega), if_pos rfl]
theorem colored_5n {l : List Int} (h : (partsM partM l).length ≠ 1) (hl : (partsM partM l).length = l.length) : coloredM 5 l = none := by
  unfold coloredM
  rw [show needed 5 = 1 from rfl, if_neg (by omega)]
theorem colored_2 {l : List Int} (h : (partsM partM l).length = 3) (hl : (partsM partM l).length = l.length) : coloredM 2 l = some ⟨2, (partsM partM l).getD 0 0, (partsM partM l).getD 1 0, (partsM partM l).getD 2 0⟩ := by
  unfold coloredM madeM
  rw [show needed 2 = 3 from rfl, if_pos (by omega), if_neg (by omega), if_neg (by decide), if_pos rfl]
theorem colored_2n {l : List Int} (h : (partsM partM l).length ≠ 3) (hl : (partsM partM l).length = l.length) : coloredM 2 l = none := by
  unfold coloredM
  rw [show needed 2 = 3 from rfl, if_neg (by omega)]
theorem colored_no {k : Int} {l : List Int} (h5 : k ≠ 5) (h2 : k ≠ 2) : coloredM k l = none := by
  unfold coloredM madeM
  rw [if_neg h5, if_neg h2]
  split
  · split <;> rfl
  · rfl
set_option maxHeartbeats 8000000 in
set_option maxRecDepth 100000 in
theorem rcolored_any (w : World) (X : Nat → Prop) (v : Value) (L : List Int) (a : At) (which k : Int) (h : NumsAt w X v L) (hl : L.length ≤ 1000) : Calls Tryd.prog 33 #[attV a, .int .i64 which, .int .i64 k, v] w (SimOut w (setC2 which a (coloredM k L))) := by
  obtain ⟨va, vc, rfl⟩ := h.shape
  obtain ⟨vn, hvn⟩ : ∃ n, n = L.length := ⟨_, rfl⟩
  rw [← hvn] at h ⊢
  obtain ⟨w0, hw0⟩ : ∃ w0, w0 = (w.alloc (.cells #[.int .u8 a.fg.k, .int .u8 a.fg.r, .int .u8 a.fg.g, .int .u8 a.fg.b, .int .u8 a.bg.k, .int .u8 a.bg.r, .int .u8 a.bg.g, .int .u8 a.bg.b, .int .u16 (a.fl : Nat)] 26)).alloc (.cells #[.int .u8 0, .int .u8 0, .int .u8 0, .int .u8 0, .int .u8 0, .int .u8 0, .int .u8 0, .int .u8 0, .int .u16 0] 26) := ⟨_, rfl⟩
  have b0 : Below w.heap.size w w0 := by rw [hw0]; exact ((Below.refl _ _).alloc (Nat.le_refl _) _).alloc (by simp) _
  have HA := Lib.hid (show AtAt w0 w.heap.size a by rw [hw0]; exact (AtAt.newAt w _ rfl a _).past _)
  have HZ := Lib.hid (show AtAt w0 (w.heap.size + 1) At.zero by rw [hw0]; exact AtAt.newAt _ _ (by simp) At.zero _)
  have HB := Lib.hid b0
  have C := Lib.hid (rparts_any w0 X _ L (h.below b0) hl)
  clear b0 h hl hvn
  go_enter Tryd.func33, Tryd.ntmps33
  go_upto_region 1 with (fail)
  rw [← hw0]
  clear hw0
  go_wp2_with fail
  refine C.out.mono ?_
  rintro e w1 ⟨u, b, rfl, hub, bb⟩
  have HA1 := Lib.hid (HA.out.below bb)
  have HZ1 := Lib.hid (HZ.out.below bb)
  have HB1 := Lib.hid (HB.out.trans (bb.mono HB.out.size))
  have HU := Lib.hid hub
  clear hub bb C HA HZ HB
  obtain ⟨C0, hC0⟩ : ∃ b, b = w1.heap.size := ⟨_, rfl⟩
  obtain ⟨w2, hw2⟩ : ∃ w2, w2 = w1.alloc (.cells #[.int .u8 0, .int .u8 0, .int .u8 0, .int .u8 0] 23) := ⟨_, rfl⟩
  have bb : Below w1.heap.size w1 w2 := by rw [hw2]; exact (Below.refl _ _).alloc (Nat.le_refl _) _
  have HC := Lib.hid (show ColAt w2 C0 Cl.zero by rw [hw2]; exact ColAt.newAt w1 _ hC0 Cl.zero _)
  have HA2 := Lib.hid (HA1.out.below bb)
  have HZ2 := Lib.hid (HZ1.out.below bb)
  have HB2 := Lib.hid (HB1.out.trans (bb.mono HB1.out.size))
  have HCS := Lib.hid (show w.heap.size + 2 ≤ C0 by have := HZ1.out.1; omega)
  have HGC := Lib.hid (show ∀ g n c, u = .slice (some ⟨g, 0, none⟩) n c → b = true → 0 < (partsM partM L).length → g < C0 from by
    intro g n c eu eb h0
    rcases HU.out with ⟨e1, e2, e3⟩ | ⟨e1, _⟩
    · rw [eu] at e3
      obtain ⟨g', eg, hg', _⟩ := e3.cell h0
      injection eg with eg
      injection eg with eg
      rw [hC0, eg]
      exact hg'
    · rw [e1] at eb
      exact absurd eb (by decide))
  have HU2 := Lib.hid (show (b = true ∧ (partsM partM L).length = L.length ∧ BRow w2 w0.heap.size u (partsM partM L)) ∨ (b = false ∧ (partsM partM L).length < L.length ∧ u = .slice none 0 0) from by
    rcases HU.out with ⟨e1, e2, e3⟩ | h
    · exact .inl ⟨e1, e2, e3.below bb⟩
    · exact .inr h)
  clear bb HU HA1 HZ1 HB1
  go_upto_block 0 with (fail)
  rw [← hw2, ← hC0]
  clear hw2 hC0
  rcases HU2.out with ⟨rfl, hpl, hb⟩ | ⟨rfl, hpl, rfl⟩
  rotate_left
  · clear HU2 HC
    have HS0 := Lib.hid (show coloredM k L = none from colored_short hpl)
    obtain ⟨q0, hq0⟩ : ∃ q0, q0 = setC2 which a (coloredM k L) := ⟨_, rfl⟩
    have HQ0 := Lib.hid (show AtAt w2 w.heap.size q0 by rw [hq0, HS0.out, setC2_none]; exact HA2.out)
    have HQE := Lib.hid hq0
    clear hq0
    obtain ⟨wq, hwq⟩ : ∃ wq, wq = putA w2 (w.heap.size + 1) q0 := ⟨_, rfl⟩
    have Z := Lib.hid (show AtAt wq (w.heap.size + 1) q0 by rw [hwq]; exact HZ2.out.putA q0)
    have HBQ := Lib.hid (show Below w.heap.size w wq by rw [hwq]; exact HB2.out.trans ((putA_but w2 (w.heap.size + 1) q0).below (C := w.heap.size) (by omega) HB2.out.size))
    simp only [putA, putC, Nat.zero_add, Nat.reduceAdd] at hwq
    obtain ⟨_, ⟨a1, a2, a3, a4, a5, a6, a7, a8, a9⟩, _⟩ := HQ0.out
    obtain ⟨_, ⟨z1, z2, z3, z4, z5, z6, z7, z8, z9⟩, zf⟩ := HZ2.out
    dsimp only at z1 z2 z3 z4 z5 z6 z7 z8 z9
    go_wp2
    rw [← hwq]
    clear a1 a2 a3 a4 a5 a6 a7 a8 a9 z1 z2 z3 z4 z5 z6 z7 z8 z9 zf hwq
    obtain ⟨_, ⟨k1, k2, k3, k4, k5, k6, k7, k8, k9⟩, _⟩ := Z.out
    exact bodyPost_ret (v := attV q0) (by simp [results, Tryd.results33, go_sem, k1, k2, k3, k4, k5, k6, k7, k8, k9]) rfl ⟨by rw [HQE.out], HBQ.out⟩
  obtain ⟨p, hp⟩ : ∃ p, p = partsM partM L := ⟨_, rfl⟩
  have HP := Lib.hid hp
  rw [← hp] at hpl hb
  obtain ⟨ua, uc, rfl⟩ := hb.shape
  obtain ⟨pn, hpn⟩ : ∃ n, n = p.length := ⟨_, rfl⟩
  have HPN := Lib.hid hpn
  have HPL := Lib.hid hpl
  have HBR := Lib.hid hb
  rw [← hpn] at HBR ⊢
  clear hp hpl hb hpn HU2
  by_cases h5 : k = 5
  · have e5 : (k == 5) = true := by simp [h5]
    have e2 : (k == 2) = false := by simp [h5]
    by_cases h1 : pn = 1
    · have HS := Lib.hid (show coloredM k L = some ⟨1, p.getD 0 0, 0, 0⟩ by rw [h5, HP.out]; exact colored_5 (by rw [← HP.out, ← HPN.out, h1]) (by rw [← HP.out]; exact HPL.out))
      obtain ⟨g, rfl, hg, hcell⟩ := BRow.cell HBR.out (by rw [← HPN.out]; omega)
      have p0 := hcell 0 (by rw [← HPN.out]; omega)
      obtain ⟨x0, hx0⟩ : ∃ x, x = p.getD 0 0 := ⟨_, rfl⟩
      rw [← hx0] at p0 HS
      subst h1
      clear hcell hx0 h5 HBR HPN HPL HP hg
      obtain ⟨w3, hw3⟩ : ∃ w3, w3 = putC w2 C0 0 ⟨1, x0, 0, 0⟩ := ⟨_, rfl⟩
      have HC3 := Lib.hid (show ColAt w3 C0 ⟨1, x0, 0, 0⟩ by rw [hw3]; exact HC.out.put _)
      have HA3 := Lib.hid (show AtAt w3 w.heap.size a by rw [hw3]; exact HA2.out.butO (putC_but w2 C0 0 _) (by have := HCS.out; omega))
      have HZ3 := Lib.hid (show AtAt w3 (w.heap.size + 1) At.zero by rw [hw3]; exact HZ2.out.butO (putC_but w2 C0 0 _) (by have := HCS.out; omega))
      have HB3 := Lib.hid (show Below w.heap.size w w3 by rw [hw3]; exact HB2.out.trans ((putC_but w2 C0 0 _).below (C := w.heap.size) (by have := HCS.out; omega) HB2.out.size))
      simp only [putC, Nat.zero_add] at hw3
      obtain ⟨_, ⟨c1, c2, c3, c4⟩, cf⟩ := HC.out
      try dsimp only at c1 c2 c3 c4
      go_upto_region 8 with (fail)
      rw [← hw3]
      clear hw3 c1 c2 c3 c4 cf p0 HC HA2 HZ2 HB2
      obtain ⟨cx, hcx⟩ : ∃ cx, cx = (⟨1, x0, 0, 0⟩ : Cl) := ⟨_, rfl⟩
      rw [← hcx] at HC3 HS
      clear hcx
      by_cases hw38 : which = 38
      · have HW := Lib.hid hw38
        have e38 : (which == 38) = true := by simp [hw38]
        clear hw38
        obtain ⟨wn, hwn⟩ : ∃ wn, wn = putC w3 w.heap.size 0 cx := ⟨_, rfl⟩
        have HQ := Lib.hid (show AtAt wn w.heap.size { a with fg := cx } by rw [hwn]; exact HA3.out.putFg _)
        have HZn := Lib.hid (show AtAt wn (w.heap.size + 1) At.zero by rw [hwn]; exact HZ3.out.butO (putC_but w3 w.heap.size 0 _) (by omega))
        have HBn := Lib.hid (show Below w.heap.size w wn by rw [hwn]; exact HB3.out.trans ((putC_but w3 w.heap.size 0 _).below (C := w.heap.size) (Nat.le_refl _) HB3.out.size))
        simp only [putC, Nat.zero_add] at hwn
        obtain ⟨_, ⟨y1, y2, y3, y4, y5, y6, y7, y8, y9⟩, yf⟩ := HA3.out
        obtain ⟨_, ⟨c1, c2, c3, c4⟩, _⟩ := HC3.out
        go_upto_region 11 with (fail)
        rw [← hwn]
        clear hwn y1 y2 y3 y4 y5 y6 y7 y8 y9 yf c1 c2 c3 c4
        have HS2 := Lib.hid (show setC2 which a (coloredM k L) = { a with fg := cx } by rw [HS.out]; unfold setC2; rw [if_pos HW.out]; rfl)
        obtain ⟨q0, hq0⟩ : ∃ q0, q0 = setC2 which a (coloredM k L) := ⟨_, rfl⟩
        have HQ0 := Lib.hid (show AtAt wn w.heap.size q0 by rw [hq0, HS2.out]; exact HQ.out)
        have HQE := Lib.hid hq0
        clear hq0
        obtain ⟨wq, hwq⟩ : ∃ wq, wq = putA wn (w.heap.size + 1) q0 := ⟨_, rfl⟩
        have Z := Lib.hid (show AtAt wq (w.heap.size + 1) q0 by rw [hwq]; exact HZn.out.putA q0)
        have HBQ := Lib.hid (show Below w.heap.size w wq by rw [hwq]; exact HBn.out.trans ((putA_but wn (w.heap.size + 1) q0).below (C := w.heap.size) (by omega) HBn.out.size))
        simp only [putA, putC, Nat.zero_add, Nat.reduceAdd] at hwq
        obtain ⟨_, ⟨a1, a2, a3, a4, a5, a6, a7, a8, a9⟩, _⟩ := HQ0.out
        obtain ⟨_, ⟨z1, z2, z3, z4, z5, z6, z7, z8, z9⟩, zf⟩ := HZn.out
        dsimp only at z1 z2 z3 z4 z5 z6 z7 z8 z9
        go_wp2
        rw [← hwq]
        clear a1 a2 a3 a4 a5 a6 a7 a8 a9 z1 z2 z3 z4 z5 z6 z7 z8 z9 zf hwq
        obtain ⟨_, ⟨k1, k2, k3, k4, k5, k6, k7, k8, k9⟩, _⟩ := Z.out
        exact bodyPost_ret (v := attV q0) (by simp [results, Tryd.results33, go_sem, k1, k2, k3, k4, k5, k6, k7, k8, k9]) rfl ⟨by rw [HQE.out], HBQ.out⟩
      · have HW := Lib.hid hw38
        have e38 : (which == 38) = false := by simp [hw38]
        clear hw38
        obtain ⟨wn, hwn⟩ : ∃ wn, wn = putC w3 w.heap.size 4 cx := ⟨_, rfl⟩
        have HQ := Lib.hid (show AtAt wn w.heap.size { a with bg := cx } by rw [hwn]; exact HA3.out.putBg _)
        have HZn := Lib.hid (show AtAt wn (w.heap.size + 1) At.zero by rw [hwn]; exact HZ3.out.butO (putC_but w3 w.heap.size 4 _) (by omega))
        have HBn := Lib.hid (show Below w.heap.size w wn by rw [hwn]; exact HB3.out.trans ((putC_but w3 w.heap.size 4 _).below (C := w.heap.size) (Nat.le_refl _) HB3.out.size))
        simp only [putC, Nat.reduceAdd] at hwn
        obtain ⟨_, ⟨y1, y2, y3, y4, y5, y6, y7, y8, y9⟩, yf⟩ := HA3.out
        obtain ⟨_, ⟨c1, c2, c3, c4⟩, _⟩ := HC3.out
        go_upto_region 11 with (fail)
        rw [← hwn]
        clear hwn y1 y2 y3 y4 y5 y6 y7 y8 y9 yf c1 c2 c3 c4
        have HS2 := Lib.hid (show setC2 which a (coloredM k L) = { a with bg := cx } by rw [HS.out]; unfold setC2; rw [if_neg HW.out]; rfl)
        obtain ⟨q0, hq0⟩ : ∃ q0, q0 = setC2 which a (coloredM k L) := ⟨_, rfl⟩
        have HQ0 := Lib.hid (show AtAt wn w.heap.size q0 by rw [hq0, HS2.out]; exact HQ.out)
        have HQE := Lib.hid hq0
        clear hq0
        obtain ⟨wq, hwq⟩ : ∃ wq, wq = putA wn (w.heap.size + 1) q0 := ⟨_, rfl⟩
        have Z := Lib.hid (show AtAt wq (w.heap.size + 1) q0 by rw [hwq]; exact HZn.out.putA q0)
        have HBQ := Lib.hid (show Below w.heap.size w wq by rw [hwq]; exact HBn.out.trans ((putA_but wn (w.heap.size + 1) q0).below (C := w.heap.size) (by omega) HBn.out.size))
        simp only [putA, putC, Nat.zero_add, Nat.reduceAdd] at hwq
        obtain ⟨_, ⟨a1, a2, a3, a4, a5, a6, a7, a8, a9⟩, _⟩ := HQ0.out
        obtain ⟨_, ⟨z1, z2, z3, z4, z5, z6, z7, z8, z9⟩, zf⟩ := HZn.out
        dsimp only at z1 z2 z3 z4 z5 z6 z7 z8 z9
        go_wp2
        rw [← hwq]
        clear a1 a2 a3 a4 a5 a6 a7 a8 a9 z1 z2 z3 z4 z5 z6 z7 z8 z9 zf hwq
        obtain ⟨_, ⟨k1, k2, k3, k4, k5, k6, k7, k8, k9⟩, _⟩ := Z.out
        exact bodyPost_ret (v := attV q0) (by simp [results, Tryd.results33, go_sem, k1, k2, k3, k4, k5, k6, k7, k8, k9]) rfl ⟨by rw [HQE.out], HBQ.out⟩
    · have e1 : ((pn : Int) == 1) = false := by simp; omega
      have HS0 := Lib.hid (show coloredM k L = none from by rw [h5]; exact colored_5n (by rw [← HP.out, ← HPN.out]; exact h1) (by rw [← HP.out]; exact HPL.out))
      clear h5 h1 HBR HC
      obtain ⟨q0, hq0⟩ : ∃ q0, q0 = setC2 which a (coloredM k L) := ⟨_, rfl⟩
      have HQ0 := Lib.hid (show AtAt w2 w.heap.size q0 by rw [hq0, HS0.out, setC2_none]; exact HA2.out)
      have HQE := Lib.hid hq0
      clear hq0
      obtain ⟨wq, hwq⟩ : ∃ wq, wq = putA w2 (w.heap.size + 1) q0 := ⟨_, rfl⟩
      have Z := Lib.hid (show AtAt wq (w.heap.size + 1) q0 by rw [hwq]; exact HZ2.out.putA q0)
      have HBQ := Lib.hid (show Below w.heap.size w wq by rw [hwq]; exact HB2.out.trans ((putA_but w2 (w.heap.size + 1) q0).below (C := w.heap.size) (by omega) HB2.out.size))
      simp only [putA, putC, Nat.zero_add, Nat.reduceAdd] at hwq
      obtain ⟨_, ⟨a1, a2, a3, a4, a5, a6, a7, a8, a9⟩, _⟩ := HQ0.out
      obtain ⟨_, ⟨z1, z2, z3, z4, z5, z6, z7, z8, z9⟩, zf⟩ := HZ2.out
      dsimp only at z1 z2 z3 z4 z5 z6 z7 z8 z9
      go_wp2
      rw [← hwq]
      clear a1 a2 a3 a4 a5 a6 a7 a8 a9 z1 z2 z3 z4 z5 z6 z7 z8 z9 zf hwq
      obtain ⟨_, ⟨k1, k2, k3, k4, k5, k6, k7, k8, k9⟩, _⟩ := Z.out
      exact bodyPost_ret (v := attV q0) (by simp [results, Tryd.results33, go_sem, k1, k2, k3, k4, k5, k6, k7, k8, k9]) rfl ⟨by rw [HQE.out], HBQ.out⟩
  have e5 : (k == 5) = false := by simp [h5]
  by_cases h2 : k = 2
  · have e2 : (k == 2) = true := by simp [h2]
    by_cases h3 : pn = 3
    · have HS := Lib.hid (show coloredM k L = some ⟨2, p.getD 0 0, p.getD 1 0, p.getD 2 0⟩ by rw [h2, HP.out]; exact colored_2 (by rw [← HP.out, ← HPN.out, h3]) (by rw [← HP.out]; exact HPL.out))
      obtain ⟨g, rfl, hg, hcell⟩ := BRow.cell HBR.out (by rw [← HPN.out]; omega)
      have hgC := HGC.out g _ _ rfl rfl (by rw [← HP.out, ← HPN.out]; omega)
      have p0 := hcell 0 (by rw [← HPN.out]; omega)
      have p1 := hcell 1 (by rw [← HPN.out]; omega)
      have p2 := hcell 2 (by rw [← HPN.out]; omega)
      obtain ⟨x0, hx0⟩ : ∃ x, x = p.getD 0 0 := ⟨_, rfl⟩
      obtain ⟨x1, hx1⟩ : ∃ x, x = p.getD 1 0 := ⟨_, rfl⟩
      obtain ⟨x2, hx2⟩ : ∃ x, x = p.getD 2 0 := ⟨_, rfl⟩
      rw [← hx0] at p0 HS
      rw [← hx1] at p1 HS
      rw [← hx2] at p2 HS
      simp only [Nat.zero_add] at p1 p2
      subst h3
      have HP3 := Lib.hid (show ∀ W, Below w2.heap.size w2 W → (fun w' => w'.cell? ⟨g, 0, none⟩ = some (.int .u8 x0) ∧ w'.cell? ⟨g, 1, none⟩ = some (.int .u8 x1) ∧ w'.cell? ⟨g, 2, none⟩ = some (.int .u8 x2)) W from fun W hb => ⟨(hb.cell (p := ⟨g, 0, none⟩) hg).trans p0, (hb.cell (p := ⟨g, 1, none⟩) hg).trans p1, (hb.cell (p := ⟨g, 2, none⟩) hg).trans p2⟩)
      dsimp only at HP3
      clear hcell hx0 hx1 hx2 h2 h5 HBR HPN HPL HP p0 p1 p2 HGC
      go_upto_region 7 with (fail)
      refine wp_region_held_drew (S := fun w' => w'.cell? ⟨g, 0, none⟩ = some (.int .u8 x0) ∧ w'.cell? ⟨g, 1, none⟩ = some (.int .u8 x1) ∧ w'.cell? ⟨g, 2, none⟩ = some (.int .u8 x2)) (by kernel_rfl) ?_ (fun hHeld => ?_)
      · exact HP3.out _ ⟨rfl, rfl, rfl, Nat.le_refl _, fun _ _ => rfl⟩
      obtain ⟨u0, hu0⟩ : ∃ u0, u0 = w2.drew := ⟨_, rfl⟩
      have bd : Below w2.heap.size w2 u0 := by rw [hu0]; exact ⟨rfl, rfl, rfl, Nat.le_refl _, fun _ _ => rfl⟩
      replace hHeld := HP3.out _ bd
      rw [← hu0]
      replace HA2 := Lib.hid (HA2.out.below bd)
      replace HZ2 := Lib.hid (HZ2.out.below bd)
      replace HB2 := Lib.hid (HB2.out.trans (bd.mono HB2.out.size))
      replace HC := Lib.hid (HC.out.below bd)
      have hgu : g < u0.heap.size := by have := bd.size; omega
      clear bd hu0
      obtain ⟨w3, hw3⟩ : ∃ w3, w3 = putC u0 C0 0 ⟨2, x0, x1, x2⟩ := ⟨_, rfl⟩
      have HC3 := Lib.hid (show ColAt w3 C0 ⟨2, x0, x1, x2⟩ by rw [hw3]; exact HC.out.put _)
      have HA3 := Lib.hid (show AtAt w3 w.heap.size a by rw [hw3]; exact HA2.out.butO (putC_but u0 C0 0 _) (by have := HCS.out; omega))
      have HZ3 := Lib.hid (show AtAt w3 (w.heap.size + 1) At.zero by rw [hw3]; exact HZ2.out.butO (putC_but u0 C0 0 _) (by have := HCS.out; omega))
      have HB3 := Lib.hid (show Below w.heap.size w w3 by rw [hw3]; exact HB2.out.trans ((putC_but u0 C0 0 _).below (C := w.heap.size) (by have := HCS.out; omega) HB2.out.size))
      have HK3 := Lib.hid (show (fun w' => w'.cell? ⟨g, 0, none⟩ = some (.int .u8 x0) ∧ w'.cell? ⟨g, 1, none⟩ = some (.int .u8 x1) ∧ w'.cell? ⟨g, 2, none⟩ = some (.int .u8 x2)) w3 by
        have hblk : w3.heap[g]? = u0.heap[g]? := by rw [hw3]; exact (putC_but u0 C0 0 _).block g hgu (by simp; omega)
        exact ⟨(World.cell?_of_block (a := ⟨g, 0, none⟩) hblk).trans hHeld.1, (World.cell?_of_block (a := ⟨g, 1, none⟩) hblk).trans hHeld.2.1, (World.cell?_of_block (a := ⟨g, 2, none⟩) hblk).trans hHeld.2.2⟩)
      dsimp only at HK3
      simp only [putC, Nat.zero_add] at hw3
      refine take_at (i := 0) (v := ?_) rfl (by kernel_rfl) (by kernel_rfl) (by kernel_rfl) (fun _ _ _ h => h) (by kernel_rfl) (by assumption) ?_ ?_
      rotate_left
      · (intro w hSw; (try dsimp only at hSw); go_simp; try with_reducible rfl)
      simp only [Act.put, List.setIfInBounds_toArray, List.set_cons_zero, List.set_cons_succ]
      refine take_at (i := 1) (v := ?_) rfl (by kernel_rfl) (by kernel_rfl) (by kernel_rfl) (fun _ _ _ h => h) (by kernel_rfl) (by assumption) ?_ ?_
      rotate_left
      · (intro w hSw; (try dsimp only at hSw); go_simp; try with_reducible rfl)
      simp only [Act.put, List.setIfInBounds_toArray, List.set_cons_zero, List.set_cons_succ]
      refine take_at (i := 2) (v := ?_) rfl (by kernel_rfl) (by kernel_rfl) (by kernel_rfl) (fun _ _ _ h => h) (by kernel_rfl) (by assumption) ?_ ?_
      rotate_left
      · (intro w hSw; (try dsimp only at hSw); go_simp; try with_reducible rfl)
      simp only [Act.put, List.setIfInBounds_toArray, List.set_cons_zero, List.set_cons_succ]
      refine take_at (i := 3) (v := ?_) rfl (by kernel_rfl) (by kernel_rfl) (by kernel_rfl) (fun _ _ _ h => h) (by kernel_rfl) (by assumption) ?_ ?_
      rotate_left
      · (intro w hSw; (try dsimp only at hSw); go_simp; try with_reducible rfl)
      simp only [Act.put, List.setIfInBounds_toArray, List.set_cons_zero, List.set_cons_succ]
      refine take_at (i := 4) (v := ?_) rfl (by kernel_rfl) (by kernel_rfl) (by kernel_rfl) (fun _ _ _ h => h) (by kernel_rfl) (by assumption) ?_ ?_
      rotate_left
      · (intro w hSw; (try dsimp only at hSw); go_simp; try with_reducible rfl)
      simp only [Act.put, List.setIfInBounds_toArray, List.set_cons_zero, List.set_cons_succ]
      refine take_at (i := 5) (v := ?_) rfl (by kernel_rfl) (by kernel_rfl) (by kernel_rfl) (fun _ _ _ h => h) (by kernel_rfl) (by assumption) ?_ ?_
      rotate_left
      · (intro w hSw; (try dsimp only at hSw); go_simp; try with_reducible rfl)
      simp only [Act.put, List.setIfInBounds_toArray, List.set_cons_zero, List.set_cons_succ]
      refine take_at (i := 6) (v := ?_) rfl (by kernel_rfl) (by kernel_rfl) (by kernel_rfl) (fun _ _ _ h => h) (by kernel_rfl) (by assumption) ?_ ?_
      rotate_left
      · (intro w hSw; (try dsimp only at hSw); go_simp; try with_reducible rfl)
      simp only [Act.put, List.setIfInBounds_toArray, List.set_cons_zero, List.set_cons_succ]
      refine take_at (i := 7) (v := ?_) rfl (by kernel_rfl) (by kernel_rfl) (by kernel_rfl) (fun _ _ _ h => h) (by kernel_rfl) (by assumption) ?_ ?_
      rotate_left
      · (intro w hSw; (try dsimp only at hSw); go_simp; try with_reducible rfl)
      simp only [Act.put, List.setIfInBounds_toArray, List.set_cons_zero, List.set_cons_succ]
      refine take_at (i := 8) (v := ?_) rfl (by kernel_rfl) (by kernel_rfl) (by kernel_rfl) (fun _ _ _ h => h) (by kernel_rfl) (by assumption) ?_ ?_
      rotate_left
      · (intro w hSw; (try dsimp only at hSw); go_simp; try with_reducible rfl)
      simp only [Act.put, List.setIfInBounds_toArray, List.set_cons_zero, List.set_cons_succ]
      refine take_at (i := 9) (v := ?_) rfl (by kernel_rfl) (by kernel_rfl) (by kernel_rfl) (fun _ _ _ h => h) (by kernel_rfl) (by assumption) ?_ ?_
      rotate_left
      · (intro w hSw; (try dsimp only at hSw); go_simp; try with_reducible rfl)
      simp only [Act.put, List.setIfInBounds_toArray, List.set_cons_zero, List.set_cons_succ]
      refine do_at (i := 10) rfl (by kernel_rfl) (by kernel_rfl) (fun K hK => ?_)
      obtain ⟨_, ⟨c1, c2, c3, c4⟩, cf⟩ := HC.out
      try dsimp only at c1 c2 c3 c4
      go_wp2_with fail
      rw [← hw3]
      clear c1 c2 c3 c4 cf
      refine hK.out _ _ ?_ (fun hHeld => ?_)
      · exact HK3.out
      clear hK K
      try simp only [Act.put, List.setIfInBounds_toArray, List.set_cons_zero, List.set_cons_succ]
      refine wpAnyH_done (by kernel_rfl) ?_ _
      clear hw3 HC HA2 HZ2 HB2 HP3 HK3 hHeld hgu hgC hg
      obtain ⟨cx, hcx⟩ : ∃ cx, cx = (⟨2, x0, x1, x2⟩ : Cl) := ⟨_, rfl⟩
      rw [← hcx] at HC3 HS
      clear hcx
      go_upto_region 8 with (fail)
      by_cases hw38 : which = 38
      · have HW := Lib.hid hw38
        have e38 : (which == 38) = true := by simp [hw38]
        clear hw38
        obtain ⟨wn, hwn⟩ : ∃ wn, wn = putC w3 w.heap.size 0 cx := ⟨_, rfl⟩
        have HQ := Lib.hid (show AtAt wn w.heap.size { a with fg := cx } by rw [hwn]; exact HA3.out.putFg _)
        have HZn := Lib.hid (show AtAt wn (w.heap.size + 1) At.zero by rw [hwn]; exact HZ3.out.butO (putC_but w3 w.heap.size 0 _) (by omega))
        have HBn := Lib.hid (show Below w.heap.size w wn by rw [hwn]; exact HB3.out.trans ((putC_but w3 w.heap.size 0 _).below (C := w.heap.size) (Nat.le_refl _) HB3.out.size))
        simp only [putC, Nat.zero_add] at hwn
        obtain ⟨_, ⟨y1, y2, y3, y4, y5, y6, y7, y8, y9⟩, yf⟩ := HA3.out
        obtain ⟨_, ⟨c1, c2, c3, c4⟩, _⟩ := HC3.out
        go_upto_region 11 with (fail)
        rw [← hwn]
        clear hwn y1 y2 y3 y4 y5 y6 y7 y8 y9 yf c1 c2 c3 c4
        have HS2 := Lib.hid (show setC2 which a (coloredM k L) = { a with fg := cx } by rw [HS.out]; unfold setC2; rw [if_pos HW.out]; rfl)
        obtain ⟨q0, hq0⟩ : ∃ q0, q0 = setC2 which a (coloredM k L) := ⟨_, rfl⟩
        have HQ0 := Lib.hid (show AtAt wn w.heap.size q0 by rw [hq0, HS2.out]; exact HQ.out)
        have HQE := Lib.hid hq0
        clear hq0
        obtain ⟨wq, hwq⟩ : ∃ wq, wq = putA wn (w.heap.size + 1) q0 := ⟨_, rfl⟩
        have Z := Lib.hid (show AtAt wq (w.heap.size + 1) q0 by rw [hwq]; exact HZn.out.putA q0)
        have HBQ := Lib.hid (show Below w.heap.size w wq by rw [hwq]; exact HBn.out.trans ((putA_but wn (w.heap.size + 1) q0).below (C := w.heap.size) (by omega) HBn.out.size))
        simp only [putA, putC, Nat.zero_add, Nat.reduceAdd] at hwq
        obtain ⟨_, ⟨a1, a2, a3, a4, a5, a6, a7, a8, a9⟩, _⟩ := HQ0.out
        obtain ⟨_, ⟨z1, z2, z3, z4, z5, z6, z7, z8, z9⟩, zf⟩ := HZn.out
        dsimp only at z1 z2 z3 z4 z5 z6 z7 z8 z9
        go_wp2
        rw [← hwq]
        clear a1 a2 a3 a4 a5 a6 a7 a8 a9 z1 z2 z3 z4 z5 z6 z7 z8 z9 zf hwq
        obtain ⟨_, ⟨k1, k2, k3, k4, k5, k6, k7, k8, k9⟩, _⟩ := Z.out
        exact bodyPost_ret (v := attV q0) (by simp [results, Tryd.results33, go_sem, k1, k2, k3, k4, k5, k6, k7, k8, k9]) rfl ⟨by rw [HQE.out], HBQ.out⟩
      · have HW := Lib.hid hw38
        have e38 : (which == 38) = false := by simp [hw38]
        clear hw38
        obtain ⟨wn, hwn⟩ : ∃ wn, wn = putC w3 w.heap.size 4 cx := ⟨_, rfl⟩
        have HQ := Lib.hid (show AtAt wn w.heap.size { a with bg := cx } by rw [hwn]; exact HA3.out.putBg _)
        have HZn := Lib.hid (show AtAt wn (w.heap.size + 1) At.zero by rw [hwn]; exact HZ3.out.butO (putC_but w3 w.heap.size 4 _) (by omega))
        have HBn := Lib.hid (show Below w.heap.size w wn by rw [hwn]; exact HB3.out.trans ((putC_but w3 w.heap.size 4 _).below (C := w.heap.size) (Nat.le_refl _) HB3.out.size))
        simp only [putC, Nat.reduceAdd] at hwn
        obtain ⟨_, ⟨y1, y2, y3, y4, y5, y6, y7, y8, y9⟩, yf⟩ := HA3.out
        obtain ⟨_, ⟨c1, c2, c3, c4⟩, _⟩ := HC3.out
        go_upto_region 11 with (fail)
        rw [← hwn]
        clear hwn y1 y2 y3 y4 y5 y6 y7 y8 y9 yf c1 c2 c3 c4
        have HS2 := Lib.hid (show setC2 which a (coloredM k L) = { a with bg := cx } by rw [HS.out]; unfold setC2; rw [if_neg HW.out]; rfl)
        obtain ⟨q0, hq0⟩ : ∃ q0, q0 = setC2 which a (coloredM k L) := ⟨_, rfl⟩
        have HQ0 := Lib.hid (show AtAt wn w.heap.size q0 by rw [hq0, HS2.out]; exact HQ.out)
        have HQE := Lib.hid hq0
        clear hq0
        obtain ⟨wq, hwq⟩ : ∃ wq, wq = putA wn (w.heap.size + 1) q0 := ⟨_, rfl⟩
        have Z := Lib.hid (show AtAt wq (w.heap.size + 1) q0 by rw [hwq]; exact HZn.out.putA q0)
        have HBQ := Lib.hid (show Below w.heap.size w wq by rw [hwq]; exact HBn.out.trans ((putA_but wn (w.heap.size + 1) q0).below (C := w.heap.size) (by omega) HBn.out.size))
        simp only [putA, putC, Nat.zero_add, Nat.reduceAdd] at hwq
        obtain ⟨_, ⟨a1, a2, a3, a4, a5, a6, a7, a8, a9⟩, _⟩ := HQ0.out
        obtain ⟨_, ⟨z1, z2, z3, z4, z5, z6, z7, z8, z9⟩, zf⟩ := HZn.out
        dsimp only at z1 z2 z3 z4 z5 z6 z7 z8 z9
        go_wp2
        rw [← hwq]
        clear a1 a2 a3 a4 a5 a6 a7 a8 a9 z1 z2 z3 z4 z5 z6 z7 z8 z9 zf hwq
        obtain ⟨_, ⟨k1, k2, k3, k4, k5, k6, k7, k8, k9⟩, _⟩ := Z.out
        exact bodyPost_ret (v := attV q0) (by simp [results, Tryd.results33, go_sem, k1, k2, k3, k4, k5, k6, k7, k8, k9]) rfl ⟨by rw [HQE.out], HBQ.out⟩
    · have e1 : ((pn : Int) == 3) = false := by simp; omega
      have HS0 := Lib.hid (show coloredM k L = none from by rw [h2]; exact colored_2n (by rw [← HP.out, ← HPN.out]; exact h3) (by rw [← HP.out]; exact HPL.out))
      clear h2 h3 HBR HC
      obtain ⟨q0, hq0⟩ : ∃ q0, q0 = setC2 which a (coloredM k L) := ⟨_, rfl⟩
      have HQ0 := Lib.hid (show AtAt w2 w.heap.size q0 by rw [hq0, HS0.out, setC2_none]; exact HA2.out)
      have HQE := Lib.hid hq0
      clear hq0
      obtain ⟨wq, hwq⟩ : ∃ wq, wq = putA w2 (w.heap.size + 1) q0 := ⟨_, rfl⟩
      have Z := Lib.hid (show AtAt wq (w.heap.size + 1) q0 by rw [hwq]; exact HZ2.out.putA q0)
      have HBQ := Lib.hid (show Below w.heap.size w wq by rw [hwq]; exact HB2.out.trans ((putA_but w2 (w.heap.size + 1) q0).below (C := w.heap.size) (by omega) HB2.out.size))
      simp only [putA, putC, Nat.zero_add, Nat.reduceAdd] at hwq
      obtain ⟨_, ⟨a1, a2, a3, a4, a5, a6, a7, a8, a9⟩, _⟩ := HQ0.out
      obtain ⟨_, ⟨z1, z2, z3, z4, z5, z6, z7, z8, z9⟩, zf⟩ := HZ2.out
      dsimp only at z1 z2 z3 z4 z5 z6 z7 z8 z9
      go_wp2
      rw [← hwq]
      clear a1 a2 a3 a4 a5 a6 a7 a8 a9 z1 z2 z3 z4 z5 z6 z7 z8 z9 zf hwq
      obtain ⟨_, ⟨k1, k2, k3, k4, k5, k6, k7, k8, k9⟩, _⟩ := Z.out
      exact bodyPost_ret (v := attV q0) (by simp [results, Tryd.results33, go_sem, k1, k2, k3, k4, k5, k6, k7, k8, k9]) rfl ⟨by rw [HQE.out], HBQ.out⟩
  have e2 : (k == 2) = false := by simp [h2]
  have HS0 := Lib.hid (show coloredM k L = none from colored_no h5 h2)
  clear h5 h2 HBR HC
  obtain ⟨q0, hq0⟩ : ∃ q0, q0 = setC2 which a (coloredM k L) := ⟨_, rfl⟩
  have HQ0 := Lib.hid (show AtAt w2 w.heap.size q0 by rw [hq0, HS0.out, setC2_none]; exact HA2.out)
  have HQE := Lib.hid hq0
  clear hq0
  obtain ⟨wq, hwq⟩ : ∃ wq, wq = putA w2 (w.heap.size + 1) q0 := ⟨_, rfl⟩
  have Z := Lib.hid (show AtAt wq (w.heap.size + 1) q0 by rw [hwq]; exact HZ2.out.putA q0)
  have HBQ := Lib.hid (show Below w.heap.size w wq by rw [hwq]; exact HB2.out.trans ((putA_but w2 (w.heap.size + 1) q0).below (C := w.heap.size) (by omega) HB2.out.size))
  simp only [putA, putC, Nat.zero_add, Nat.reduceAdd] at hwq
  obtain ⟨_, ⟨a1, a2, a3, a4, a5, a6, a7, a8, a9⟩, _⟩ := HQ0.out
  obtain ⟨_, ⟨z1, z2, z3, z4, z5, z6, z7, z8, z9⟩, zf⟩ := HZ2.out
  dsimp only at z1 z2 z3 z4 z5 z6 z7 z8 z9
  go_wp2
  rw [← hwq]
  clear a1 a2 a3 a4 a5 a6 a7 a8 a9 z1 z2 z3 z4 z5 z6 z7 z8 z9 zf hwq
  obtain ⟨_, ⟨k1, k2, k3, k4, k5, k6, k7, k8, k9⟩, _⟩ := Z.out
  exact bodyPost_ret (v := attV q0) (by simp [results, Tryd.results33, go_sem, k1, k2, k3, k4, k5, k6, k7, k8, k9]) rfl ⟨by rw [HQE.out], HBQ.out⟩
end Go.Proofs.YtlmhnebgkginkaaDoor.Lab
