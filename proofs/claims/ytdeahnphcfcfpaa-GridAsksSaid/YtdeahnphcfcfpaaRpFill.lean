/- The project's Break and joined. The project's fill and New. -/
import Derived.Test.YtdeahnphcfcfpaaRpBrk
import Derived.Test.YtdeahnphcfcfpaaRpSmall
namespace Go.Proofs.Ytdeahnphcfcfpaa.Lab
open Go Go.RowKit

/-- Boundaries, as they come in. -/
def PsAt (w : World) (v : Value) (L : List Int) : Prop := ∃ s o c, v = .slice (some ⟨s, o, none⟩) L.length c ∧ L.length ≤ 10 ∧ s < w.heap.size ∧ (∀ j, j < L.length → w.cell? ⟨s, o + j, none⟩ = some (.int .i64 (L.getD j 0))) ∧ ∀ j, j < L.length → -100000 < L.getD j 0 ∧ L.getD j 0 < 100000
theorem PsAt.below {w w' : World} {v : Value} {L : List Int} (h : PsAt w v L) (k : Below w.heap.size w w') : PsAt w' v L := by
  obtain ⟨s, o, c, e, hl, hlt, hc, hb⟩ := h
  exact ⟨s, o, c, e, hl, Nat.lt_of_lt_of_le hlt k.size, fun j hj => (World.cell?_of_block (a := ⟨s, o + j, none⟩) (k.block s hlt)).trans (hc j hj), hb⟩
theorem PsAt.apart {w w' : World} {g : Nat} {v : Value} {L : List Int} (h : PsAt w v L) (k : Below w.heap.size w w') (hg : w.heap.size ≤ g) : PsIn w' g v L := by
  obtain ⟨s, o, c, e, hl, hlt, hc, hb⟩ := h
  exact ⟨s, o, c, e, hl, by omega, Nat.lt_of_lt_of_le hlt k.size, fun j hj => (World.cell?_of_block (a := ⟨s, o + j, none⟩) (k.block s hlt)).trans (hc j hj), hb⟩
theorem PsAt.shape {w : World} {v : Value} {L : List Int} (h : PsAt w v L) : ∃ a c, v = .slice a L.length c := by
  obtain ⟨s, o, c, e, _⟩ := h
  exact ⟨_, c, e⟩
set_option maxHeartbeats 4000000 in
theorem break_any (w : World) (v : Value) (R : Cls) (u : Value) (L : List Int) (h : RowIn w v R) (hw : Wh R) (hl : R.length ≤ 10000) (hu : PsAt w u L) : Calls Try.prog 87 #[v, u] w (NewRow w (L.foldl breakM R)) := by
  obtain ⟨a, c, rfl⟩ := h.shape
  have HC := Lib.hid (anew_any w _ R h hl)
  have HU := Lib.hid hu
  obtain ⟨ua, uc, rfl⟩ := hu.shape
  have HW := Lib.hid hw
  obtain ⟨n, hn⟩ : ∃ n, n = R.length := ⟨_, rfl⟩
  obtain ⟨m, hm⟩ : ∃ m, m = L.length := ⟨_, rfl⟩
  have HN := Lib.hid hn
  have HLN := Lib.hid (show (L.foldl breakM R).length = n by rw [len_breaks]; exact hn.symm)
  rw [← hn] at hl HC
  rw [← hn, ← hm]
  rw [← hm] at HU
  clear h hw hn hu hm
  go_enter Try.func87, Try.ntmps87
  go_wp2_with fail
  refine HC.out.mono ?_
  rintro e w1 ⟨g, c1, rfl, hc1, own1, hg1, hg2, b1⟩
  rw [← HN.out] at own1 hc1 ⊢
  have HO := Lib.hid own1
  have HB := Lib.hid b1
  have HG := Lib.hid hg1
  have HPS := Lib.hid (HU.out.apart b1 hg1)
  have HC1 := Lib.hid hc1
  have HBT := Lib.hid (cuts_any w1 _ g n c1 R _ L HO.out HN.out hl HW.out HPS.out)
  clear own1 b1 hg1 hg2 hc1 HC HU
  go_wp2_with fail
  refine HBT.out.mono ?_
  rintro e w2 ⟨rfl, own2, but2⟩
  have HO2 := Lib.hid own2
  have HB2 := Lib.hid (HB.out.trans (but2.below HG.out HB.out.size))
  have HG2 := Lib.hid (show g < w2.heap.size from (own2.lt g rfl).2)
  clear own2 but2 HO HB HPS HBT
  go_wp2
  go_ret
  exact ⟨g, c1, by rw [HLN.out]; rfl, by rw [HLN.out]; exact HC1.out, by rw [HLN.out]; exact HO2.out, HG.out, HG2.out, HB2.out⟩

/-- Pieces of rows. -/
def RsAt (w : World) (u : Value) (Ps : List Cls) : Prop := ∃ s o c, u = .slice (some ⟨s, o, none⟩) Ps.length c ∧ Ps.length ≤ 5 ∧ s < w.heap.size ∧ ∀ j, j < Ps.length → ∃ v, w.cell? ⟨s, o + j, none⟩ = some v ∧ RowIn w v (Ps.getD j [])
theorem RsAt.below {w w' : World} {u : Value} {Ps : List Cls} (h : RsAt w u Ps) (k : Below w.heap.size w w') : RsAt w' u Ps := by
  obtain ⟨s, o, c, e, hl, hlt, hc⟩ := h
  refine ⟨s, o, c, e, hl, Nat.lt_of_lt_of_le hlt k.size, fun j hj => ?_⟩
  obtain ⟨v, h1, h2⟩ := hc j hj
  exact ⟨v, (World.cell?_of_block (a := ⟨s, o + j, none⟩) (k.block s hlt)).trans h1, h2.below k⟩
theorem flatten_take (Ps : List Cls) (k : Nat) (hk : k < Ps.length) : (Ps.take (k + 1)).flatten = (Ps.take k).flatten ++ Ps.getD k [] := by
  rw [List.take_succ_eq_append_getElem hk, List.flatten_append, List.getD_eq_getElem?_getD, List.getElem?_eq_getElem hk]
  simp
theorem flatten_le (Ps : List Cls) (k : Nat) (M : Nat) (h : ∀ j, j < Ps.length → (Ps.getD j []).length ≤ M) (hk : k ≤ Ps.length) : (Ps.take k).flatten.length ≤ k * M := by
  induction k with
  | zero => simp
  | succ k ih =>
    rw [flatten_take Ps k hk, List.length_append, Nat.add_mul]
    have := ih (by omega)
    have := h k hk
    omega
set_option maxHeartbeats 4000000 in
theorem joined_any (W : World) (u : Value) (Ps : List Cls) (h : RsAt W u Ps) (hl : ∀ j, j < Ps.length → (Ps.getD j []).length ≤ 10000) : Calls Try.prog 90 #[u] W fun e w' => ∃ v, e = .returned v ∧ CRow w' W.heap.size v Ps.flatten ∧ Below W.heap.size W w' := by
  have HU := Lib.hid h
  obtain ⟨s, o, cu, rfl, h5, hs, hcell⟩ := h
  obtain ⟨m, hm⟩ : ∃ m, m = Ps.length := ⟨_, rfl⟩
  have HM := Lib.hid hm
  have HL := Lib.hid hl
  have H5 := Lib.hid h5
  have HO0 := Lib.hid (show CRow W W.heap.size (.slice none 0 0) (Ps.take 0).flatten from CRow.nil _ _)
  have HB0 := Lib.hid (Below.refl W.heap.size W)
  have hm5 : m ≤ 5 := by omega
  rw [← hm] at HU ⊢
  clear h5 hs hcell hm hl
  go_enter Try.func90, Try.ntmps90
  go_wp2
  go_loopg [3, 8] m (fun G v i wr => ∃ k : Nat, i = .int .i64 k ∧ k ≤ m ∧ m - k ≤ G ∧ Hid (CRow wr W.heap.size v (Ps.take k).flatten) ∧ Hid (Below W.heap.size W wr))
  case atStart => exact ⟨0, rfl, Nat.zero_le _, Nat.sub_le _ _, HO0, HB0⟩
  case round =>
    obtain ⟨k, rfl, hkm, hgk, HR, HB⟩ := hrel
    clear HO0 HB0
    by_cases hlt : k < m
    · obtain ⟨s2, o2, c2, e, _, hs1, hcell⟩ := HU.out.below HB.out
      injection e with e1 e2 e3
      injection e1 with e1
      injection e1 with e1 e4
      subst e1 e4 e3
      obtain ⟨x, hx, hr⟩ := hcell k (by rw [← HM.out]; exact hlt)
      obtain ⟨P, hP⟩ : ∃ P, P = Ps.getD k [] := ⟨_, rfl⟩
      rw [← hP] at hr
      have HP := Lib.hid hr
      have HF := Lib.hid (show (Ps.take (k + 1)).flatten = (Ps.take k).flatten ++ P by rw [hP]; exact flatten_take Ps k (by rw [← HM.out]; exact hlt))
      obtain ⟨A, hA⟩ : ∃ A, A = (Ps.take k).flatten := ⟨_, rfl⟩
      have hlen : A.length + P.length ≤ 100000 := by
        have h1 := flatten_le Ps k 10000 HL.out (by rw [← HM.out]; omega)
        have h2 := HL.out k (by rw [← HM.out]; exact hlt)
        rw [← hA] at h1
        rw [← hP] at h2
        have := H5.out
        have : k * 10000 ≤ 5 * 10000 := Nat.mul_le_mul_right 10000 (by omega)
        omega
      rw [← hA] at HR HF
      clear hP hr hcell hs1 e2 hA
      go_wp2_with (at_builtin; refine wpList_append_cells rfl (.tmp 12) (.tmp 13) rfl W.heap.size u3 A rfl HR.out x P rfl HP.out hlen HB.out.size ?_)
      intro v' w2 own2 hnil grow2
      have hlt2 : ∀ j, u3.ownBlock = some j → W.heap.size ≤ j := fun j hj => (HR.out.lt j hj).1
      have HR2 := Lib.hid (show CRow w2 W.heap.size v' (Ps.take (k + 1)).flatten by rw [HF.out]; exact own2)
      have HB2 := Lib.hid (HB.out.grown grow2 HB.out.size hlt2)
      clear own2 hnil grow2 hlt2 HR HB HP hx hlen
      go_wp2
      go_roundg (m - (k + 1))
      case rel => exact ⟨k + 1, by go_num, by omega, Nat.le_refl _, HR2, HB2⟩
      case measure => omega
    · obtain rfl : k = m := by omega
      have HE := Lib.hid (show CRow wr W.heap.size u3 Ps.flatten by have := HR.out; rw [HM.out, List.take_length] at this; exact this)
      clear HR
      go_wp2
      go_ret
      exact ⟨_, rfl, HE.out, HB.out⟩

theorem place_rep {R : Cls} {p k : Nat} {b : Cel} (h : p + (k + 1) ≤ R.length) : (place R p (List.replicate k b)).set (p + k) b = place R p (List.replicate (k + 1) b) := by
  have l1 : p + (List.replicate k b).length ≤ R.length := by rw [List.length_replicate]; omega
  have l2 : p + (List.replicate (k + 1) b).length ≤ R.length := by rw [List.length_replicate]; omega
  refine ext_gc (by rw [List.length_set, len_place l1, len_place l2]) fun i hi => ?_
  rw [List.length_set, len_place l1] at hi
  rw [gc_set (by rw [len_place l1]; exact hi), gc_place l1, gc_place l2, List.length_replicate, List.length_replicate]
  by_cases e : i = p + k
  · rw [if_pos e, if_pos (by omega), gc_rep (by omega)]
  · rw [if_neg e]
    by_cases e2 : p ≤ i ∧ i < p + k
    · rw [if_pos e2, if_pos (by omega), gc_rep (by omega), gc_rep (by omega)]
    · rw [if_neg e2, if_neg (by omega)]
set_option maxHeartbeats 4000000 in
set_option maxRecDepth 100000 in
theorem fill_any (W : World) (lo g n c : Nat) (R : Cls) (b : Cel) (p m cm : Nat) (ad : Option Addr) (H : CRow W lo (.slice (some ⟨g, 0, none⟩) n c) R) (hn : n = R.length) (hl : n ≤ 10000) (hp : p + m ≤ n) (hA : 0 < m → ad = some ⟨g, p * 14, none⟩) :
    Calls Try.prog 61 #[.slice ad m cm, celV b] W fun e w' => e = .returned (.tuple #[]) ∧ CRow w' lo (.slice (some ⟨g, 0, none⟩) n c) (place R p (List.replicate m b)) ∧ But g W w' := by
  have hg : g < W.heap.size := (H.lt g rfl).2
  obtain ⟨z, hz⟩ : ∃ z, z = W.heap.size := ⟨_, rfl⟩
  have hzg : z ≠ g := by omega
  have hgz : g ≠ z := by omega
  obtain ⟨w0, hw0⟩ : ∃ w0, w0 = W.alloc (.cells #[.int .i32 b.ru, .int .i32 b.m0, .int .i32 b.m1, .int .u8 b.k, .int .u8 b.a.fg.k, .int .u8 b.a.fg.r, .int .u8 b.a.fg.g, .int .u8 b.a.fg.b, .int .u8 b.a.bg.k, .int .u8 b.a.bg.r, .int .u8 b.a.bg.g, .int .u8 b.a.bg.b, .int .u16 (b.a.fl : Nat), .int .u8 b.l] 42) := ⟨_, rfl⟩
  have b0 : Below W.heap.size W w0 := by rw [hw0]; exact (Below.refl _ _).alloc (Nat.le_refl _) _
  have HA0 := Lib.hid (show BAt w0 z b by rw [hw0, hz]; exact BAt.newAt W _ rfl b _)
  have HO0 := Lib.hid (show CRow w0 lo (.slice (some ⟨g, 0, none⟩) n c) (place R p (List.replicate 0 b)) by rw [List.replicate_zero, place_nil]; exact H.below b0)
  have HB0 := Lib.hid (But.of (B := g) b0)
  have HA := Lib.hid hA
  have HN := Lib.hid hn
  obtain ⟨o, ho⟩ : ∃ o, o = p * 14 := ⟨_, rfl⟩
  have HO := Lib.hid ho
  rw [← ho] at HA
  clear b0 H hA hn hg ho
  go_enter Try.func61, Try.ntmps61
  go_upto_region 1 with (fail)
  rw [← hw0, ← hz]
  clear hw0 hz
  go_wp2
  go_loopg [7] m (fun G i wr => ∃ k : Nat, i = .int .i64 k ∧ k ≤ m ∧ m - k ≤ G ∧ Hid (CRow wr lo (.slice (some ⟨g, 0, none⟩) n c) (place R p (List.replicate k b))) ∧ Hid (BAt wr z b) ∧ Hid (But g W wr))
  case atStart => exact ⟨0, rfl, Nat.zero_le _, Nat.sub_le _ _, HO0, HA0, HB0⟩
  case round =>
    obtain ⟨k, rfl, hkm, hgk, HR, HZ, HB⟩ := hrel
    clear HO0 HA0 HB0
    by_cases hlt : k < m
    · obtain rfl := HA.out (by omega)
      have HL := Lib.hid (show (place R p (List.replicate k b)).length = R.length from len_place (by rw [List.length_replicate]; have := HN.out; omega))
      have hlen : p + k < (place R p (List.replicate k b)).length := by rw [HL.out, ← HN.out]; omega
      have hoff : (p + k) * 14 = o + k * 14 := by have := HO.out; omega
      obtain ⟨w1, hw1⟩ : ∃ w1, w1 = put14 wr g (o + k * 14) b := ⟨_, rfl⟩
      have HR1 := Lib.hid (show CRow w1 lo (.slice (some ⟨g, 0, none⟩) n c) (place R p (List.replicate (k + 1) b)) by
        rw [hw1, ← hoff, ← place_rep (by have := HN.out; omega)]
        exact HR.out.put (by rw [HL.out]; exact HN.out) hlen b)
      have bt := put14_but wr g (o + k * 14) b
      have HZ1 := Lib.hid (show BAt w1 z b by rw [hw1]; exact HZ.out.but bt hzg)
      have HB1 := Lib.hid (show But g W w1 by rw [hw1]; exact HB.out.trans bt)
      have HF := fun j => HR.out.frozen (by rw [HL.out]; exact HN.out) j
      have hat := HR.out.at hlen
      rw [hoff] at hat
      obtain ⟨b0, b1, b2, b3, b4, b5, b6, b7, b8, b9, b10, b11, b12, b13⟩ := hat
      obtain ⟨_, ⟨y0, y1, y2, y3, y4, y5, y6, y7, y8, y9, y10, y11, y12, y13⟩, _⟩ := HZ.out
      simp only [put14] at hw1
      clear bt hlen hoff
      go_upto_region 5 with (fail)
      rw [← hw1]
      clear hw1 HF b0 b1 b2 b3 b4 b5 b6 b7 b8 b9 b10 b11 b12 b13 y0 y1 y2 y3 y4 y5 y6 y7 y8 y9 y10 y11 y12 y13 HR HZ HB HL
      go_wp2
      go_roundg (m - (k + 1))
      case rel => exact ⟨k + 1, by go_num, by omega, Nat.le_refl _, HR1, HZ1, HB1⟩
      case measure => omega
    · obtain rfl : k = m := by omega
      go_wp2
      go_end0
      exact ⟨rfl, HR.out, HB.out⟩
set_option maxHeartbeats 4000000 in
theorem new_any (w : World) (cols : Int) (b : Cel) (hc : cols ≤ 10000) (hc0 : -100000 ≤ cols) : Calls Try.prog 30 #[.int .i64 cols, celV b] w fun e w' => ∃ v, e = .returned v ∧ CRow w' w.heap.size v (newM cols.toNat b) ∧ Below w.heap.size w w' := by
  obtain ⟨w0, hw0⟩ : ∃ w0, w0 = w.alloc (.cells #[.int .i32 b.ru, .int .i32 b.m0, .int .i32 b.m1, .int .u8 b.k, .int .u8 b.a.fg.k, .int .u8 b.a.fg.r, .int .u8 b.a.fg.g, .int .u8 b.a.fg.b, .int .u8 b.a.bg.k, .int .u8 b.a.bg.r, .int .u8 b.a.bg.g, .int .u8 b.a.bg.b, .int .u16 (b.a.fl : Nat), .int .u8 b.l] 42) := ⟨_, rfl⟩
  have b0 : Below w.heap.size w w0 := by rw [hw0]; exact (Below.refl _ _).alloc (Nat.le_refl _) _
  have HA0 := Lib.hid (show BAt w0 w.heap.size b by rw [hw0]; exact BAt.newAt w _ rfl b _)
  have HB0 := Lib.hid b0
  clear b0
  by_cases h1 : cols < 1
  · have HE := Lib.hid (show newM cols.toNat b = [] by unfold newM; rw [show cols.toNat = 0 by omega]; rfl)
    have d1 : decide (cols < 1) = true := decide_eq_true h1
    go_enter Try.func30, Try.ntmps30
    go_upto_region 1 with (fail)
    rw [← hw0]
    clear hw0
    go_wp2
    go_ret
    exact ⟨_, rfl, by rw [HE.out]; exact CRow.nil _ _, HB0.out⟩
  obtain ⟨n, rfl⟩ : ∃ n : Nat, cols = (n : Int) := ⟨cols.toNat, by omega⟩
  have hn : n ≤ 10000 := by omega
  have d1 : decide ((n : Int) < 1) = false := decide_eq_false h1
  have d2 : ¬ (2147483647 : Int) < (n : Int) := by omega
  have d3 : decide ((2147483647 : Int) < (n : Int)) = false := decide_eq_false d2
  have HN := Lib.hid hn
  clear hc hc0
  go_enter Try.func30, Try.ntmps30
  go_upto_region 1 with (fail)
  rw [← hw0]
  clear hw0
  go_wp2_with (refine wpList_make_cells rfl (.tmp 12) (.tmp 12) rfl n rfl rfl HN.out ?_)
  intro g w1 own1 b1 hg1 hg2
  have HO := Lib.hid own1
  have HA1 := Lib.hid (HA0.out.below b1)
  have HG := Lib.hid (show w.heap.size ≤ g from Nat.le_trans HB0.out.size hg1)
  have HB1 := Lib.hid (HB0.out.trans (b1.mono HB0.out.size))
  obtain ⟨_, ⟨y0, y1, y2, y3, y4, y5, y6, y7, y8, y9, y10, y11, y12, y13⟩, _⟩ := HA1.out
  clear own1 b1 hg1 hg2 HA0
  go_wp2_with fail
  refine (fill_any w1 _ g n n (List.replicate n Cel.z) b 0 n n (some ⟨g, 0, none⟩) HO.out (by rw [List.length_replicate]) HN.out (by omega) (fun _ => rfl)).mono ?_
  rintro e w2 ⟨rfl, own2, but2⟩
  have HO2 := Lib.hid (show CRow w2 w.heap.size (.slice (some ⟨g, 0, none⟩) n n) (newM n b) by
    rw [place_all _ _ (by rw [List.length_replicate, List.length_replicate])] at own2
    exact own2.lower HB0.out.size)
  have HB2 := Lib.hid (HB1.out.trans (but2.below HG.out HB1.out.size))
  clear own2 but2 HO HB1 HG HA1 HB0 y0 y1 y2 y3 y4 y5 y6 y7 y8 y9 y10 y11 y12 y13
  go_wp2
  go_ret
  exact ⟨_, rfl, by rw [Int.toNat_natCast]; exact HO2.out, HB2.out⟩
end Go.Proofs.Ytdeahnphcfcfpaa.Lab
