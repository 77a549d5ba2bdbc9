/- The project's Break and joined. The project's fill and New. -/
import Derived.Test.YtlaafmjiiiaceaaDoorRpBrk
import Derived.Test.YtlaafmjiiiaceaaDoorRpSmall
namespace Go.Proofs.YtlaafmjiiiaceaaDoor.Lab
open Go Go.RowKit

/-- Boundaries, as they come in. -/
def PsAt (w : World) (v : Value) (L : List Int) : Prop := ∃ s o c, v = .slice (some ⟨s, o, none⟩) L.length c ∧ L.length ≤ 10 ∧ s < w.heap.size ∧ (∀ j, j < L.length → w.cell? ⟨s, o + j, none⟩ = some (.int .i64 (L.getD j 0))) ∧ ∀ j, j < L.length → -100000 < L.getD j 0 ∧ L.getD j 0 < 100000
theorem PsAt.below {w w' : World} {v : Value} {L : List Int} (h : PsAt w v L) (k : Below w.heap.size w w') : PsAt w' v L := by
  obtain ⟨s, o, c, e, hl, hlt, hc, hb⟩ := h
  exact ⟨s, o, c, e, hl, Nat.lt_of_lt_of_le hlt k.size, fun j hj => (World.cell?_of_block (a := ⟨s, o + j, none⟩) (k.block s hlt)).trans (hc j hj), hb⟩
theorem PsAt.apart {w w' : World} {g : Nat} {v : Value} {L : List Int} (h : PsAt w v L) (k : Below w.heap.size w w') (hg : w.heap.size ≤ g) : PsIn w' g v L := by
  obtain ⟨s, o, c, e, hl, hlt, hc, hb⟩ := h
  exact ⟨s, o, c, e, hl, by omega, Nat.lt_of_lt_of_le hlt k.size, fun j hj => (World.cell?_of_block (a := ⟨s, o + j, none⟩) (k.block s hlt)).trans (hc j hj), hb⟩
theorem PsAt.shape {w : World} {v : Value} {L : List Int} (h : PsAt w v L) : ∃ a c, v = .slice a L.length c := by
  obtain ⟨s, o, c, e, _⟩ := h
  exact ⟨_, c, e⟩
set_option maxHeartbeats 4000000 in
theorem break_any (w : World) (v : Value) (R : Cls) (u : Value) (L : List Int) (h : RowIn w v R) (hw : Wh R) (hl : R.length ≤ 10000) (hu : PsAt w u L) : Calls Tryd.prog 61 #[v, u] w (NewRow w (L.foldl breakM R)) := by
  obtain ⟨a, c, rfl⟩ := h.shape
  have HC := Lib.hid (anew_any w _ R h hl)
  have HU := Lib.hid hu
  obtain ⟨ua, uc, rfl⟩ := hu.shape
  have HW := Lib.hid hw
  obtain ⟨n, hn⟩ : ∃ n, n = R.length := ⟨_, rfl⟩
  obtain ⟨m, hm⟩ : ∃ m, m = L.length := ⟨_, rfl⟩
  have HN := Lib.hid hn
  have HLN := Lib.hid (show (L.foldl breakM R).length = n by rw [len_breaks]; exact hn.symm)
  rw [← hn] at hl HC
  rw [← hn, ← hm]
  rw [← hm] at HU
  clear h hw hn hu hm
  go_enter Tryd.func61, Tryd.ntmps61
  go_wp2_with fail
  refine HC.out.mono ?_
  rintro e w1 ⟨g, c1, rfl, hc1, own1, hg1, hg2, b1⟩
  rw [← HN.out] at own1 hc1 ⊢
  have HO := Lib.hid own1
  have HB := Lib.hid b1
  have HG := Lib.hid hg1
  have HPS := Lib.hid (HU.out.apart b1 hg1)
  have HC1 := Lib.hid hc1
  have HBT := Lib.hid (cuts_any w1 _ g n c1 R _ L HO.out HN.out hl HW.out HPS.out)
  clear own1 b1 hg1 hg2 hc1 HC HU
  go_wp2_with fail
  refine HBT.out.mono ?_
  rintro e w2 ⟨rfl, own2, but2⟩
  have HO2 := Lib.hid own2
  have HB2 := Lib.hid (HB.out.trans (but2.below HG.out HB.out.size))
  have HG2 := Lib.hid (show g < w2.heap.size from (own2.lt g rfl).2)
  clear own2 but2 HO HB HPS HBT
  go_wp2
  go_ret
  exact ⟨g, c1, by rw [HLN.out]; rfl, by rw [HLN.out]; exact HC1.out, by rw [HLN.out]; exact HO2.out, HG.out, HG2.out, HB2.out⟩

theorem place_rep {R : Cls} {p k : Nat} {b : Cel} (h : p + (k + 1) ≤ R.length) : (place R p (List.replicate k b)).set (p + k) b = place R p (List.replicate (k + 1) b) := by
  have l1 : p + (List.replicate k b).length ≤ R.length := by rw [List.length_replicate]; omega
  have l2 : p + (List.replicate (k + 1) b).length ≤ R.length := by rw [List.length_replicate]; omega
  refine ext_gc (by rw [List.length_set, len_place l1, len_place l2]) fun i hi => ?_
  rw [List.length_set, len_place l1] at hi
  rw [gc_set (by rw [len_place l1]; exact hi), gc_place l1, gc_place l2, List.length_replicate, List.length_replicate]
  by_cases e : i = p + k
  · rw [if_pos e, if_pos (by omega), gc_rep (by omega)]
  · rw [if_neg e]
    by_cases e2 : p ≤ i ∧ i < p + k
    · rw [if_pos e2, if_pos (by omega), gc_rep (by omega), gc_rep (by omega)]
    · rw [if_neg e2, if_neg (by omega)]
set_option maxHeartbeats 4000000 in
set_option maxRecDepth 100000 in
theorem fill_any (W : World) (lo g n c : Nat) (R : Cls) (b : Cel) (p m cm : Nat) (ad : Option Addr) (H : CRow W lo (.slice (some ⟨g, 0, none⟩) n c) R) (hn : n = R.length) (hl : n ≤ 10000) (hp : p + m ≤ n) (hA : 0 < m → ad = some ⟨g, p * 14, none⟩) :
    Calls Tryd.prog 66 #[.slice ad m cm, celV b] W fun e w' => e = .returned (.tuple #[]) ∧ CRow w' lo (.slice (some ⟨g, 0, none⟩) n c) (place R p (List.replicate m b)) ∧ But g W w' := by
  have hg : g < W.heap.size := (H.lt g rfl).2
  obtain ⟨z, hz⟩ : ∃ z, z = W.heap.size := ⟨_, rfl⟩
  have hzg : z ≠ g := by omega
  have hgz : g ≠ z := by omega
  obtain ⟨w0, hw0⟩ : ∃ w0, w0 = W.alloc (.cells #[.int .i32 b.ru, .int .i32 b.m0, .int .i32 b.m1, .int .u8 b.k, .int .u8 b.a.fg.k, .int .u8 b.a.fg.r, .int .u8 b.a.fg.g, .int .u8 b.a.fg.b, .int .u8 b.a.bg.k, .int .u8 b.a.bg.r, .int .u8 b.a.bg.g, .int .u8 b.a.bg.b, .int .u16 (b.a.fl : Nat), .int .u8 b.l] 62) := ⟨_, rfl⟩
  have b0 : Below W.heap.size W w0 := by rw [hw0]; exact (Below.refl _ _).alloc (Nat.le_refl _) _
  have HA0 := Lib.hid (show BAt w0 z b by rw [hw0, hz]; exact BAt.newAt W _ rfl b _)
  have HO0 := Lib.hid (show CRow w0 lo (.slice (some ⟨g, 0, none⟩) n c) (place R p (List.replicate 0 b)) by rw [List.replicate_zero, place_nil]; exact H.below b0)
  have HB0 := Lib.hid (But.of (B := g) b0)
  have HA := Lib.hid hA
  have HN := Lib.hid hn
  obtain ⟨o, ho⟩ : ∃ o, o = p * 14 := ⟨_, rfl⟩
  have HO := Lib.hid ho
  rw [← ho] at HA
  clear b0 H hA hn hg ho
  go_enter Tryd.func66, Tryd.ntmps66
  go_upto_region 1 with (fail)
  rw [← hw0, ← hz]
  clear hw0 hz
  go_wp2
  go_loopg [7] m (fun G i wr => ∃ k : Nat, i = .int .i64 k ∧ k ≤ m ∧ m - k ≤ G ∧ Hid (CRow wr lo (.slice (some ⟨g, 0, none⟩) n c) (place R p (List.replicate k b))) ∧ Hid (BAt wr z b) ∧ Hid (But g W wr))
  case atStart => exact ⟨0, rfl, Nat.zero_le _, Nat.sub_le _ _, HO0, HA0, HB0⟩
  case round =>
    obtain ⟨k, rfl, hkm, hgk, HR, HZ, HB⟩ := hrel
    clear HO0 HA0 HB0
    by_cases hlt : k < m
    · obtain rfl := HA.out (by omega)
      have HL := Lib.hid (show (place R p (List.replicate k b)).length = R.length from len_place (by rw [List.length_replicate]; have := HN.out; omega))
      have hlen : p + k < (place R p (List.replicate k b)).length := by rw [HL.out, ← HN.out]; omega
      have hoff : (p + k) * 14 = o + k * 14 := by have := HO.out; omega
      obtain ⟨w1, hw1⟩ : ∃ w1, w1 = put14 wr g (o + k * 14) b := ⟨_, rfl⟩
      have HR1 := Lib.hid (show CRow w1 lo (.slice (some ⟨g, 0, none⟩) n c) (place R p (List.replicate (k + 1) b)) by
        rw [hw1, ← hoff, ← place_rep (by have := HN.out; omega)]
        exact HR.out.put (by rw [HL.out]; exact HN.out) hlen b)
      have bt := put14_but wr g (o + k * 14) b
      have HZ1 := Lib.hid (show BAt w1 z b by rw [hw1]; exact HZ.out.but bt hzg)
      have HB1 := Lib.hid (show But g W w1 by rw [hw1]; exact HB.out.trans bt)
      have HF := fun j => HR.out.frozen (by rw [HL.out]; exact HN.out) j
      have hat := HR.out.at hlen
      rw [hoff] at hat
      obtain ⟨b0, b1, b2, b3, b4, b5, b6, b7, b8, b9, b10, b11, b12, b13⟩ := hat
      obtain ⟨_, ⟨y0, y1, y2, y3, y4, y5, y6, y7, y8, y9, y10, y11, y12, y13⟩, _⟩ := HZ.out
      simp only [put14] at hw1
      clear bt hlen hoff
      go_upto_region 5 with (fail)
      rw [← hw1]
      clear hw1 HF b0 b1 b2 b3 b4 b5 b6 b7 b8 b9 b10 b11 b12 b13 y0 y1 y2 y3 y4 y5 y6 y7 y8 y9 y10 y11 y12 y13 HR HZ HB HL
      go_wp2
      go_roundg (m - (k + 1))
      case rel => exact ⟨k + 1, by go_num, by omega, Nat.le_refl _, HR1, HZ1, HB1⟩
      case measure => omega
    · obtain rfl : k = m := by omega
      go_wp2
      go_end0
      exact ⟨rfl, HR.out, HB.out⟩
set_option maxHeartbeats 4000000 in
theorem new_any (w : World) (cols : Int) (b : Cel) (hc : cols ≤ 10000) (hc0 : -100000 ≤ cols) : Calls Tryd.prog 48 #[.int .i64 cols, celV b] w fun e w' => ∃ v, e = .returned v ∧ CRow w' w.heap.size v (newM cols.toNat b) ∧ Below w.heap.size w w' := by
  obtain ⟨w0, hw0⟩ : ∃ w0, w0 = w.alloc (.cells #[.int .i32 b.ru, .int .i32 b.m0, .int .i32 b.m1, .int .u8 b.k, .int .u8 b.a.fg.k, .int .u8 b.a.fg.r, .int .u8 b.a.fg.g, .int .u8 b.a.fg.b, .int .u8 b.a.bg.k, .int .u8 b.a.bg.r, .int .u8 b.a.bg.g, .int .u8 b.a.bg.b, .int .u16 (b.a.fl : Nat), .int .u8 b.l] 62) := ⟨_, rfl⟩
  have b0 : Below w.heap.size w w0 := by rw [hw0]; exact (Below.refl _ _).alloc (Nat.le_refl _) _
  have HA0 := Lib.hid (show BAt w0 w.heap.size b by rw [hw0]; exact BAt.newAt w _ rfl b _)
  have HB0 := Lib.hid b0
  clear b0
  by_cases h1 : cols < 1
  · have HE := Lib.hid (show newM cols.toNat b = [] by unfold newM; rw [show cols.toNat = 0 by omega]; rfl)
    have d1 : decide (cols < 1) = true := decide_eq_true h1
    go_enter Tryd.func48, Tryd.ntmps48
    go_upto_region 1 with (fail)
    rw [← hw0]
    clear hw0
    go_wp2
    go_ret
    exact ⟨_, rfl, by rw [HE.out]; exact CRow.nil _ _, HB0.out⟩
  obtain ⟨n, rfl⟩ : ∃ n : Nat, cols = (n : Int) := ⟨cols.toNat, by omega⟩
  have hn : n ≤ 10000 := by omega
  have d1 : decide ((n : Int) < 1) = false := decide_eq_false h1
  have d2 : ¬ (2147483647 : Int) < (n : Int) := by omega
  have d3 : decide ((2147483647 : Int) < (n : Int)) = false := decide_eq_false d2
  have HN := Lib.hid hn
  clear hc hc0
  go_enter Tryd.func48, Tryd.ntmps48
  go_upto_region 1 with (fail)
  rw [← hw0]
  clear hw0
  go_wp2_with (refine wpList_make_cells rfl (.tmp 12) (.tmp 12) rfl n rfl rfl HN.out ?_)
  intro g w1 own1 b1 hg1 hg2
  have HO := Lib.hid own1
  have HA1 := Lib.hid (HA0.out.below b1)
  have HG := Lib.hid (show w.heap.size ≤ g from Nat.le_trans HB0.out.size hg1)
  have HB1 := Lib.hid (HB0.out.trans (b1.mono HB0.out.size))
  obtain ⟨_, ⟨y0, y1, y2, y3, y4, y5, y6, y7, y8, y9, y10, y11, y12, y13⟩, _⟩ := HA1.out
  clear own1 b1 hg1 hg2 HA0
  go_wp2_with fail
  refine (fill_any w1 _ g n n (List.replicate n Cel.z) b 0 n n (some ⟨g, 0, none⟩) HO.out (by rw [List.length_replicate]) HN.out (by omega) (fun _ => rfl)).mono ?_
  rintro e w2 ⟨rfl, own2, but2⟩
  have HO2 := Lib.hid (show CRow w2 w.heap.size (.slice (some ⟨g, 0, none⟩) n n) (newM n b) by
    rw [place_all _ _ (by rw [List.length_replicate, List.length_replicate])] at own2
    exact own2.lower HB0.out.size)
  have HB2 := Lib.hid (HB1.out.trans (but2.below HG.out HB1.out.size))
  clear own2 but2 HO HB1 HG HA1 HB0 y0 y1 y2 y3 y4 y5 y6 y7 y8 y9 y10 y11 y12 y13
  go_wp2
  go_ret
  exact ⟨_, rfl, by rw [Int.toNat_natCast]; exact HO2.out, HB2.out⟩
end Go.Proofs.YtlaafmjiiiaceaaDoor.Lab
