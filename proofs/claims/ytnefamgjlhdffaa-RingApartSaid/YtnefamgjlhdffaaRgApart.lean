/- RingApart. -/
import Derived.Test.YtnefamgjlhdffaaRgLast
import Derived.Test.YtnefamgjlhdffaaRgSeen
set_option linter.unusedVariables false
namespace Go.Proofs.Ytnefamgjlhdffaa.Lab
open Go Go.RowKit

/-- Rows that look alike to Low, one by one. -/
def TL (A B : List Cls) : Prop := A.length = B.length ∧ ∀ i, i < A.length → LowE (rowG A i) (rowG B i)
theorem TL.nil : TL [] [] := ⟨rfl, fun _ h => absurd h (Nat.not_lt_zero _)⟩
theorem rowG_snoc (A : List Cls) (R : Cls) (i : Nat) : rowG (A ++ [R]) i = if i < A.length then rowG A i else if i = A.length then R else [] := by
  unfold rowG
  rw [List.getD_eq_getElem?_getD, List.getD_eq_getElem?_getD]
  by_cases h : i < A.length
  · rw [if_pos h, List.getElem?_append_left h]
  · rw [if_neg h, List.getElem?_append_right (by omega)]
    by_cases h2 : i = A.length
    · rw [if_pos h2, h2, Nat.sub_self]; rfl
    · rw [if_neg h2, List.getElem?_eq_none (by simp; omega)]; rfl
theorem TL.app {A B : List Cls} {R S : Cls} (h : TL A B) (k : LowE R S) : TL (A ++ [R]) (B ++ [S]) := by
  refine ⟨by rw [List.length_append, List.length_append, h.1]; rfl, fun i hi => ?_⟩
  rw [rowG_snoc, rowG_snoc, ← h.1]
  by_cases h1 : i < A.length
  · rw [if_pos h1, if_pos h1]; exact h.2 i h1
  · rw [if_neg h1, if_neg h1]
    by_cases h2 : i = A.length
    · rw [if_pos h2, if_pos h2]; exact k
    · rw [if_neg h2, if_neg h2]; exact LowE.refl _
theorem TL.drop {A B : List Cls} (h : TL A B) (n : Nat) : TL (A.drop n) (B.drop n) := by
  refine ⟨by rw [List.length_drop, List.length_drop, h.1], fun i hi => ?_⟩
  rw [List.length_drop] at hi
  have e : ∀ G : List Cls, rowG (G.drop n) i = rowG G (n + i) := fun G => by
    unfold rowG
    rw [List.getD_eq_getElem?_getD, List.getD_eq_getElem?_getD, List.getElem?_drop]
  rw [e, e]
  exact h.2 _ (by omega)
theorem TL.last {A B : List Cls} (h : TL A B) (n : Nat) : TL (lastN n A) (lastN n B) := by
  unfold lastN
  rw [← h.1]
  exact h.drop _
theorem TL.high {A B : List Cls} (h : TL A B) : TL (A.map (toL 1)) (B.map (toL 1)) := by
  refine ⟨by rw [List.length_map, List.length_map, h.1], fun i hi => ?_⟩
  rw [List.length_map] at hi
  have e : ∀ G : List Cls, i < G.length → rowG (G.map (toL 1)) i = toL 1 (rowG G i) := fun G hG => by
    unfold rowG
    rw [List.getD_eq_getElem?_getD, List.getD_eq_getElem?_getD, List.getElem?_map, List.getElem?_eq_getElem hG]
    rfl
  rw [e A hi, e B (by rw [← h.1]; exact hi)]
  obtain ⟨h1, _⟩ := h.2 i hi
  refine ⟨by rw [List.length_map, List.length_map, h1], fun j hj => ?_⟩
  rw [List.length_map] at hj
  rw [gc_toL hj, gc_toL (by rw [← h1]; exact hj)]
  exact ⟨rfl, fun e => absurd e (show ¬ (1 : Int) = 0 by decide)⟩
theorem LjsIn.here {w : World} {v : Value} {LL : List Lj} {k : Nat} (h : LjsIn w v LL) {a : Option Addr} {n c : Nat} (e : v = .slice a n c) (hk : k < LL.length) : ∃ g o ua uc, a = some ⟨g, o, none⟩ ∧ w.cell? ⟨g, o + k * 2, none⟩ = some (.int .u8 ((LjK LL k).cols : Nat)) ∧ (LjK LL k).cols < 256 ∧ w.cell? ⟨g, o + k * 2 + 1, none⟩ = some (.slice ua (LjK LL k).ds.length uc) ∧ DsIn w (.slice ua (LjK LL k).ds.length uc) (LjK LL k).ds := by
  subst e
  obtain ⟨g, o, u, ea, hg, c0, c256, cu, hd⟩ := h.at hk
  obtain ⟨ua, uc, hu⟩ := hd.shape
  subst hu
  exact ⟨g, o, ua, uc, ea, c0, c256, cu, hd⟩
set_option maxHeartbeats 8000000 in
set_option maxRecDepth 100000 in
theorem apart_any (w : World) (most : Nat) (av ov : Value) (AL : List Rc) (O : List Dc) (hm : most < 256) (hA : RcsIn w av AL) (hO : DsIn w ov O) :
    Calls Try.prog 5 #[.int .u8 (most : Nat), av, ov] w fun e w' => e = .returned (.bool true) ∧ Below w.heap.size w w' := by
  obtain ⟨aa, ac, rfl⟩ := hA.shape
  obtain ⟨n, hn⟩ : ∃ n, n = AL.length := ⟨_, rfl⟩
  have HNN := Lib.hid hn
  obtain ⟨oa, oc, rfl⟩ := hO.shape
  obtain ⟨no, hno⟩ : ∃ n, n = O.length := ⟨_, rfl⟩
  have HNO := Lib.hid hno
  have HAA := Lib.hid hA
  have HOO := Lib.hid hO
  have HWK := Lib.hid (works_any w)
  obtain ⟨room, hroom⟩ : ∃ r, r = most % 12 := ⟨_, rfl⟩
  have HRO := Lib.hid (show room ≤ 1000 by omega)
  have h12 : room < 256 := by omega
  have h13 : room ≤ 1000 := by omega
  have r1 : Int.tmod (most : Int) 12 = (room : Int) := tmod_nat (b := 12) hroom
  have r2 : IntKind.u8.wrap (room : Int) = (room : Int) := u8_id h12
  have r3 : IntKind.i64.wrap (room : Int) = (room : Int) := i64_id h13
  rw [← hn] at HAA ⊢
  rw [← hno] at HOO ⊢
  clear hA hO hn hno hroom hm h12 h13
  go_enter Try.func5, Try.ntmps5
  go_wp2_with fail
  refine HWK.out.mono ?_
  rintro e wo ⟨rfl, b1⟩
  have HB0 := Lib.hid b1
  replace HAA := Lib.hid (HAA.out.below b1)
  replace HOO := Lib.hid (HOO.out.below b1)
  clear b1 HWK
  obtain ⟨lo, hlo⟩ : ∃ lo, lo = wo.heap.size := ⟨_, rfl⟩
  have HLO := Lib.hid hlo
  have HR0 := Lib.hid (show RsAt wo lo wo.heap.size (fun _ => False) [] from RsAt.nil _ _ _ _)
  clear hlo
  go_wp2_with fail
  refine (rs_new room 0 HR0.out HRO.out (Nat.le_refl _) (by rw [HLO.out]; exact Nat.le_refl _) (fun j h => h.elim)).mono ?_
  rintro e w1 ⟨pa, rfl, hr, b1⟩
  have HR1 := Lib.hid hr
  have HB1 := Lib.hid b1
  clear hr b1 HR0
  go_wp2_with fail
  refine (rs_new room 0 HR1.out HRO.out (Nat.le_refl _) (by rw [HLO.out]; exact HB1.out.size) (fun j h => h.elim)).mono ?_
  rintro e w2 ⟨pb, rfl, hr, b1⟩
  have HR2 := Lib.hid (hr.cast (show _ = ([⟨pa, room, [], 0⟩, ⟨pb, room, [], 0⟩] : List Rr) from rfl))
  have HB2 := Lib.hid (HB1.out.trans (b1.mono HB1.out.size))
  clear hr b1 HR1 HB1 r1 r2 r3
  go_wp2
  go_loopg [10, 11, 12, 13, 14, 30, 31, 32, 33, 34, 35, 36, 37, 38, 39, 40, 41, 42, 43, 44, 45, 46, 47, 48, 49, 50, 51, 52, 53, 54, 55, 56, 57, 58, 59, 60, 61, 62, 63, 64, 65, 66, 67, 68, 69, 70, 71, 72, 73, 74, 75, 76, 77, 78, 79, 80, 81, 82, 83, 84, 85, 86, 87, 88, 89, 90, 91, 92, 93, 94, 95, 96, 97, 98, 99, 100, 101, 102, 103, 104, 105, 106, 107, 108, 109, 110, 111, 112, 113, 114, 115, 116, 117, 118, 119, 120, 121, 122, 123, 124, 125, 126, 127, 128, 129, 130, 131, 132, 133, 134, 135, 136, 137, 138, 139, 140, 141, 142, 143, 144, 145, 146, 147, 148, 149, 150, 151, 152, 153, 154, 155, 156, 157, 158, 159, 160, 161, 162, 163, 164, 165, 166, 167, 168, 169] 30 (fun gl b10 b11 b12 b13 b14 b30 b31 b32 b33 b34 b35 b36 b37 b38 b39 b40 b41 b42 b43 b44 b45 b46 b47 b48 b49 b50 b51 b52 b53 b54 b55 b56 b57 b58 b59 b60 b61 b62 b63 b64 b65 b66 b67 b68 b69 b70 b71 b72 b73 b74 b75 b76 b77 b78 b79 b80 b81 b82 b83 b84 b85 b86 b87 b88 b89 b90 b91 b92 b93 b94 b95 b96 b97 b98 b99 b100 b101 b102 b103 b104 b105 b106 b107 b108 b109 b110 b111 b112 b113 b114 b115 b116 b117 b118 b119 b120 b121 b122 b123 b124 b125 b126 b127 b128 b129 b130 b131 b132 b133 b134 b135 b136 b137 b138 b139 b140 b141 b142 b143 b144 b145 b146 b147 b148 b149 b150 b151 b152 b153 b154 b155 b156 b157 b158 b159 b160 b161 b162 b163 b164 b165 b166 b167 b168 b169 wr => ∃ (i : Nat) (G H : List Cls) (l : Int), b10 = .int .i64 i ∧ i ≤ n ∧ i ≤ 30 ∧ 30 - i ≤ gl ∧ Hid (l = 0 ∨ l = 1) ∧ Hid (TL G H) ∧ Hid (RsAt wr lo wr.heap.size (fun _ => False) [⟨pa, room, G, l⟩, ⟨pb, room, H, l⟩]) ∧ Hid (Below wo.heap.size wo wr))
  case atStart => exact ⟨0, [], [], 0, rfl, Nat.zero_le _, by omega, by omega, Lib.hid (.inl rfl), Lib.hid TL.nil, HR2, HB2⟩
  case round =>
    obtain ⟨i, G, H, l, rfl, hin, hi30, hgi, HL01, HTL, HR, HB⟩ := hrel
    clear HR2 HB2
    obtain ⟨wa, hwa⟩ : ∃ wa, wa = wr := ⟨_, rfl⟩
    subst hwa
    obtain ⟨tst, htst⟩ : ∃ b : Bool, b = decide (i < n ∧ i < 30) := ⟨_, rfl⟩
    have HTS := Lib.hid htst
    clear htst
    go_upto_region 8 with (fail)
    go_cut [37] (fun v37 wc => v37 = .bool tst ∧ Hid (wc = wa))
    case first =>
      by_cases h1 : i < n
      · by_cases h2 : i < 30
        · have g2 : (i : Int) < 30 := by omega
          have ht : tst = true := by rw [HTS.out, decide_eq_true (And.intro h1 h2)]
          go_wp2
          go_meet
          case rel => exact ⟨by rw [ht], Lib.hid rfl⟩
        · have g2 : ¬ (i : Int) < 30 := by omega
          have ht : tst = false := by rw [HTS.out, decide_eq_false (by omega)]
          go_wp2
          go_meet
          case rel => exact ⟨by rw [ht], Lib.hid rfl⟩
      · have ht : tst = false := by rw [HTS.out, decide_eq_false (by omega)]
        go_wp2
        go_meet
        case rel => exact ⟨by rw [ht], Lib.hid rfl⟩
    case rest =>
    obtain ⟨rfl, hwc⟩ := hcut
    have hwc' := hwc.out.symm
    subst hwc'
    cases htt : tst with
    | false =>
      clear HTS htt
      go_wp2
      go_ret
      exact ⟨rfl, HB0.out.trans (HB.out.mono HB0.out.size)⟩
    | true =>
      have hlt2 := of_decide_eq_true (HTS.out.symm.trans htt)
      have HLT := Lib.hid hlt2
      have hltn : i < n := hlt2.1
      clear HTS htt hlt2 hin hi30
      obtain ⟨act, hact⟩ : ∃ a, a = RcK AL i := ⟨_, rfl⟩
      obtain ⟨g, o, u, ea, hg, c0, hwh, c1, hlj, c2⟩ := HAA.out.at (i := i) (by rw [← HNN.out]; exact hltn)
      rw [← hact] at c0 hwh hlj c2
      subst ea
      obtain ⟨ua, uc, hu⟩ := hlj.shape
      obtain ⟨nl, hnl⟩ : ∃ x, x = act.LL.length := ⟨_, rfl⟩
      rw [← hnl] at hu
      subst hu
      have HNL := Lib.hid hnl
      have HLJ := Lib.hid hlj
      obtain ⟨what, hwhat⟩ : ∃ x, x = act.what := ⟨_, rfl⟩
      obtain ⟨lev, hlev⟩ : ∃ x, x = act.lev := ⟨_, rfl⟩
      rw [← hwhat] at c0 hwh
      rw [← hlev] at c2
      have HCL := Lib.hid (show ∀ W', Below wo.heap.size wo W' → W'.cell? ⟨g, o + i * 3, none⟩ = some (.int .u8 (what : Nat)) ∧ W'.cell? ⟨g, o + i * 3 + 1, none⟩ = some (.slice ua nl uc) ∧ W'.cell? ⟨g, o + i * 3 + 2, none⟩ = some (.bool lev) from fun W' kb => ⟨(kb.cell (p := ⟨g, o + i * 3, none⟩) hg).trans c0, (kb.cell (p := ⟨g, o + i * 3 + 1, none⟩) hg).trans c1, (kb.cell (p := ⟨g, o + i * 3 + 2, none⟩) hg).trans c2⟩)
      obtain ⟨d, hd⟩ : ∃ d, d = what % 10 := ⟨_, rfl⟩
      have hd10 : d < 256 := by omega
      obtain ⟨lx, hlx⟩ : ∃ lx : Int, lx = if lev then 1 else 0 := ⟨_, rfl⟩
      have HLX := Lib.hid (show lx = 0 ∨ lx = 1 by rw [hlx]; cases lev <;> simp)
      have HLV := Lib.hid (show ∀ W', Calls Try.prog 11 #[actV what (.slice ua nl uc) lev] W' fun e w' => e = .returned (.int .u8 lx) ∧ Below W'.heap.size W' w' from fun W' => by rw [hlx]; exact rlevel_any W' what _ lev)
      have HDD := Lib.hid hd
      clear c0 c1 c2 hg hlj hnl hwhat hlev hact hlx
      go_upto_region 10 with (fail)
      obtain ⟨c0, c1, c2⟩ := HCL.out wa HB.out
      have r1 : Int.tmod (what : Int) 10 = (d : Int) := tmod_nat (b := 10) hd
      have r2 : IntKind.u8.wrap (d : Int) = (d : Int) := u8_id hd10
      clear hd hd10 hwh
      go_upto_block 2 with (fail)
      clear r1 r2
      go_cut [] (fun wc => ∃ (G' H' : List Cls) (l' : Int), Hid (l' = 0 ∨ l' = 1) ∧ Hid (TL G' H') ∧ Hid (RsAt wc lo wc.heap.size (fun _ => False) [⟨pa, room, G', l'⟩, ⟨pb, room, H', l'⟩]) ∧ Hid (Below wo.heap.size wo wc))
      case first =>
        by_cases h6 : d = 6
        · clear HDD
          subst h6
          go_wp2_with fail
          refine (HLV.out wa).mono ?_
          rintro e x1 ⟨rfl, b5⟩
          have HRa := Lib.hid (HR.out.below b5)
          have HBa := Lib.hid (show Below wo.heap.size wo x1 from HB.out.trans (b5.mono HB.out.size))
          clear b5
          go_wp2_with fail
          refine (rs_raise (i := 0) HRa.out rfl (by rw [HLO.out]; exact HBa.out.size) (fun j h => h.elim) HL01.out HLX.out).mono ?_
          rintro e x2 ⟨rfl, hr, b5⟩
          have HRb := Lib.hid (hr.cast (show _ = ([⟨pa, room, G, max l lx⟩, ⟨pb, room, H, l⟩] : List Rr) from rfl))
          have HBb := Lib.hid (show Below wo.heap.size wo x2 from HBa.out.trans (b5.below (C := wo.heap.size) (fun j hj => by have := hj.1; rw [HLO.out] at this; exact this) HBa.out.size))
          clear hr b5
          clear c0 c1 c2
          obtain ⟨c0, c1, c2⟩ := HCL.out x2 HBb.out
          go_wp2_with fail
          refine (HLV.out x2).mono ?_
          rintro e x3 ⟨rfl, b5⟩
          have HRc := Lib.hid (HRb.out.below b5)
          have HBc := Lib.hid (show Below wo.heap.size wo x3 from HBb.out.trans (b5.mono HBb.out.size))
          clear b5
          go_wp2_with fail
          refine (rs_raise (i := 1) HRc.out rfl (by rw [HLO.out]; exact HBc.out.size) (fun j h => h.elim) HL01.out HLX.out).mono ?_
          rintro e x4 ⟨rfl, hr, b5⟩
          have HRd := Lib.hid (hr.cast (show _ = ([⟨pa, room, G, max l lx⟩, ⟨pb, room, H, max l lx⟩] : List Rr) from rfl))
          have HBd := Lib.hid (show Below wo.heap.size wo x4 from HBc.out.trans (b5.below (C := wo.heap.size) (fun j hj => by have := hj.1; rw [HLO.out] at this; exact this) HBc.out.size))
          clear hr b5
          go_wp2
          go_meet
          case rel => exact ⟨G, H, max l lx, Lib.hid (by rcases HL01.out with h | h <;> rcases HLX.out with k | k <;> rw [h, k] <;> decide), HTL, HRd, HBd⟩
        · have f6 : ((d : Int) == 6) = false := by simp; omega
          by_cases h7 : d = 7
          · clear HDD
            subst h7
            go_wp2_with fail
            refine (rs_lower (i := 0) 1 HR.out rfl (by rw [HLO.out]; exact HB.out.size) (fun j h => h.elim)).mono ?_
            rintro e x2 ⟨rfl, hr, b5⟩
            have HRb := Lib.hid (hr.cast (show _ = ([⟨pa, room, G.map (toL 1), 1⟩, ⟨pb, room, H, l⟩] : List Rr) from rfl))
            have HBb := Lib.hid (show Below wo.heap.size wo x2 from HB.out.trans (b5.below (C := wo.heap.size) (fun j hj => by have := hj.1; rw [HLO.out] at this; exact this) HB.out.size))
            clear hr b5
            go_wp2_with fail
            refine (rs_lower (i := 1) 1 HRb.out rfl (by rw [HLO.out]; exact HBb.out.size) (fun j h => h.elim)).mono ?_
            rintro e x4 ⟨rfl, hr, b5⟩
            have HRd := Lib.hid (hr.cast (show _ = ([⟨pa, room, G.map (toL 1), 1⟩, ⟨pb, room, H.map (toL 1), 1⟩] : List Rr) from rfl))
            have HBd := Lib.hid (show Below wo.heap.size wo x4 from HBb.out.trans (b5.below (C := wo.heap.size) (fun j hj => by have := hj.1; rw [HLO.out] at this; exact this) HBb.out.size))
            clear hr b5
            go_wp2
            go_meet
            case rel => exact ⟨_, _, 1, Lib.hid (.inr rfl), Lib.hid HTL.out.high, HRd, HBd⟩
          · have f7 : ((d : Int) == 7) = false := by simp; omega
            by_cases h8 : d = 8
            · clear HDD
              subst h8
              go_wp2_with fail
              refine (HLV.out wa).mono ?_
              rintro e x1 ⟨rfl, b5⟩
              have HRa := Lib.hid (HR.out.below b5)
              have HBa := Lib.hid (show Below wo.heap.size wo x1 from HB.out.trans (b5.mono HB.out.size))
              clear b5
              go_wp2_with fail
              refine (rs_clear (i := 0) lx HRa.out rfl (by rw [HLO.out]; exact HBa.out.size) (fun j h => h.elim)).mono ?_
              rintro e x2 ⟨rfl, hr, b5⟩
              have HRb := Lib.hid (hr.cast (show _ = ([⟨pa, room, [], lx⟩, ⟨pb, room, H, l⟩] : List Rr) from rfl))
              have HBb := Lib.hid (show Below wo.heap.size wo x2 from HBa.out.trans (b5.below (C := wo.heap.size) (fun j hj => by have := hj.1; rw [HLO.out] at this; exact this) HBa.out.size))
              clear hr b5
              clear c0 c1 c2
              obtain ⟨c0, c1, c2⟩ := HCL.out x2 HBb.out
              go_wp2_with fail
              refine (HLV.out x2).mono ?_
              rintro e x3 ⟨rfl, b5⟩
              have HRc := Lib.hid (HRb.out.below b5)
              have HBc := Lib.hid (show Below wo.heap.size wo x3 from HBb.out.trans (b5.mono HBb.out.size))
              clear b5
              go_wp2_with fail
              refine (rs_clear (i := 1) lx HRc.out rfl (by rw [HLO.out]; exact HBc.out.size) (fun j h => h.elim)).mono ?_
              rintro e x4 ⟨rfl, hr, b5⟩
              have HRd := Lib.hid (hr.cast (show _ = ([⟨pa, room, [], lx⟩, ⟨pb, room, [], lx⟩] : List Rr) from rfl))
              have HBd := Lib.hid (show Below wo.heap.size wo x4 from HBc.out.trans (b5.below (C := wo.heap.size) (fun j hj => by have := hj.1; rw [HLO.out] at this; exact this) HBc.out.size))
              clear hr b5
              go_wp2
              go_meet
              case rel => exact ⟨[], [], lx, HLX, Lib.hid TL.nil, HRd, HBd⟩
            · have f8 : ((d : Int) == 8) = false := by simp; omega
              go_wp2
              go_loopg [11, 46, 47, 48, 49, 50, 51, 52, 53, 54, 55, 56, 57, 58, 59, 60, 61, 62, 63, 64, 65, 66, 67, 68, 69, 70, 71, 72, 73, 74, 75, 76, 77, 78, 79, 80, 81, 82, 83, 84, 85, 86, 87, 88, 89, 90, 91, 92, 93, 94, 95, 96, 97, 98, 99] 6 (fun gl b11 b46 b47 b48 b49 b50 b51 b52 b53 b54 b55 b56 b57 b58 b59 b60 b61 b62 b63 b64 b65 b66 b67 b68 b69 b70 b71 b72 b73 b74 b75 b76 b77 b78 b79 b80 b81 b82 b83 b84 b85 b86 b87 b88 b89 b90 b91 b92 b93 b94 b95 b96 b97 b98 b99 wr => ∃ (k : Nat) (G' H' : List Cls), b11 = .int .i64 k ∧ k ≤ 6 ∧ k ≤ nl ∧ 6 - k ≤ gl ∧ Hid (TL G' H') ∧ Hid (RsAt wr lo wr.heap.size (fun _ => False) [⟨pa, room, G', l⟩, ⟨pb, room, H', l⟩]) ∧ Hid (Below wo.heap.size wo wr))
              case atStart => exact ⟨0, G, H, rfl, by omega, by omega, by omega, HTL, HR, HB⟩
              case round =>
                obtain ⟨k, G1, H1, rfl, hk6, hkn, hgk, HT1, HR1, HB1⟩ := hrel
                clear HTL HR HB c0 c1 c2
                obtain ⟨tsk, htsk⟩ : ∃ b : Bool, b = decide (k < nl ∧ k < 6) := ⟨_, rfl⟩
                have HTK := Lib.hid htsk
                clear htsk
                obtain ⟨c0, c1, c2⟩ := HCL.out wr HB1.out
                go_upto_region 12 with (fail)
                go_cut [57] (fun v57 wc => v57 = .bool tsk ∧ Hid (wc = wr))
                case first =>
                  by_cases h1 : k < nl
                  · by_cases h2 : k < 6
                    · have g2 : (k : Int) < 6 := by omega
                      have ht : tsk = true := by rw [HTK.out, decide_eq_true (And.intro h1 h2)]
                      go_wp2
                      go_meet
                      case rel => exact ⟨by rw [ht], Lib.hid rfl⟩
                    · have g2 : ¬ (k : Int) < 6 := by omega
                      have ht : tsk = false := by rw [HTK.out, decide_eq_false (by omega)]
                      go_wp2
                      go_meet
                      case rel => exact ⟨by rw [ht], Lib.hid rfl⟩
                  · have ht : tsk = false := by rw [HTK.out, decide_eq_false (by omega)]
                    go_wp2
                    go_meet
                    case rel => exact ⟨by rw [ht], Lib.hid rfl⟩
                case rest =>
                obtain ⟨rfl, hwc⟩ := hcut
                have hwc' := hwc.out.symm
                subst hwc'
                cases htt : tsk with
                | false =>
                  clear HTK htt
                  go_wp2
                  go_meet
                  case rel => exact ⟨G1, H1, l, HL01, HT1, HR1, HB1⟩
                | true =>
                  have hlt2 := of_decide_eq_true (HTK.out.symm.trans htt)
                  have HLK := Lib.hid hlt2
                  have hltk : k < nl := hlt2.1
                  clear HTK htt hlt2
                  obtain ⟨h9, p9, va, vc, ea, e0, c256, e1, hds⟩ := HLJ.out.here (k := k) rfl (by rw [← HNL.out]; exact hltk)
                  obtain ⟨x, hx⟩ : ∃ x, x = LjK act.LL k := ⟨_, rfl⟩
                  rw [← hx] at e0 c256 e1 hds
                  subst ea
                  obtain ⟨nd, hnd⟩ : ∃ m, m = x.ds.length := ⟨_, rfl⟩
                  rw [← hnd] at e1
                  have HND := Lib.hid hnd
                  have HLC := Lib.hid (show ∀ W', Below wo.heap.size wo W' → W'.cell? ⟨h9, p9 + k * 2, none⟩ = some (.int .u8 (x.cols : Nat)) ∧ W'.cell? ⟨h9, p9 + k * 2 + 1, none⟩ = some (.slice va nd vc) from fun W' kb => ⟨(kb.cell (World.block_lt_of_cell? wo _ e0)).trans e0, (kb.cell (World.block_lt_of_cell? wo _ e1)).trans e1⟩)
                  have HDS := Lib.hid (And.intro hds c256)
                  have HRN := Lib.hid (show x.row.length ≤ 1000 ∧ LowE x.row (otherM x.cols x.ds O) from ⟨by rw [(rowM_whole x.cols x.ds).2.2]; omega, (otherM_whole x.cols x.ds O).2⟩)
                  clear e0 e1 hds c256 hx hnd
                  obtain ⟨e0, e1⟩ := HLC.out wr HB1.out
                  go_wp2_with fail
                  rw [HND.out]
                  refine (rrow_any wr x.cols (.slice va x.ds.length vc) x.ds HDS.out.2 (HDS.out.1.below HB1.out)).mono ?_
                  rintro e y1a ⟨r, rfl, ow, b2⟩
                  obtain ⟨ra, rc, hr⟩ := ow.shape
                  subst hr
                  have HOa := Lib.hid (show RowIn y1a (.slice ra (x.row).length rc) (x.row) ∧ (∀ b, (Value.slice ra (x.row).length rc).ownBlock = some b → wr.heap.size ≤ b) from ⟨ow.row, fun b hb => (ow.lt b hb).1⟩)
                  have HRya := Lib.hid (HR1.out.below b2)
                  have HBya := Lib.hid (show Below wo.heap.size wo y1a from HB1.out.trans (b2.mono HB1.out.size))
                  have HSya := Lib.hid b2.size
                  clear ow b2
                  obtain ⟨qa, hq⟩ : ∃ q, q = y1a.heap.size := ⟨_, rfl⟩
                  obtain ⟨y2a, hw8⟩ : ∃ X, X = y1a.alloc (.cells #[.slice ra (x.row).length rc] 38) := ⟨_, rfl⟩
                  have HB8a := Lib.hid (show Below y1a.heap.size y1a y2a by rw [hw8]; exact (Below.refl _ _).alloc (Nat.le_refl _) _)
                  have HIa := Lib.hid (show LIn (fun j => wr.heap.size ≤ j) y2a (.slice (some ⟨qa, 0, none⟩) 1 1) [⟨.slice ra (x.row).length rc, x.row⟩] from by
                    have := LIn.lit y1a [⟨.slice ra (x.row).length rc, x.row⟩] (fun j => wr.heap.size ≤ j) qa hq (by rw [hq]; exact HSya.out) (fun y hy => by rw [List.mem_singleton.1 hy]; exact HOa.out.1) (Foot.one fun b hb => HOa.out.2 b hb) (by exact (show 1 ≤ 1000 by decide))
                    rw [hw8]
                    exact this)
                  go_wp2_with fail
                  rw [← hw8, ← hq]
                  clear hw8 hq
                  refine (rs_push (i := 0) (S := fun j => wr.heap.size ≤ j) (HRya.out.below HB8a.out) rfl (by rw [HLO.out]; exact Nat.le_trans HBya.out.size HB8a.out.size) (fun j h => h.elim) HIa.out (fun j h => .inr (.inl h)) (fun y hy => by rw [List.mem_singleton.1 hy]; exact HRN.out.1) (by exact (show 1 ≤ 100000 by decide))).mono ?_
                  rintro e y3a ⟨rfl, hr, b5⟩
                  have HRza := Lib.hid (hr.cast (show _ = ([⟨pa, room, lastN room (G1 ++ [x.row]), l⟩, ⟨pb, room, H1, l⟩] : List Rr) from rfl))
                  have HBza := Lib.hid (show Below wo.heap.size wo y3a from (HBya.out.trans (HB8a.out.mono HBya.out.size)).trans (b5.below (C := wo.heap.size) (fun j hj => by have := hj.1; rw [HLO.out] at this; exact this) (HBya.out.trans (HB8a.out.mono HBya.out.size)).size))
                  clear hr b5 HIa HRya HBya HB8a HSya HOa HR1 HB1
                  clear c0 c1 c2 e0 e1
                  obtain ⟨c0, c1, c2⟩ := HCL.out y3a HBza.out
                  obtain ⟨e0, e1⟩ := HLC.out y3a HBza.out
                  by_cases h0 : 0 < no
                  · have q0 : (no : Int) > 0 := by omega
                    have HOT := Lib.hid (show Calls Try.prog 32 #[.agg #[.int .u8 (x.cols : Nat), .slice va x.ds.length vc], .slice oa no oc] y3a (CRowOut y3a (otherM x.cols x.ds O)) from by
                      have h := HOO.out.below HBza.out
                      rw [HNO.out] at h ⊢
                      exact rother_any y3a x.cols _ _ x.ds O HDS.out.2 (HDS.out.1.below HBza.out) h)
                    go_wp2_with fail
                    rw [HND.out]
                    refine (HOT.out).mono ?_
                    rintro e y1b ⟨r, rfl, ow, b2⟩
                    obtain ⟨ra, rc, hr⟩ := ow.shape
                    subst hr
                    have HOb := Lib.hid (show RowIn y1b (.slice ra (otherM x.cols x.ds O).length rc) (otherM x.cols x.ds O) ∧ (∀ b, (Value.slice ra (otherM x.cols x.ds O).length rc).ownBlock = some b → y3a.heap.size ≤ b) from ⟨ow.row, fun b hb => (ow.lt b hb).1⟩)
                    have HRyb := Lib.hid (HRza.out.below b2)
                    have HByb := Lib.hid (show Below wo.heap.size wo y1b from HBza.out.trans (b2.mono HBza.out.size))
                    have HSyb := Lib.hid b2.size
                    clear ow b2
                    obtain ⟨qb, hq⟩ : ∃ q, q = y1b.heap.size := ⟨_, rfl⟩
                    obtain ⟨y2b, hw8⟩ : ∃ X, X = y1b.alloc (.cells #[.slice ra (otherM x.cols x.ds O).length rc] 38) := ⟨_, rfl⟩
                    have HB8b := Lib.hid (show Below y1b.heap.size y1b y2b by rw [hw8]; exact (Below.refl _ _).alloc (Nat.le_refl _) _)
                    have HIb := Lib.hid (show LIn (fun j => y3a.heap.size ≤ j) y2b (.slice (some ⟨qb, 0, none⟩) 1 1) [⟨.slice ra (otherM x.cols x.ds O).length rc, otherM x.cols x.ds O⟩] from by
                      have := LIn.lit y1b [⟨.slice ra (otherM x.cols x.ds O).length rc, otherM x.cols x.ds O⟩] (fun j => y3a.heap.size ≤ j) qb hq (by rw [hq]; exact HSyb.out) (fun y hy => by rw [List.mem_singleton.1 hy]; exact HOb.out.1) (Foot.one fun b hb => HOb.out.2 b hb) (by exact (show 1 ≤ 1000 by decide))
                      rw [hw8]
                      exact this)
                    go_wp2_with fail
                    rw [← hw8, ← hq]
                    clear hw8 hq
                    refine (rs_push (i := 1) (S := fun j => y3a.heap.size ≤ j) (HRyb.out.below HB8b.out) rfl (by rw [HLO.out]; exact Nat.le_trans HByb.out.size HB8b.out.size) (fun j h => h.elim) HIb.out (fun j h => .inr (.inl h)) (fun y hy => by rw [List.mem_singleton.1 hy]; exact (by rw [← HRN.out.2.1]; exact HRN.out.1)) (by exact (show 1 ≤ 100000 by decide))).mono ?_
                    rintro e y3b ⟨rfl, hr, b5⟩
                    have HRzb := Lib.hid (hr.cast (show _ = ([⟨pa, room, lastN room (G1 ++ [x.row]), l⟩, ⟨pb, room, lastN room (H1 ++ [otherM x.cols x.ds O]), l⟩] : List Rr) from rfl))
                    have HBzb := Lib.hid (show Below wo.heap.size wo y3b from (HByb.out.trans (HB8b.out.mono HByb.out.size)).trans (b5.below (C := wo.heap.size) (fun j hj => by have := hj.1; rw [HLO.out] at this; exact this) (HByb.out.trans (HB8b.out.mono HByb.out.size)).size))
                    clear hr b5 HIb HRyb HByb HB8b HSyb HOb HRza HBza
                    have HTN := Lib.hid (show TL (lastN room (G1 ++ [x.row])) (lastN room (H1 ++ [otherM x.cols x.ds O])) from (HT1.out.app HRN.out.2).last room)
                    clear q0 c0 c1 c2 e0 e1
                    go_wp2
                    go_roundg (6 - (k + 1))
                    case rel =>
                      have := HLK.out
                      exact ⟨k + 1, _, _, by (first | go_num | (refine congrArg _ ?_; unfold wrap64; omega)), by omega, by omega, Nat.le_refl _, HTN, HRzb, HBzb⟩
                    case measure => have := HLK.out; omega
                  · have q0 : ¬ (no : Int) > 0 := by omega
                    go_wp2_with fail
                    rw [HND.out]
                    refine (rrow_any y3a x.cols (.slice va x.ds.length vc) x.ds HDS.out.2 (HDS.out.1.below HBza.out)).mono ?_
                    rintro e y1b ⟨r, rfl, ow, b2⟩
                    obtain ⟨ra, rc, hr⟩ := ow.shape
                    subst hr
                    have HOb := Lib.hid (show RowIn y1b (.slice ra (x.row).length rc) (x.row) ∧ (∀ b, (Value.slice ra (x.row).length rc).ownBlock = some b → y3a.heap.size ≤ b) from ⟨ow.row, fun b hb => (ow.lt b hb).1⟩)
                    have HRyb := Lib.hid (HRza.out.below b2)
                    have HByb := Lib.hid (show Below wo.heap.size wo y1b from HBza.out.trans (b2.mono HBza.out.size))
                    have HSyb := Lib.hid b2.size
                    clear ow b2
                    obtain ⟨qb, hq⟩ : ∃ q, q = y1b.heap.size := ⟨_, rfl⟩
                    obtain ⟨y2b, hw8⟩ : ∃ X, X = y1b.alloc (.cells #[.slice ra (x.row).length rc] 38) := ⟨_, rfl⟩
                    have HB8b := Lib.hid (show Below y1b.heap.size y1b y2b by rw [hw8]; exact (Below.refl _ _).alloc (Nat.le_refl _) _)
                    have HIb := Lib.hid (show LIn (fun j => y3a.heap.size ≤ j) y2b (.slice (some ⟨qb, 0, none⟩) 1 1) [⟨.slice ra (x.row).length rc, x.row⟩] from by
                      have := LIn.lit y1b [⟨.slice ra (x.row).length rc, x.row⟩] (fun j => y3a.heap.size ≤ j) qb hq (by rw [hq]; exact HSyb.out) (fun y hy => by rw [List.mem_singleton.1 hy]; exact HOb.out.1) (Foot.one fun b hb => HOb.out.2 b hb) (by exact (show 1 ≤ 1000 by decide))
                      rw [hw8]
                      exact this)
                    go_wp2_with fail
                    rw [← hw8, ← hq]
                    clear hw8 hq
                    refine (rs_push (i := 1) (S := fun j => y3a.heap.size ≤ j) (HRyb.out.below HB8b.out) rfl (by rw [HLO.out]; exact Nat.le_trans HByb.out.size HB8b.out.size) (fun j h => h.elim) HIb.out (fun j h => .inr (.inl h)) (fun y hy => by rw [List.mem_singleton.1 hy]; exact HRN.out.1) (by exact (show 1 ≤ 100000 by decide))).mono ?_
                    rintro e y3b ⟨rfl, hr, b5⟩
                    have HRzb := Lib.hid (hr.cast (show _ = ([⟨pa, room, lastN room (G1 ++ [x.row]), l⟩, ⟨pb, room, lastN room (H1 ++ [x.row]), l⟩] : List Rr) from rfl))
                    have HBzb := Lib.hid (show Below wo.heap.size wo y3b from (HByb.out.trans (HB8b.out.mono HByb.out.size)).trans (b5.below (C := wo.heap.size) (fun j hj => by have := hj.1; rw [HLO.out] at this; exact this) (HByb.out.trans (HB8b.out.mono HByb.out.size)).size))
                    clear hr b5 HIb HRyb HByb HB8b HSyb HOb HRza HBza
                    have HTN := Lib.hid (show TL (lastN room (G1 ++ [x.row])) (lastN room (H1 ++ [x.row])) from (HT1.out.app (LowE.refl _)).last room)
                    clear q0 c0 c1 c2 e0 e1
                    go_wp2
                    go_roundg (6 - (k + 1))
                    case rel =>
                      have := HLK.out
                      exact ⟨k + 1, _, _, by (first | go_num | (refine congrArg _ ?_; unfold wrap64; omega)), by omega, by omega, Nat.le_refl _, HTN, HRzb, HBzb⟩
                    case measure => have := HLK.out; omega
      case rest =>
      obtain ⟨G2, H2, l2, HL2, HT2, HR3, HB3⟩ := hcut
      clear HL01 HTL HR HB c0 c1 c2 HCL HLV HLX HDD
      go_wp2_with fail
      refine (rs_all (i := 0) HR3.out rfl).mono ?_
      rintro e z1 ⟨v7, K7, rfl, hK7, r7, b7⟩
      have HR4 := Lib.hid (HR3.out.below b7)
      have HB4 := Lib.hid (HB3.out.trans (b7.mono HB3.out.size))
      have HK7 := Lib.hid (show rws K7 = G2 from hK7)
      have HS1 := Lib.hid b7.size
      have HI7 := Lib.hid r7.see
      clear hK7 r7 b7 HR3 HB3
      go_wp2_with fail
      refine (rs_all (i := 1) HR4.out rfl).mono ?_
      rintro e z2 ⟨v8, K8, rfl, hK7, r7, b7⟩
      have HR5 := Lib.hid (HR4.out.below b7)
      have HB5 := Lib.hid (HB4.out.trans (b7.mono HB4.out.size))
      have HK8 := Lib.hid (show rws K8 = H2 from hK7)
      have HS2 := Lib.hid (Nat.le_trans HS1.out b7.size)
      have HI8 := Lib.hid (r7.see.mono (T := fun _ => True) (fun _ _ => trivial))
      replace HI7 := Lib.hid ((HI7.out.below b7).mono (T := fun _ => True) (fun _ _ => trivial))
      clear hK7 r7 b7 HR4 HB4
      have hln := HR5.out.len (i := 0) rfl
      obtain ⟨m, hm⟩ : ∃ m, m = K7.length := ⟨_, rfl⟩
      have hmm : m = G2.length := by rw [hm, ← HK7.out, List.length_map]
      have hm8 : K8.length = m := by rw [hmm, HT2.out.1, ← HK8.out, List.length_map]
      have HM := Lib.hid (show m = G2.length ∧ m ≤ 1000 ∧ ∀ R ∈ G2, R.length ≤ 1000 from ⟨hmm, by have h1 : G2.length ≤ room := hln.1; have h2 : room ≤ 1000 := hln.2.1; omega, hln.2.2⟩)
      obtain ⟨a7, k7, rfl, _⟩ := HI7.out.shape
      obtain ⟨a8, k8, rfl, _⟩ := HI8.out.shape
      have HM7 := Lib.hid hm
      have HM8 := Lib.hid hm8
      rw [← hm] at HI7 ⊢
      rw [hm8] at HI8 ⊢
      clear hln hm hmm hm8
      go_wp2_with fail
      refine (rs_label (i := 0) HR5.out rfl).mono ?_
      rintro e w' ⟨rfl, rfl⟩
      go_wp2_with fail
      refine (rs_label (i := 1) HR5.out rfl).mono ?_
      rintro e w' ⟨rfl, rfl⟩
      have hll : (l2 == l2) = true := by simp
      go_wp2
      go_loopg [14, 154, 155, 156, 157, 158, 159, 160, 161, 162, 163, 164, 165, 166, 167, 168, 169] m (fun gl b14 b154 b155 b156 b157 b158 b159 b160 b161 b162 b163 b164 b165 b166 b167 b168 b169 wr => ∃ j : Nat, b14 = .int .i64 j ∧ j ≤ m ∧ m - j ≤ gl ∧ Hid (Below z2.heap.size z2 wr))
      case atStart => exact ⟨0, rfl, Nat.zero_le _, by omega, Lib.hid (Below.refl _ _)⟩
      case round =>
        obtain ⟨j, rfl, hjm, hgj, HW⟩ := hrel
        by_cases hlt : j < m
        · have HLTJ := Lib.hid hlt
          have hj7 : j < K7.length := by rw [← HM7.out]; exact hlt
          have hj8 : j < K8.length := by rw [HM8.out]; exact hlt
          obtain ⟨m1, o1, ea1, hC1⟩ := (HI7.out.below HW.out).get (by omega)
          obtain ⟨m2, o2, ea2, hC2⟩ := (HI8.out.below HW.out).get (by omega)
          subst ea1 ea2
          have hc := hC1 j hj7
          have hd := hC2 j hj8
          obtain ⟨x, hx⟩ : ∃ x, x = K7[j] := ⟨_, rfl⟩
          obtain ⟨y, hy⟩ : ∃ y, y = K8[j] := ⟨_, rfl⟩
          rw [← hx] at hc
          rw [← hy] at hd
          have hxm : x ∈ K7 := by rw [hx]; exact List.getElem_mem _
          have hym : y ∈ K8 := by rw [hy]; exact List.getElem_mem _
          have HXR := Lib.hid ((HI7.out.below HW.out).row x hxm)
          have HYR := Lib.hid ((HI8.out.below HW.out).row y hym)
          have HLO2 := Lib.hid (show LowE x.R y.R ∧ x.R.length ≤ 1000 from by
            refine ⟨?_, HM.out.2.2 x.R (by rw [← HK7.out]; exact List.mem_map_of_mem hxm)⟩
            have := HT2.out.2 j (by rw [← HM.out.1]; exact hlt)
            rw [← HK7.out, ← HK8.out, rowG_ln hj7, rowG_ln hj8, ← hx, ← hy] at this
            exact this)
          obtain ⟨xa, xc, ex⟩ := HXR.out.shape
          obtain ⟨ya, yc, ey⟩ := HYR.out.shape
          obtain ⟨xl, hxl⟩ : ∃ l, l = x.R.length := ⟨_, rfl⟩
          obtain ⟨yl, hyl⟩ : ∃ l, l = y.R.length := ⟨_, rfl⟩
          rw [← hxl] at ex
          rw [← hyl] at ey
          rw [ex] at hc
          rw [ey] at hd
          have HEX := Lib.hid ex
          have HEY := Lib.hid ey
          have KEEP := Lib.hid (show ∀ W', Below wr.heap.size wr W' → (fun wx => wx.cell? ⟨m1, o1 + j, none⟩ = some (.slice xa xl xc) ∧ wx.cell? ⟨m2, o2 + j, none⟩ = some (.slice ya yl yc)) W' from fun W' kb => ⟨(kb.cell (World.block_lt_of_cell? wr _ hc)).trans hc, (kb.cell (World.block_lt_of_cell? wr _ hd)).trans hd⟩)
          clear hC1 hC2 hx hy hxm hym ex ey hxl hyl hj7 hj8 hc hd
          go_upto_region 33 with (fail)
          refine wp_region_held_drew (S := (fun wx => wx.cell? ⟨m1, o1 + j, none⟩ = some (.slice xa xl xc) ∧ wx.cell? ⟨m2, o2 + j, none⟩ = some (.slice ya yl yc))) (by kernel_rfl) ?_ (fun hHeld => ?_)
          · exact KEEP.out _ ((Below.refl _ _).drew)
          obtain ⟨wd, hwd⟩ : ∃ X, X = wr.drew := ⟨_, rfl⟩
          have HXD := Lib.hid (show Below wr.heap.size wr wd by rw [hwd]; exact (Below.refl _ _).drew)
          replace hHeld := KEEP.out _ HXD.out
          rw [← hwd]
          clear hwd
          refine tk 0 rfl (fun w hSw => by (try dsimp only at hSw); go_simp; try with_reducible rfl) ?_
          go_frame
          refine tk 1 rfl (fun w hSw => by (try dsimp only at hSw); go_simp; try with_reducible rfl) ?_
          go_frame
          refine tk 2 rfl (fun w hSw => by (try dsimp only at hSw); go_simp; try with_reducible rfl) ?_
          go_frame
          refine tk 3 rfl (fun w hSw => by (try dsimp only at hSw); go_simp; try with_reducible rfl) ?_
          go_frame
          refine tk 4 rfl (fun w hSw => by (try dsimp only at hSw); go_simp; try with_reducible rfl) ?_
          go_frame
          refine tk 5 rfl (fun w hSw => by (try dsimp only at hSw); go_simp; try with_reducible rfl) ?_
          go_frame
          refine tk 6 rfl (fun w hSw => by (try dsimp only at hSw); go_simp; try with_reducible rfl) ?_
          go_frame
          refine tk 7 rfl (fun w hSw => by (try dsimp only at hSw); go_simp; try with_reducible rfl) ?_
          go_frame
          refine do_at (i := 8) rfl (by kernel_rfl) (by kernel_rfl) (fun K hK => ?_)
          go_simp
          rw [← HEX.out, ← HEY.out]
          refine (seen_any wd x.v y.v x.R y.R (HXR.out.below HXD.out) (HYR.out.below HXD.out) HLO2.out.1 HLO2.out.2).mono ?_
          rintro e wz ⟨rfl, bz⟩
          have HX2 := Lib.hid (HXD.out.trans (bz.mono HXD.out.size))
          have HW2 := Lib.hid (HW.out.trans (HX2.out.mono HW.out.size))
          clear bz HXR HYR HW
          go_wp2_with fail
          refine hK.out _ _ ?_ (fun hHeld => ?_)
          · exact KEEP.out _ HX2.out
          clear hK K
          try go_frame
          refine tk 9 rfl (fun w hSw => by (try dsimp only at hSw); go_simp; try with_reducible rfl) ?_
          go_frame
          refine wpAnyH_done (by kernel_rfl) ?_ _
          clear hHeld KEEP
          go_wp2
          go_roundg (m - (j + 1))
          case rel => exact ⟨j + 1, by (first | go_num | (refine congrArg _ ?_; unfold wrap64; have := HLTJ.out; have := HM.out.2.1; omega)), HLTJ.out, Nat.le_refl _, HW2⟩
          case measure => have := HLTJ.out; omega
        · have HR6 := Lib.hid (HR5.out.below HW.out)
          have HB6 := Lib.hid (show Below wo.heap.size wo wr from HB5.out.trans (HW.out.mono HB5.out.size))
          replace HR6 := Lib.hid (HR6.out.mono (hi' := wr.heap.size) (Z' := fun _ => False) (Nat.le_trans HS2.out HW.out.size) (fun j _ _ h => h.elim))
          clear HR5 HB5 HW HI7 HI8 hgj hjm
          go_wp2
          go_roundg (30 - (i + 1))
          case rel =>
            have := HLT.out
            exact ⟨i + 1, G2, H2, l2, by (first | go_num | (refine congrArg _ ?_; unfold wrap64; omega)), by omega, by omega, Nat.le_refl _, HL2, HT2, HR6, HB6⟩
          case measure => have := HLT.out; omega
end Go.Proofs.Ytnefamgjlhdffaa.Lab
