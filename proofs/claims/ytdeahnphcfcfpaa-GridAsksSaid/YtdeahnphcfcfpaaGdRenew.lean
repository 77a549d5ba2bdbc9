/- The project's blanks and New. Rows of rows: copied within their own row, cut, put in a region's places; what a grid's turns leave alone. The project's renew. -/
import Derived.Test.YtdeahnphcfcfpaaGdAcc
import Derived.Test.YtdeahnphcfcfpaaGdMem
namespace Go.Proofs.Ytdeahnphcfcfpaa.Lab
open Go Go.RowKit

theorem len_newM (n : Nat) (b : Cel) : (newM n b).length = n := by unfold newM; exact List.length_replicate
set_option maxHeartbeats 4000000 in
theorem blanks_any (w : World) (n m : Nat) (b : Cel) (hn : n ≤ 600) (h1 : 1 ≤ m) (hm : m ≤ 600) : Calls Try.prog 43 #[.int .i64 (n : Nat), .int .i64 (m : Nat), celV b] w fun e w' => ∃ v F, e = .returned v ∧ GRow w' w.heap.size w.heap.size v F ∧ F.map (·.R) = List.replicate n (newM m b) ∧ Fr w.heap.size F ∧ Below w.heap.size w w' := by
  obtain ⟨w0, hw0⟩ : ∃ w0, w0 = w.alloc (.cells #[.int .i32 b.ru, .int .i32 b.m0, .int .i32 b.m1, .int .u8 b.k, .int .u8 b.a.fg.k, .int .u8 b.a.fg.r, .int .u8 b.a.fg.g, .int .u8 b.a.fg.b, .int .u8 b.a.bg.k, .int .u8 b.a.bg.r, .int .u8 b.a.bg.g, .int .u8 b.a.bg.b, .int .u16 (b.a.fl : Nat), .int .u8 b.l] 42) := ⟨_, rfl⟩
  have b0 : Below w.heap.size w w0 := by rw [hw0]; exact (Below.refl _ _).alloc (Nat.le_refl _) _
  have HA0 := Lib.hid (show BAt w0 w.heap.size b by rw [hw0]; exact BAt.newAt w _ rfl b _)
  obtain ⟨z, hz⟩ : ∃ z, z = w.heap.size := ⟨_, rfl⟩
  have HB0 := Lib.hid b0
  have HS0 := Lib.hid (show w.heap.size + 1 ≤ w0.heap.size by rw [hw0]; simp)
  have HZ := Lib.hid (show z = w.heap.size from hz)
  have HG0 := Lib.hid (show GRow w0 w.heap.size (w.heap.size + 1) (.slice none 0 0) [] from GRow.nil _ _ _)
  have HF0 := Lib.hid (Fr.nil w.heap.size)
  have HM0 := Lib.hid (show (([] : List Hd).map (·.R)) = List.replicate 0 (newM m b) from rfl)
  have HH1 := Lib.hid h1
  have HHM := Lib.hid hm
  rw [← hz] at HA0
  clear b0 h1 hm
  go_enter Try.func43, Try.ntmps43
  go_upto_region 1 with (fail)
  rw [← hw0, ← hz]
  clear hw0 hz
  go_wp2
  go_loopg [7, 9] n (fun G v i wr => ∃ (k : Nat) (F : List Hd), i = .int .i64 k ∧ k ≤ n ∧ n - k ≤ G ∧ Hid (GRow wr w.heap.size (w.heap.size + 1) v F) ∧ Hid (F.map (·.R) = List.replicate k (newM m b)) ∧ Hid (Fr w.heap.size F) ∧ Hid (BAt wr z b) ∧ Hid (Below w.heap.size w wr) ∧ Hid (w.heap.size + 1 ≤ wr.heap.size))
  case atStart => exact ⟨0, [], rfl, Nat.zero_le _, Nat.sub_le _ _, HG0, HM0, HF0, HA0, HB0, HS0⟩
  case round =>
    obtain ⟨k, F, rfl, hkn, hgk, HG, HM, HF, HA, HB, HS⟩ := hrel
    clear HG0 HM0 HF0 HA0 HB0 HS0
    by_cases hlt : k < n
    · obtain ⟨_, ⟨y0, y1, y2, y3, y4, y5, y6, y7, y8, y9, y10, y11, y12, y13⟩, _⟩ := HA.out
      go_wp2_with fail
      refine (new_any wr (m : Nat) b (by have := HHM.out; omega) (by omega)).mono ?_
      rintro e w1 ⟨v1, rfl, own1, b1⟩
      rw [Int.toNat_natCast] at own1
      obtain ⟨x, rfl, hxR, hxb, own2⟩ := own1.hd (by rw [len_newM]; exact HH1.out)
      have HX := Lib.hid own2
      have HXR := Lib.hid hxR
      have HXB := Lib.hid hxb
      have HB1 := Lib.hid b1
      have HZ1 := Lib.hid (HB.out.size)
      obtain ⟨q, hq⟩ : ∃ q, q = w1.heap.size := ⟨_, rfl⟩
      obtain ⟨w2, hw2⟩ : ∃ x', x' = w1.alloc (.cells #[hdV x] 26) := ⟨_, rfl⟩
      have b2 : Below w1.heap.size w1 w2 := by rw [hw2]; exact (Below.refl _ _).alloc (Nat.le_refl _) _
      have HI := Lib.hid (show GIn w2 w.heap.size (.slice (some ⟨q, 0, none⟩) 1 1) [x] by rw [hw2]; exact GIn.one (own2.lower HB.out.size) q hq)
      have HG2 := Lib.hid ((HG.out.below b1).below b2)
      have HB2 := Lib.hid ((HB.out.trans (b1.mono HB.out.size)).trans (b2.mono (Nat.le_trans HB.out.size b1.size)))
      have HS2 := Lib.hid (show w.heap.size + 1 ≤ w2.heap.size from Nat.le_trans HS.out (Nat.le_trans b1.size b2.size))
      have HA2 := Lib.hid ((HA.out.below b1).below b2)
      have hlen : F.length + [x].length ≤ 100000 := by
        have := congrArg List.length HM.out
        rw [List.length_map, List.length_replicate] at this
        simp only [List.length_cons, List.length_nil]
        omega
      clear own1 own2 hxR hxb b1 b2 y0 y1 y2 y3 y4 y5 y6 y7 y8 y9 y10 y11 y12 y13 HA
      go_wp2_with (at_builtin; rw [← hw2, ← hq]; clear hw2 hq; refine wpList_append_hds rfl (.tmp 11) (.tmp 15) rfl w.heap.size (w.heap.size + 1) _ F rfl HG2.out _ [x] rfl HI.out hlen HS2.out ?_)
      intro v' w3 own3 grow3
      have HG3 := Lib.hid own3
      have hrow : ∀ j, u7.ownBlock = some j → w.heap.size + 1 ≤ j := fun j hj => (HG2.out.1.lt j hj).1
      have HB3 := Lib.hid (HB2.out.grown grow3 HB2.out.size (fun j hj => Nat.le_of_succ_le (hrow j hj)))
      have HM3 := Lib.hid (show (F ++ [x]).map (·.R) = List.replicate (k + 1) (newM m b) by rw [List.map_append, HM.out, List.replicate_succ', ← HXR.out]; rfl)
      have HF3 := Lib.hid (show Fr w.heap.size (F ++ [x]) from HF.out.snoc (m := wr.heap.size) (fun y hy => (HG.out.2.lt hy).2) HXB.out HZ1.out)
      have HS3 := Lib.hid (show w.heap.size + 1 ≤ w3.heap.size from Nat.le_trans HS2.out grow3.size)
      have hzz : z = w.heap.size ∨ z ≠ w.heap.size := by omega
      have HA3 := Lib.hid (show BAt w3 z b from HA2.out.same grow3.size (grow3.block z HA2.out.1 (fun e => by have := hrow z e.symm; have := HZ.out; omega)))
      clear own3 grow3 hrow hlen HG HM HF HB HG2 HB2 HA2 HI HX HXR HXB HB1 HZ1 hzz HS HS2
      go_wp2
      go_roundg (n - (k + 1))
      case rel => exact ⟨k + 1, F ++ [x], by go_num, by omega, Nat.le_refl _, HG3, HM3, HF3, HA3, HB3, HS3⟩
      case measure => omega
    · obtain rfl : k = n := by omega
      have HV := Lib.hid (HG.out.shape)
      go_wp2
      go_ret
      exact ⟨_, F, rfl, HG.out.lower (Nat.le_refl _) (Nat.le_succ _), HM.out, HF.out, HB.out⟩
set_option maxHeartbeats 4000000 in
theorem gnew_any (w : World) (r c : Int) (b : Cel) (h : canB r c = true) : Calls Try.prog 9 #[.int .i64 r, .int .i64 c, celV b] w fun e w' => ∃ p rb cc F, e = .returned (gV p) ∧ GAt w' w.heap.size p rb cc F ∧ F.map (·.R) = List.replicate r.toNat (newM c.toNat b) ∧ Fr w.heap.size F ∧ Below w.heap.size w w' := by
  have hcan := h
  obtain ⟨n, m, rfl, rfl, hn1, hn2, hm1, hm2⟩ := canB_true h
  clear h
  obtain ⟨w0, hw0⟩ : ∃ w0, w0 = w.alloc (.cells #[.int .i32 b.ru, .int .i32 b.m0, .int .i32 b.m1, .int .u8 b.k, .int .u8 b.a.fg.k, .int .u8 b.a.fg.r, .int .u8 b.a.fg.g, .int .u8 b.a.fg.b, .int .u8 b.a.bg.k, .int .u8 b.a.bg.r, .int .u8 b.a.bg.g, .int .u8 b.a.bg.b, .int .u16 (b.a.fl : Nat), .int .u8 b.l] 42) := ⟨_, rfl⟩
  have b0 : Below w.heap.size w w0 := by rw [hw0]; exact (Below.refl _ _).alloc (Nat.le_refl _) _
  have HA0 := Lib.hid (show BAt w0 w.heap.size b by rw [hw0]; exact BAt.newAt w _ rfl b _)
  have HB0 := Lib.hid b0
  have HC := Lib.hid hcan
  have HLE := Lib.hid (show n ≤ 600 ∧ 1 ≤ m ∧ m ≤ 600 ∧ 0 < n by omega)
  clear b0 hcan hn1 hn2 hm1 hm2
  go_enter Try.func9, Try.ntmps9
  go_upto_region 1 with (fail)
  rw [← hw0]
  clear hw0
  go_wp2_with fail
  refine (canBe_any w0 (n : Nat) (m : Nat)).mono ?_
  rintro e w' ⟨rfl, rfl⟩
  rw [HC.out]
  obtain ⟨_, ⟨y0, y1, y2, y3, y4, y5, y6, y7, y8, y9, y10, y11, y12, y13⟩, _⟩ := HA0.out
  go_wp2_with fail
  refine (blanks_any w0 n m b HLE.out.1 HLE.out.2.1 HLE.out.2.2.1).mono ?_
  rintro e w1 ⟨v, F, rfl, own1, hm, hf, b1⟩
  have hl : F.length = n := by
    have := congrArg List.length hm
    rwa [List.length_map, List.length_replicate] at this
  obtain ⟨rb, cc, rfl, hrb, _⟩ := own1.here (by rw [hl]; exact HLE.out.2.2.2)
  obtain ⟨p, hp⟩ : ∃ p, p = w1.heap.size := ⟨_, rfl⟩
  obtain ⟨w2, hw2⟩ : ∃ x, x = w1.alloc (.cells #[.slice (some ⟨rb, 0, none⟩) F.length cc] 96) := ⟨_, rfl⟩
  have b2 : Below w1.heap.size w1 w2 := by rw [hw2]; exact (Below.refl _ _).alloc (Nat.le_refl _) _
  have hbb : w.heap.size ≤ w1.heap.size := Nat.le_trans HB0.out.size b1.size
  have HGA := Lib.hid (show GAt w2 w.heap.size p rb cc F from ⟨by rw [hp]; exact hbb, by rw [hw2, hp]; exact World.alloc_heap_new w1 _, (own1.lower HB0.out.size HB0.out.size).below b2⟩)
  have HB2 := Lib.hid ((HB0.out.trans (b1.mono HB0.out.size)).trans (b2.mono hbb))
  have HM := Lib.hid hm
  have HF := Lib.hid (hf.mono HB0.out.size)
  have HL := Lib.hid hl
  clear own1 hm hf b1 b2 hbb hrb hl y0 y1 y2 y3 y4 y5 y6 y7 y8 y9 y10 y11 y12 y13
  go_wp2
  rw [← hw2, ← hp]
  clear hw2 hp
  go_ret
  exact ⟨p, rb, cc, F, rfl, HGA.out, by rw [Int.toNat_natCast, Int.toNat_natCast]; exact HM.out, HF.out, HB2.out⟩
set_option maxHeartbeats 4000000 in
theorem gnew_none (w : World) (r c : Int) (b : Cel) (h : canB r c = false) : Calls Try.prog 9 #[.int .i64 r, .int .i64 c, celV b] w fun e w' => e = .returned (.pointer none) ∧ Below w.heap.size w w' := by
  obtain ⟨w0, hw0⟩ : ∃ w0, w0 = w.alloc (.cells #[.int .i32 b.ru, .int .i32 b.m0, .int .i32 b.m1, .int .u8 b.k, .int .u8 b.a.fg.k, .int .u8 b.a.fg.r, .int .u8 b.a.fg.g, .int .u8 b.a.fg.b, .int .u8 b.a.bg.k, .int .u8 b.a.bg.r, .int .u8 b.a.bg.g, .int .u8 b.a.bg.b, .int .u16 (b.a.fl : Nat), .int .u8 b.l] 42) := ⟨_, rfl⟩
  have HB0 := Lib.hid (show Below w.heap.size w w0 by rw [hw0]; exact (Below.refl _ _).alloc (Nat.le_refl _) _)
  have HC := Lib.hid h
  clear h
  go_enter Try.func9, Try.ntmps9
  go_upto_region 1 with (fail)
  rw [← hw0]
  clear hw0
  go_wp2_with fail
  refine (canBe_any w0 r c).mono ?_
  rintro e w' ⟨rfl, rfl⟩
  rw [HC.out]
  go_wp2
  go_ret
  exact ⟨rfl, HB0.out⟩

theorem wp_copy_hds {o : Oper} {a : Act} {w : World} {K : Act → World → Prop} {Q : Exit → Act → World → Prop} (d s : Operand)
    (hop : o.op = Op.call { callee := Callee.builtin Builtin.copy, args := #[d, s], argTypes := #[27, 27] })
    (lo base g n c : Nat) (H : List Hd) (hown : GRow w lo base (.slice (some ⟨g, 0, none⟩) n c) H) (hn : n = H.length)
    (u : Value) (S : List Hd) (hs : a.eval s = u) (hr : GIn w lo u S)
    (p m cm : Nat) (ad : Option Addr) (hd : a.eval d = .slice ad m cm) (hp : p + S.length ≤ H.length) (hm : S.length ≤ m) (hA : 0 < m → ad = some ⟨g, p, none⟩)
    (hK : ∀ w', GRow w' lo base (.slice (some ⟨g, 0, none⟩) n c) (placeH H p S) → But g w w' → K (a.put o.dst (goInt S.length)) w') :
    Oper.wp Try.prog o a w K Q := by
  obtain ⟨ib, hi, hz0, hz1, hz2⟩ := info_parts infoHds
  have hsz : (Try.prog.info? 26).map (·.size) = some 1 := by rw [hi]; simp [hz1]
  obtain ⟨ua, uc, e, _, _, hh, hok⟩ := hr
  subst e
  by_cases h0 : S.length = 0
  · obtain rfl : S = [] := List.length_eq_zero_iff.1 h0
    have hrun := run_copy_zero (P := Try.prog) w 27 27 o.type 26 ad ua m cm 0 uc Try.underlying27 (by rw [hsz]; rfl) (by simp)
    unfold Oper.wp
    simp only [List.length_nil] at hs
    simp [execOp, hop, resolve, invoke, builtin, hs, hd, hrun, Result.andThen]
    exact hK w (by rw [placeH_nil]; exact hown) (But.refl g w)
  · obtain rfl := hA (by omega)
    obtain ⟨g2, o2, rfl, _, hC⟩ := hh (by omega)
    obtain ⟨cur, hg, hfit, hnew⟩ := hown.over hn hok hp
    have hrun := run_copy_sized (P := Try.prog) w 27 27 o.type 26 1 g p m cm ⟨g2, o2, none⟩ S.length uc cur _ (S.map hdV) S.length Try.underlying27 hsz hg (by simp [Nat.min_eq_left hm]) (by simp) (fun j y hj => by
      have hjl : j < S.length := by
        have := (List.getElem?_eq_some_iff.1 hj).1
        simpa using this
      rw [Addr.add_mid, hC j hjl]
      rw [map_hd hjl] at hj
      exact hj) hfit (one_hds S)
    unfold Oper.wp
    simp [execOp, hop, resolve, invoke, builtin, hs, hd, hrun, Result.andThen]
    exact hK _ (by simpa using hnew) (But.setRow w g _)
theorem Buts.cellK {S : Nat → Prop} {w w' : World} (h : Buts S w w') {a : Addr} {v : Value} (hc : w.cell? a = some v) (hn : ¬ S a.block) : w'.cell? a = some v :=
  (World.cell?_of_block (h.block a.block (World.block_lt_of_cell? w a hc) hn)).trans hc
/-- s[i:] of a region. -/
theorem hds_tail (ad : Option Addr) (g o m i : Nat) (hA : 0 < m → ad = some ⟨g, o, none⟩) (hi : i ≤ m) (hn : m = 0 → ad = none) : ∃ a', (∀ w, (Instr.sliceAt 27 (.slice ad m m) (some (.int .i64 (i : Nat))) none none).run Try.prog w = .ok (.slice a' (m - i) (m - i)) w) ∧ (0 < m - i → a' = some ⟨g, o + i, none⟩) := by
  by_cases h0 : m = 0
  · subst h0
    obtain rfl := hn rfl
    obtain rfl : i = 0 := by omega
    refine ⟨none, fun w => ?_, fun h => by omega⟩
    rw [run_sliceAt_slice w 27 _ _ _ _ unH, run_slice_l (P := Try.prog) (w := w) (t := 27) (ht := unH) (kl := .i64) (l := ((0 : Nat) : Int)) (h0 := by omega) (h1 := by omega), elH, szH]
    simp [Result.andThen, sliced]
  · obtain rfl := hA (by omega)
    exact hds_from g o m m i hi (Nat.le_refl _)
theorem GRow.buts {w w' : World} {lo base g n c : Nat} {H : List Hd} {S : Nat → Prop} (h : GRow w lo base (.slice (some ⟨g, 0, none⟩) n c) H) (k : Buts S w w') (hg : ¬ S g) (hS : ∀ x ∈ H, ¬ S x.b) : GRow w' lo base (.slice (some ⟨g, 0, none⟩) n c) H := by
  refine ⟨⟨h.1.1, ?_⟩, h.2.buts k hS⟩
  rcases h.1.2 with ⟨e, _⟩ | ⟨g', cap, cur, e, hb, hgg, rest⟩
  · cases e
  · have e' := e
    injection e' with e1 _ _
    injection e1 with e1
    injection e1 with e1
    exact .inr ⟨g', cap, cur, e, hb, (k.block g' (Array.getElem?_eq_some_iff.1 hgg).1 (by rw [← e1]; exact hg)).trans hgg, rest⟩
/-- What a grid's own turns leave of other rows of rows. -/
theorem GRow.aside {w w' : World} {lo base : Nat} {v : Value} {H : List Hd} {rb : Nat} (h : GRow w lo base v H) (k : Buts (· = rb) w w') (hrb : ∃ cur, w.heap[rb]? = some (.cells cur 26 (0, 0))) (hb : ∀ g, v.ownBlock = some g → g ≠ rb) : GRow w' lo base v H := by
  have hrow : ∀ x ∈ H, ¬ x.b = rb := by
    rintro x hx rfl
    obtain ⟨cu, hc⟩ := (h.2 x hx).type
    obtain ⟨cur, hg⟩ := hrb
    rw [hc] at hg
    injection hg with hg
    injection hg with _ hg
    exact absurd hg (by decide)
  rcases h.1.2 with ⟨rfl, h0⟩ | ⟨g, cap, cur, rfl, _⟩
  · obtain rfl : H = [] := List.length_eq_zero_iff.1 h0
    exact GRow.nil _ _ _
  · exact h.buts k (hb g rfl) hrow
theorem placeH_snoc {H F : List Hd} {o : Nat} {x : Hd} (h : o + F.length < H.length) : (placeH H o F).set (o + F.length) x = placeH H o (F ++ [x]) := by
  have hl : (H.take o ++ F).length = o + F.length := by rw [List.length_append, List.length_take]; omega
  have e : placeH H o F = (H.take o ++ F) ++ H[o + F.length] :: H.drop (o + F.length + 1) := by
    unfold placeH
    rw [← List.append_assoc, drop_cons h]
  have e2 : placeH H o (F ++ [x]) = (H.take o ++ F) ++ [x] ++ H.drop (o + F.length + 1) := by
    unfold placeH
    simp only [List.length_append, List.length_cons, List.length_nil, List.append_assoc, Nat.zero_add, Nat.add_assoc]
  have q := set_mid (H.take o ++ F) (H.drop (o + F.length + 1)) H[o + F.length] x
  rw [hl] at q
  rw [e, e2]
  exact q
theorem placeH_at {H F : List Hd} {o i : Nat} (h : o + F.length ≤ i) (hi : i < H.length) : (placeH H o F)[i]? = H[i]? := by
  have hl : (H.take o ++ F).length = o + F.length := by rw [List.length_append, List.length_take]; omega
  unfold placeH
  rw [← List.append_assoc, List.getElem?_append_right (by omega), List.getElem?_drop, hl]
  congr 1
  omega
theorem place_up {H X F : List Hd} {o q : Nat} (hX : o + X.length ≤ H.length) (hF : F.length = q) (hq : q ≤ X.length) : placeH (placeH H o (X.drop q)) (o + (X.length - q)) F = H.take o ++ (X.drop q ++ F) ++ H.drop (o + X.length) := by
  have hl : (H.take o ++ X.drop q).length = o + (X.length - q) := by rw [List.length_append, List.length_take, List.length_drop]; omega
  have e : placeH H o (X.drop q) = (H.take o ++ X.drop q) ++ H.drop (o + (X.length - q)) := by
    unfold placeH
    rw [List.length_drop, List.append_assoc]
  rw [e]
  unfold placeH
  rw [← hl, List.take_left, List.drop_append, hF, List.drop_of_length_le (show (H.take o ++ X.drop q).length ≤ (H.take o ++ X.drop q).length + q by omega), List.nil_append, List.drop_drop, hl, List.append_assoc, List.append_assoc, List.append_assoc]
  congr 4
  omega
theorem place_down {H X F : List Hd} {o q : Nat} (hX : o + X.length ≤ H.length) (hF : F.length = q) (hq : q ≤ X.length) : placeH (placeH H (o + q) (X.take (X.length - q))) o F = H.take o ++ (F ++ X.take (X.length - q)) ++ H.drop (o + X.length) := by
  have ht : (X.take (X.length - q)).length = X.length - q := by rw [List.length_take]; omega
  unfold placeH
  rw [ht, hF, List.take_append_of_le_length (show o ≤ (H.take (o + q)).length by rw [List.length_take]; omega), List.take_take, Nat.min_eq_left (show o ≤ o + q by omega), List.drop_append_of_le_length (show o + q ≤ (H.take (o + q)).length by rw [List.length_take]; omega), List.drop_of_length_le (show (H.take (o + q)).length ≤ o + q by rw [List.length_take]; omega), List.nil_append, List.append_assoc, List.append_assoc, show o + q + (X.length - q) = o + X.length by omega]

set_option maxHeartbeats 4000000 in
theorem renew_any (w : World) (lo p rb c o m cm cols : Nat) (ad : Option Addr) (H : List Hd) (b : Cel) (h : GAt w lo p rb c H) (hlo : lo ≤ w.heap.size) (hm : o + m ≤ H.length) (hH : H.length ≤ 600) (hA : 0 < m → ad = some ⟨rb, o, none⟩) (hR : ∀ x ∈ H, x.R.length = cols) (hc1 : 1 ≤ cols) (hc2 : cols ≤ 600) :
    Calls Try.prog 59 #[.slice ad m cm, celV b] w fun e w' => e = .returned (.tuple #[]) ∧ (∃ F : List Hd, F.length = m ∧ F.map (·.R) = List.replicate m (newM cols b) ∧ Fr w.heap.size F ∧ GAt w' lo p rb c (placeH H o F)) ∧ Buts (· = rb) w w' := by
  obtain ⟨w0, hw0⟩ : ∃ w0, w0 = w.alloc (.cells #[.int .i32 b.ru, .int .i32 b.m0, .int .i32 b.m1, .int .u8 b.k, .int .u8 b.a.fg.k, .int .u8 b.a.fg.r, .int .u8 b.a.fg.g, .int .u8 b.a.fg.b, .int .u8 b.a.bg.k, .int .u8 b.a.bg.r, .int .u8 b.a.bg.g, .int .u8 b.a.bg.b, .int .u16 (b.a.fl : Nat), .int .u8 b.l] 42) := ⟨_, rfl⟩
  have b0 : Below w.heap.size w w0 := by rw [hw0]; exact (Below.refl _ _).alloc (Nat.le_refl _) _
  obtain ⟨z, hz⟩ : ∃ z, z = w.heap.size := ⟨_, rfl⟩
  have HA0 := Lib.hid (show BAt w0 z b by rw [hw0, hz]; exact BAt.newAt w _ rfl b _)
  have HG0 := Lib.hid (show GAt w0 lo p rb c (placeH H o []) by rw [placeH_nil]; exact h.below b0)
  have HB0 := Lib.hid (show Buts (· = rb) w w0 from Buts.of b0)
  have HF0 := Lib.hid (Fr.nil w.heap.size)
  have HZ := Lib.hid (show z ≠ rb by have := h.lt; omega)
  have HA' := Lib.hid hA
  have HRR := Lib.hid hR
  have HHM := Lib.hid hm
  have HHL := Lib.hid hH
  have HHC := Lib.hid (show 1 ≤ cols ∧ cols ≤ 600 from ⟨hc1, hc2⟩)
  have HHLO := Lib.hid hlo
  have hm6 : m ≤ 600 := by omega
  clear b0 h hA hR hm hc1 hc2 hlo hH
  go_enter Try.func59, Try.ntmps59
  go_upto_region 1 with (fail)
  rw [← hw0, ← hz]
  clear hw0 hz
  go_wp2
  go_loopg [8] m (fun G i wr => ∃ (k : Nat) (F : List Hd), i = .int .i64 k ∧ k ≤ m ∧ m - k ≤ G ∧ F.length = k ∧ Hid (F.map (·.R) = List.replicate k (newM cols b)) ∧ Hid (Fr w.heap.size F) ∧ Hid (GAt wr lo p rb c (placeH H o F)) ∧ Hid (BAt wr z b) ∧ Hid (Buts (· = rb) w wr))
  case atStart => exact ⟨0, [], rfl, Nat.zero_le _, Nat.sub_le _ _, rfl, Lib.hid rfl, HF0, HG0, HA0, HB0⟩
  case round =>
    obtain ⟨k, F, rfl, hkm, hgk, hFk, HM, HF, HG, HA, HB⟩ := hrel
    clear HF0 HG0 HA0 HB0
    by_cases hlt : k < m
    · obtain rfl := HA'.out (by omega)
      obtain ⟨_, ⟨y0, y1, y2, y3, y4, y5, y6, y7, y8, y9, y10, y11, y12, y13⟩, _⟩ := HA.out
      have hok : o + k < H.length := by have := HHM.out; omega
      have hpl : (placeH H o F).length = H.length := len_placeH (by omega)
      obtain ⟨y, hy⟩ : ∃ y, y = hdAt (placeH H o F) (o + k) := ⟨_, rfl⟩
      have hyc : y.R.length = cols := by
        rw [hy]
        unfold hdAt
        rw [List.getD_eq_getElem?_getD, placeH_at (by omega) hok, List.getElem?_eq_getElem hok]
        exact HRR.out _ (List.getElem_mem hok)
      have hcell : wr.cell? ⟨rb, o + k, none⟩ = some (hdV y) := by rw [hy]; exact HG.out.head (by rw [hpl]; exact hok)
      have HFZ := Lib.hid (fun j => HG.out.2.2.frozen rfl j)
      have LRB := Lib.hid HG.out.lt.2.1
      have HYC := Lib.hid hyc
      have HCE := Lib.hid hcell
      have HOK := Lib.hid hok
      have HFK := Lib.hid hFk
      clear hy hpl hyc hok hFk
      go_wp2_with fail
      rw [HYC.out]
      refine (new_any wr (cols : Nat) b (by have := HHC.out; omega) (by omega)).mono ?_
      rintro e w1 ⟨v1, rfl, own1, b1⟩
      rw [Int.toNat_natCast] at own1
      obtain ⟨x, rfl, hxR, hxb, own2⟩ := own1.hd (by rw [len_newM]; exact HHC.out.1)
      have hc1 : w1.cell? ⟨rb, o + k, none⟩ = some (hdV y) := (b1.cell (p := ⟨rb, o + k, none⟩) LRB.out).trans HCE.out
      have hf1 : w1.frozen? ⟨rb, o + k, none⟩ = false := (b1.frozen (p := ⟨rb, o + k, none⟩) LRB.out).trans (HFZ.out _)
      obtain ⟨w2, hw2⟩ : ∃ W2, W2 = w1.setCell ⟨rb, o + k, none⟩ (hdV x) := ⟨_, rfl⟩
      have bs := But.set w1 rb (o + k) (hdV x)
      have HG2 := Lib.hid (show GAt w2 lo p rb c (placeH H o (F ++ [x])) by
        have := (HG.out.below b1).put (o + k) (own2.lower (Nat.le_trans HHLO.out HB.out.size))
        have e := placeH_snoc (H := H) (F := F) (o := o) (x := x) (by have := HFK.out; have := HOK.out; omega)
        rw [HFK.out] at e
        rw [e] at this
        rw [hw2]
        exact this)
      have HB2 := Lib.hid (show Buts (· = rb) w w2 by rw [hw2]; exact (HB.out.trans (Buts.of b1)).trans (Buts.but bs rfl))
      have HA2 := Lib.hid (show BAt w2 z b by rw [hw2]; exact (HA.out.below b1).but bs HZ.out)
      have HM2 := Lib.hid (show (F ++ [x]).map (·.R) = List.replicate (k + 1) (newM cols b) by rw [List.map_append, HM.out, List.replicate_succ', ← hxR]; rfl)
      have HF2 := Lib.hid (show Fr w.heap.size (F ++ [x]) from HF.out.snoc (m := wr.heap.size) (fun y' hy' => (HG.out.2.2.2.lt (List.mem_append_right _ (List.mem_append_left _ hy'))).2) hxb HB.out.size)
      have HL2 := Lib.hid (show (F ++ [x]).length = k + 1 by rw [List.length_append, HFK.out]; rfl)
      clear own1 own2 hxR hxb b1 bs y0 y1 y2 y3 y4 y5 y6 y7 y8 y9 y10 y11 y12 y13 HA HM HF HG HB hcell HCE
      go_wp2
      rw [← hw2]
      clear hw2 hc1 hf1
      go_roundg (m - (k + 1))
      case rel => exact ⟨k + 1, F ++ [x], by go_num, by omega, Nat.le_refl _, HL2.out, HM2, HF2, HG2, HA2, HB2⟩
      case measure => omega
    · obtain rfl : k = m := by omega
      have HFK := Lib.hid hFk
      clear hFk
      go_wp2
      go_end0
      exact ⟨rfl, ⟨F, HFK.out, HM.out, HF.out, HG.out⟩, HB.out⟩
end Go.Proofs.Ytdeahnphcfcfpaa.Lab
