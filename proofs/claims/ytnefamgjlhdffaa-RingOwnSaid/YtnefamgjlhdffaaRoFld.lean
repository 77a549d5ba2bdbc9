/- The reference's filled. -/
import Derived.Test.YtnefamgjlhdffaaRoPut
namespace Go.Proofs.Ytnefamgjlhdffaa.Lab
open Go Go.RowKit

def put5 (w : World) (b : Nat) (d : Dc) : World := ((((w.setCell ⟨b, 0, none⟩ (.int .u8 (d.ru : Nat))).setCell ⟨b, 1, none⟩ (.int .u8 (d.ms : Nat))).setCell ⟨b, 2, none⟩ (.int .u8 (d.at1 : Nat))).setCell ⟨b, 3, none⟩ (.bool d.wide)).setCell ⟨b, 4, none⟩ (.bool d.high)
theorem put5_but (w : World) (b : Nat) (d : Dc) : But b w (put5 w b d) := ((((But.set w b 0 _).trans (But.set _ b 1 _)).trans (But.set _ b 2 _)).trans (But.set _ b 3 _)).trans (But.set _ b 4 _)
/-- A draft in a block that can be written. -/
def DW (w : World) (b : Nat) (d : Dc) : Prop := DAt w b d ∧ ∀ i, w.frozen? ⟨b, i, none⟩ = false
theorem DW.same {w w' : World} {b : Nat} {d : Dc} (h : DW w b d) (hs : w.heap.size ≤ w'.heap.size) (e : w'.heap[b]? = w.heap[b]?) : DW w' b d := ⟨h.1.same hs e, fun i => (World.frozen?_of_block (a := ⟨b, i, none⟩) e).trans (h.2 i)⟩
theorem DW.below {w w' : World} {b : Nat} {d : Dc} (h : DW w b d) (hb : Below w.heap.size w w') : DW w' b d := h.same hb.size (hb.block b h.1.1)
theorem DW.newAt (w : World) (n : Nat) (hn : n = w.heap.size) (d : Dc) (T : TypeId) : DW (w.alloc (.cells #[.int .u8 (d.ru : Nat), .int .u8 (d.ms : Nat), .int .u8 (d.at1 : Nat), .bool d.wide, .bool d.high] T)) n d := ⟨DAt.newAt w n hn d T, fun i => by subst hn; simp⟩
theorem DW.put {w : World} {b : Nat} {d0 : Dc} (h : DW w b d0) (d : Dc) : DW (put5 w b d) b d := by
  obtain ⟨⟨h0, a0, a1, a2, a3, a4⟩, hf⟩ := h
  refine ⟨⟨by simpa [put5] using h0, ?_, ?_, ?_, ?_, ?_⟩, fun i => by simp [put5, hf i]⟩
  all_goals (unfold put5; simp [World.cell?_setCell_other, World.cell?_setCell_same', a0, a1, a2, a3, a4])
/-- The levels laid, up to the k-th. -/
def layK (labs : List Int) (k : Nat) : Cls := (List.range labs.length).map fun i => if i < k then { Cel.z with l := labs.getD i 0 } else Cel.z
theorem layK_len (labs : List Int) (k : Nat) : (layK labs k).length = labs.length := by simp [layK]
theorem gc_layK {labs : List Int} (k : Nat) {i : Nat} (h : i < labs.length) : gc (layK labs k) i = if i < k then { Cel.z with l := labs.getD i 0 } else Cel.z := by
  rw [gc_eq (by rw [layK_len]; exact h)]
  simp [layK]
theorem layK_zero (labs : List Int) : layK labs 0 = newM labs.length Cel.z := by
  refine ext_gc (by rw [layK_len]; simp [newM]) fun i hi => ?_
  rw [layK_len] at hi
  rw [gc_layK 0 hi, if_neg (Nat.not_lt_zero _), newM, gc_rep hi]
theorem layK_succ {labs : List Int} {k : Nat} (hk : k < labs.length) : layK labs (k + 1) = (layK labs k).set k { Cel.z with l := labs.getD k 0 } := by
  refine ext_gc (by rw [List.length_set, layK_len, layK_len]) fun i hi => ?_
  rw [layK_len] at hi
  rw [gc_layK _ hi, gc_set (by rw [layK_len]; exact hi), gc_layK _ hi]
  by_cases e : i = k
  · subst e
    rw [if_pos (Nat.lt_succ_self _), if_pos rfl]
  · rw [if_neg e]
    by_cases e2 : i < k
    · rw [if_pos (by omega), if_pos e2]
    · rw [if_neg (by omega), if_neg e2]
theorem layK_all (labs : List Int) : layK labs labs.length = fill0 labs := by
  refine ext_gc (by rw [layK_len]; simp [fill0]) fun i hi => ?_
  rw [layK_len] at hi
  rw [gc_layK _ hi, if_pos hi, gc_fill0 hi]
theorem DsIn.okAt {w : World} {v : Value} {L : List Dc} (h : DsIn w v L) {i : Nat} (hi : i < L.length) : (L.getD i Dc.z).ok := by
  obtain ⟨_, _, _, _, ho, _⟩ := h
  refine ho _ ?_
  rw [List.getD_eq_getElem?_getD, List.getElem?_eq_getElem hi]
  exact List.getElem_mem hi
set_option maxHeartbeats 16000000 in
set_option maxRecDepth 100000 in
theorem rfilled_any (w : World) (lo0 : Nat) (v u u' : Value) (labs : List Int) (L O : List Dc) (hv : LRow w lo0 v labs) (hu : DsIn w u L) (hu' : DsIn w u' O) (hl : labs.length ≤ 100) :
    Calls Try.prog 46 #[v, u, u'] w fun e w' => ∃ r, e = .returned r ∧ CRow w' w.heap.size r (fillM labs L O) ∧ Below w.heap.size w w' := by
  obtain ⟨va, vc, rfl⟩ := hv.shape
  obtain ⟨ua, uc, rfl⟩ := hu.shape
  obtain ⟨oa, oc, rfl⟩ := hu'.shape
  obtain ⟨n, hn⟩ : ∃ n, n = labs.length := ⟨_, rfl⟩
  obtain ⟨m, hm⟩ : ∃ m, m = L.length := ⟨_, rfl⟩
  obtain ⟨m', hm'⟩ : ∃ m, m = O.length := ⟨_, rfl⟩
  have HN := Lib.hid hn
  have HM := Lib.hid hm
  have HM' := Lib.hid hm'
  have HV := Lib.hid hv
  have HU := Lib.hid hu
  have HO := Lib.hid hu'
  rw [← hn] at HV hl ⊢
  rw [← hm] at HU ⊢
  rw [← hm'] at HO ⊢
  have CN := Lib.hid (rnew_any w (n : Int) Cel.z (by omega))
  clear hn hm hm' hv hu hu'
  go_enter Try.func46, Try.ntmps46
  go_wp2_with fail
  refine CN.out.mono ?_
  rintro e w1 ⟨r, rfl, R1, b1⟩
  rw [Int.toNat_natCast, HN.out, ← layK_zero] at R1
  obtain ⟨ra, rc, rfl⟩ := R1.shape
  rw [layK_len, ← HN.out] at R1 ⊢
  have HR1 := Lib.hid R1
  have HB1 := Lib.hid b1
  clear R1 b1 CN
  go_wp2
  go_loopg [8] n (fun G i wr => ∃ k : Nat, i = .int .i64 k ∧ k ≤ n ∧ n - k ≤ G ∧ Hid (CRow wr w.heap.size (.slice ra n rc) (layK labs k)) ∧ Hid (Below w.heap.size w wr))
  case atStart => exact ⟨0, rfl, Nat.zero_le _, Nat.sub_le _ _, HR1, HB1⟩
  case round =>
    clear HR1 HB1
    obtain ⟨k, rfl, hkn, hgk, HR, HB⟩ := hrel
    by_cases hlt : k < n
    · obtain ⟨g, c', e, hgl, _⟩ := HR.out.here (by rw [layK_len, ← HN.out]; omega)
      injection e with e1 e2 e3
      subst e1
      clear e2 e3
      obtain ⟨gl, rfl, _, hgw, hlc⟩ := HV.out.cell (by rw [← HN.out]; omega)
      have y0 := (HB.out.cell (p := ⟨gl, k, none⟩) hgw).trans (hlc k (by rw [← HN.out]; exact hlt))
      obtain ⟨lk, hlk⟩ : ∃ l, l = labs.getD k 0 := ⟨_, rfl⟩
      have HLK := Lib.hid hlk
      rw [← hlk] at y0
      have hkL : k < (layK labs k).length := by rw [layK_len, ← HN.out]; exact hlt
      obtain ⟨wn, hwn⟩ : ∃ wn, wn = wr.setCell ⟨g, k * 14 + 13, none⟩ (.int .u8 lk) := ⟨_, rfl⟩
      have HRN := Lib.hid (show CRow wn w.heap.size (.slice (some ⟨g, 0, none⟩) n rc) (layK labs (k + 1)) by
        rw [hwn, layK_succ (by rw [← HN.out]; exact hlt), ← HLK.out]
        exact HR.out.fld (by rw [layK_len]; exact HN.out) hkL (by decide) (by rw [gc_layK k (by rw [← HN.out]; exact hlt), if_neg (Nat.lt_irrefl k)]; rfl))
      have HBN := Lib.hid (show Below w.heap.size w wn by rw [hwn]; exact HB.out.setCell hgl _)
      obtain ⟨b0, b1, b2, b3, b4, b5, b6, b7, b8, b9, b10, b11, b12, b13⟩ := HR.out.at hkL
      have bf := HR.out.frozen (by rw [layK_len]; exact HN.out) (k * 14 + 13)
      clear hgw hlc hlk hkL HR HB hgl b0 b1 b2 b3 b4 b5 b6 b7 b8 b9 b10 b11 b12
      go_wp2
      rw [← hwn]
      clear hwn bf b13 y0
      go_roundg (n - (k + 1))
      case rel => exact ⟨k + 1, by go_num, by omega, Nat.le_refl _, HRN, HBN⟩
      case measure => omega
    · have hk' : k = n := by omega
      subst hk'
      have HR0 := Lib.hid (show CRow wr w.heap.size (.slice ra k rc) (fillK labs L O 0) by have := HR.out; rw [HN.out, layK_all] at this; rw [HN.out]; exact this)
      clear HR
      clear hlt hkn
      go_wp2
      go_loopg [7, 9] k (fun G r i wr => ∃ j : Nat, i = .int .i64 j ∧ j ≤ k ∧ k - j ≤ G ∧ (j = 0 ∨ 0 < m) ∧ Hid (CRow wr w.heap.size r (fillK labs L O j)) ∧ Hid (Below w.heap.size w wr))
      case atStart => exact ⟨0, rfl, Nat.zero_le _, Nat.sub_le _ _, .inl rfl, HR0, HB⟩
      case round =>
        clear HR0 HB
        obtain ⟨j, rfl, hjk, hgj, hjm, HR, HB⟩ := hrel
        have HI := Lib.hid (fillK_inv labs L O j (by rw [← HN.out]; exact hjk))
        obtain ⟨xa, xc, rfl⟩ := HR.out.shape
        rw [HI.out.1, ← HN.out] at HR ⊢
        by_cases hlt : j < k
        rotate_left
        · have hjk' : j = k := by omega
          have HE := Lib.hid (show fillM labs L O = fillK labs L O j by
            unfold fillM
            split
            · rename_i e
              rcases hjm with e0 | e0
              · rw [e0]; rfl
              · rw [HM.out] at e0; omega
            · rw [hjk', HN.out])
          clear hjm
          go_wp2
          go_ret
          exact ⟨_, rfl, by rw [HE.out]; exact HR.out, HB.out⟩
        by_cases hm0 : m = 0
        · have HE := Lib.hid (show fillM labs L O = fillK labs L O j by
            unfold fillM
            rw [if_pos (by rw [← HM.out]; exact hm0)]
            rcases hjm with e0 | e0
            · rw [e0]; rfl
            · omega)
          subst hm0
          clear hjm
          go_wp2
          go_ret
          exact ⟨_, rfl, by rw [HE.out]; exact HR.out, HB.out⟩
        have hmp : 0 < m := by omega
        have nz : ¬ (m : Int) = 0 := by omega
        clear hjm
        obtain ⟨R0, hR0⟩ : ∃ R, R = fillK labs L O j := ⟨_, rfl⟩
        have HR0 := Lib.hid hR0
        rw [← hR0] at HR HI
        clear hR0
        obtain ⟨g, c', e, hgl, hgw⟩ := HR.out.here (by rw [HI.out.1, ← HN.out]; omega)
        injection e with e1 e2 e3
        subst e1
        clear e2 e3
        obtain ⟨gl, rfl, _, hlw, hlc⟩ := HV.out.cell (by rw [← HN.out]; omega)
        have y0 := (HB.out.cell (p := ⟨gl, j, none⟩) hlw).trans (hlc j (by rw [← HN.out]; exact hlt))
        obtain ⟨lj, hlj⟩ : ∃ l, l = labs.getD j 0 := ⟨_, rfl⟩
        have HLJ := Lib.hid hlj
        rw [← hlj] at y0
        have HLC := Lib.hid (show ∀ i, i < k → ∀ W, Below w.heap.size w W → W.cell? ⟨gl, i, none⟩ = some (.int .u8 (labs.getD i 0)) from fun i hi W hb => (hb.cell (p := ⟨gl, i, none⟩) hlw).trans (hlc i (by rw [← HN.out]; exact hi)))
        have HGL := Lib.hid (show w.heap.size ≤ g from hgl)
        obtain ⟨s, hs⟩ : ∃ s, s = j % m := ⟨_, rfl⟩
        have HSE := Lib.hid hs
        have hsm : s < m := by rw [hs]; exact Nat.mod_lt _ hmp
        have hsj : s ≤ j := by rw [hs]; exact Nat.mod_le _ _
        have t1 : (j : Int).tmod (m : Int) = (s : Int) := by rw [Int.tmod_eq_emod_of_nonneg (by omega), hs]; rfl
        have t2 : (j : Int) % (m : Int) = (s : Int) := by rw [hs]; rfl
        have t3 : IntKind.i64.wrap (s : Int) = (s : Int) := by rw [IntKind.wrap_i64]; omega
        obtain ⟨gd, od, cd, e, hdw, hdc⟩ := HU.out.open (by rw [← HM.out]; omega)
        injection e with e1 e2 e3
        subst e1
        clear e2 e3
        have hd := hdc s (by rw [← HM.out]; exact hsm)
        have hdok := HU.out.okAt (i := s) (by rw [← HM.out]; exact hsm)
        obtain ⟨d0, hd0⟩ : ∃ d, d = L.getD s Dc.z := ⟨_, rfl⟩
        have HD0 := Lib.hid hd0
        rw [← hd0] at hd hdok
        have HDO := Lib.hid hdok
        replace hd := hd.same (HB.out.block gd hdw)
        obtain ⟨x0, x1, x2, x3, x4⟩ := hd
        obtain ⟨z, hz⟩ : ∃ z, z = wr.heap.size := ⟨_, rfl⟩
        obtain ⟨wb, hwb⟩ : ∃ wb, wb = wr.alloc (.cells #[.int .u8 (d0.ru : Nat), .int .u8 (d0.ms : Nat), .int .u8 (d0.at1 : Nat), .bool d0.wide, .bool d0.high] 98) := ⟨_, rfl⟩
        have ba : Below wr.heap.size wr wb := by rw [hwb]; exact (Below.refl _ _).alloc (Nat.le_refl _) _
        have HZ := Lib.hid (show DW wb z d0 by rw [hwb]; exact DW.newAt wr _ hz d0 _)
        have HZG := Lib.hid (show g < z from by rw [hz]; exact hgw)
        have HZB := Lib.hid (show w.heap.size ≤ z from by rw [hz]; exact HB.out.size)
        have HRB := Lib.hid (show CRow wb w.heap.size (.slice (some ⟨g, 0, none⟩) k xc) R0 from HR.out.below ba)
        have HBB := Lib.hid (show Below w.heap.size w wb from HB.out.trans (ba.mono HB.out.size))
        clear hgl hgw hlc hlj hs hd0 hdok ba hdc hlw
        go_upto_region 10 with (fail)
        rw [← hwb, ← hz]
        clear hwb hz x0 x1 x2 x3 x4 t1 t2 t3 hsm hsj hdw HR HB
        replace y0 := HLC.out j hlt wb HBB.out
        rw [← HLJ.out] at y0
        by_cases hl1 : lj = 1
        · have l1 : (lj == 1) = true := by simp [hl1]
          have HL1J := Lib.hid hl1
          clear hl1
          by_cases ho : 0 < m'
          · have o1 : 0 < m' := ho
            have nz' : ¬ (m' : Int) = 0 := by omega
            have nzn : ¬ m' = 0 := by omega
            obtain ⟨s, hs⟩ : ∃ s, s = j % m' := ⟨_, rfl⟩
            have HSE' := Lib.hid hs
            have hsm : s < m' := by rw [hs]; exact Nat.mod_lt _ ho
            have hsj : s ≤ j := by rw [hs]; exact Nat.mod_le _ _
            have t1 : (j : Int).tmod (m' : Int) = (s : Int) := by rw [Int.tmod_eq_emod_of_nonneg (by omega), hs]; rfl
            have t2 : (j : Int) % (m' : Int) = (s : Int) := by rw [hs]; rfl
            have t3 : IntKind.i64.wrap (s : Int) = (s : Int) := by rw [IntKind.wrap_i64]; omega
            obtain ⟨gd2, od2, cd2, e, hdw, hdc⟩ := HO.out.open (by rw [← HM'.out]; exact ho)
            injection e with e1 e2 e3
            subst e1
            clear e2 e3
            have hd := hdc s (by rw [← HM'.out]; exact hsm)
            have hdok := HO.out.okAt (i := s) (by rw [← HM'.out]; exact hsm)
            obtain ⟨d2, hd2⟩ : ∃ d, d = O.getD s Dc.z := ⟨_, rfl⟩
            have HD2 := Lib.hid hd2
            rw [← hd2] at hd hdok
            replace HDO := Lib.hid hdok
            replace hd := hd.same (HBB.out.block gd2 hdw)
            obtain ⟨x0, x1, x2, x3, x4⟩ := hd
            obtain ⟨wc, hwc⟩ : ∃ wc, wc = put5 wb z d2 := ⟨_, rfl⟩
            have HZC := Lib.hid (show DW wc z d2 by rw [hwc]; exact HZ.out.put d2)
            have kc : But z wb wc := by rw [hwc]; exact put5_but wb z d2
            have HRC := Lib.hid (show CRow wc w.heap.size (.slice (some ⟨g, 0, none⟩) k xc) R0 from HRB.out.kept (row := some z) kc (.inr (by simp [Value.ownBlock]; have := HZG.out; omega)))
            have HBC := Lib.hid (show Below w.heap.size w wc from HBB.out.trans (kc.below (C := w.heap.size) HZB.out HBB.out.size))
            obtain ⟨⟨_, z0, z1, z2, z3, z4⟩, zf⟩ := HZ.out
            simp only [put5] at hwc
            clear hs hd2 hdok hdc kc
            go_upto_region 12 with (fail)
            rw [← hwc]
            clear hwc x0 x1 x2 x3 x4 z0 z1 z2 z3 z4 zf t1 t2 t3 HZ HRB HBB hsm hsj hdw
            have HPK := Lib.hid (show pickD labs L O j = d2 from by unfold pickD; rw [if_pos ⟨by rw [← HLJ.out]; exact HL1J.out, by rw [← HM'.out]; exact ho⟩, ← HM'.out, ← HSE'.out, HD2.out])
            obtain ⟨d, hde⟩ : ∃ d, d = d2 := ⟨_, rfl⟩
            rw [← hde] at HPK
            have HDZ := Lib.hid (show DW wc z d by rw [hde]; exact HZC.out)
            have HOK := Lib.hid (show d.ok by rw [hde]; exact HDO.out)
            clear hde
            have hj14 : j < R0.length := by rw [HI.out.1, ← HN.out]; exact hlt
            have HC := Lib.hid (HRC.out.at hj14)
            obtain ⟨⟨_, x0, x1, x2, x3, x4⟩, _⟩ := HDZ.out
            obtain ⟨q, hq⟩ : ∃ q, q = d.ru % 5 := ⟨_, rfl⟩
            have HQ := Lib.hid hq
            have q1 : (d.ru : Int).tmod 5 = (q : Int) := by rw [Int.tmod_eq_emod_of_nonneg (by omega)]; omega
            have q2 : (d.ru : Int) % 5 = (q : Int) := by omega
            have q3 : q < 5 := by omega
            have q4 : IntKind.u8.wrap (q : Int) = (q : Int) := by rw [IntKind.wrap_u8]; omega
            clear hq
            by_cases hq4 : q = 4
            · have HE := Lib.hid (show fillK labs L O (j + 1) = R0 by rw [fillK_succ, ← HR0.out]; unfold stepF putD; rw [HPK.out, if_pos (.inl (by rw [← HQ.out]; exact hq4))])
              clear x1 x2 x3 x4 HC
              have q5 : ((q : Int) == 4) = true := by simp; omega
              clear q3 hq4
              go_wp2
              go_roundg (k - (j + 1))
              case rel => exact ⟨j + 1, by go_num, by omega, Nat.le_refl _, .inr hmp, by rw [HE.out]; exact HRC, HBC⟩
              case measure => omega
            have q5 : ((q : Int) == 4) = false := by simp; omega
            obtain ⟨ck, hck⟩ : ∃ c, c = gc R0 j := ⟨_, rfl⟩
            have HCK := Lib.hid hck
            rw [← hck] at HC
            have c3 := HC.out.2.2.2.1
            clear hck
            by_cases hk2 : ck.k = 2
            · have c4 : (ck.k == 2) = true := by simp [hk2]
              have HE := Lib.hid (show fillK labs L O (j + 1) = R0 by rw [fillK_succ, ← HR0.out]; unfold stepF putD; rw [HPK.out, if_pos (.inr (by rw [← HCK.out]; exact hk2))])
              clear x1 x2 x3 x4 HC
              clear hk2 hq4 q3
              go_wp2
              go_roundg (k - (j + 1))
              case rel => exact ⟨j + 1, by go_num, by omega, Nat.le_refl _, .inr hmp, by rw [HE.out]; exact HRC, HBC⟩
              case measure => omega
            have c4 : (ck.k == 2) = false := by simp [hk2]
            have HGO := Lib.hid (show fillK labs L O (j + 1) = putM R0 (j : Int) { celD d with l := labs.getD j 0 } (wideAt labs d j) by
              rw [fillK_succ, ← HR0.out]
              unfold stepF putD
              rw [HPK.out, if_neg]
              rintro (e | e)
              · exact hq4 (by rw [HQ.out]; exact e)
              · exact hk2 (by rw [HCK.out]; exact e))
            clear hk2 hq4
            have CC := Lib.hid (fun X => rcell_any X d HOK.out)
            go_upto_region 13 with (fail)
            clear q1 q2 q3 q4 q5 c3 c4
            go_wp2_with fail
            refine (CC.out _).mono ?_
            rintro e w5 ⟨rfl, bb⟩
            have HDZ5 := Lib.hid (HDZ.out.below bb)
            have HR5 := Lib.hid (HRC.out.below bb)
            have HB5 := Lib.hid (HBC.out.trans (bb.mono HBC.out.size))
            clear bb CC HC HDZ x0 x1 x2 x3 x4
            obtain ⟨cd, hcd⟩ : ∃ c, c = celD d := ⟨_, rfl⟩
            rw [← hcd] at HGO ⊢
            obtain ⟨y, hy⟩ : ∃ y, y = w5.heap.size := ⟨_, rfl⟩
            obtain ⟨w7, hw7⟩ : ∃ x, x = w5.alloc (.cells #[.int .i32 cd.ru, .int .i32 cd.m0, .int .i32 cd.m1, .int .u8 cd.k, .int .u8 cd.a.fg.k, .int .u8 cd.a.fg.r, .int .u8 cd.a.fg.g, .int .u8 cd.a.fg.b, .int .u8 cd.a.bg.k, .int .u8 cd.a.bg.r, .int .u8 cd.a.bg.g, .int .u8 cd.a.bg.b, .int .u16 (cd.a.fl : Nat), .int .u8 cd.l] 47) := ⟨_, rfl⟩
            have b7 : Below w5.heap.size w5 w7 := by rw [hw7]; exact (Below.refl _ _).alloc (Nat.le_refl _) _
            have HY7 := Lib.hid (show BAt w7 y cd by rw [hw7]; exact BAt.newAt w5 _ hy cd _)
            have HB7 := Lib.hid (show Below w.heap.size w w7 from HB5.out.trans (b7.mono HB5.out.size))
            obtain ⟨w8, hw8⟩ : ∃ x, x = w7.setCell ⟨y, 13, none⟩ (.int .u8 lj) := ⟨_, rfl⟩
            obtain ⟨cx, hcx⟩ : ∃ c, c = ({ cd with l := lj } : Cel) := ⟨_, rfl⟩
            have HY8 := Lib.hid (show BAt w8 y cx by rw [hw8, hcx]; exact HY7.out.lab lj)
            have HCX := Lib.hid hcx
            have hyy : y ≠ g ∧ y ≠ z ∧ w.heap.size ≤ y := by
              have h1 := HDZ5.out.1.1
              have h2 := HZG.out
              have h3 := HZB.out
              omega
            have k6 : But y w7 w8 := by rw [hw8]; exact But.set _ y 13 _
            have HD8 := Lib.hid (show DW w8 z d from (HDZ5.out.below b7).same k6.size (k6.block z (HDZ5.out.below b7).1.1 (by simp; omega)))
            have HR8 := Lib.hid (show CRow w8 w.heap.size (.slice (some ⟨g, 0, none⟩) k xc) R0 from (HR5.out.below b7).kept (row := some y) k6 (.inr (by simp [Value.ownBlock]; omega)))
            have HB8 := Lib.hid (show Below w.heap.size w w8 from HB7.out.trans (k6.below (C := w.heap.size) hyy.2.2 HB7.out.size))
            clear hcx hyy k6 b7 HDZ5 HR5 hcd
            go_upto_region 14 with (fail)
            rw [← hw7, ← hy]
            clear hw7 hy
            have yl := HLC.out j hlt w7 HB7.out
            rw [← HLJ.out] at yl
            obtain ⟨_, ⟨a0, a1, a2, a3, a4, a5, a6, a7, a8, a9, a10, a11, a12, a13⟩, af⟩ := HY7.out
            go_upto_region 15 with (fail)
            rw [← hw8]
            clear hw8 a0 a1 a2 a3 a4 a5 a6 a7 a8 a9 a10 a11 a12 a13 af yl HY7
            obtain ⟨j1, hj1⟩ : ∃ j1, j1 = j + 1 := ⟨_, rfl⟩
            have HJ1 := Lib.hid hj1
            have s9 : IntKind.i64.wrap ((j : Int) + 1) = (j1 : Int) := by rw [IntKind.wrap_i64]; omega
            clear hj1
            obtain ⟨wd, hwd⟩ : ∃ b, b = d.wide := ⟨_, rfl⟩
            have HWD := Lib.hid hwd
            clear hwd
            cases wd
            · have HKEEP := Lib.hid (show ∀ W, Below w8.heap.size w8 W → (fun w' => w'.cell? ⟨y, 0, none⟩ = some (.int .i32 cx.ru) ∧ w'.cell? ⟨y, 1, none⟩ = some (.int .i32 cx.m0) ∧ w'.cell? ⟨y, 2, none⟩ = some (.int .i32 cx.m1) ∧ w'.cell? ⟨y, 3, none⟩ = some (.int .u8 cx.k) ∧ w'.cell? ⟨y, 4, none⟩ = some (.int .u8 cx.a.fg.k) ∧ w'.cell? ⟨y, 5, none⟩ = some (.int .u8 cx.a.fg.r) ∧ w'.cell? ⟨y, 6, none⟩ = some (.int .u8 cx.a.fg.g) ∧ w'.cell? ⟨y, 7, none⟩ = some (.int .u8 cx.a.fg.b) ∧ w'.cell? ⟨y, 8, none⟩ = some (.int .u8 cx.a.bg.k) ∧ w'.cell? ⟨y, 9, none⟩ = some (.int .u8 cx.a.bg.r) ∧ w'.cell? ⟨y, 10, none⟩ = some (.int .u8 cx.a.bg.g) ∧ w'.cell? ⟨y, 11, none⟩ = some (.int .u8 cx.a.bg.b) ∧ w'.cell? ⟨y, 12, none⟩ = some (.int .u16 (cx.a.fl : Nat)) ∧ w'.cell? ⟨y, 13, none⟩ = some (.int .u8 cx.l) ∧ w'.cell? ⟨z, 3, none⟩ = some (.bool false) ∧ w'.cell? ⟨gl, j, none⟩ = some (.int .u8 lj)) W from fun W hb => by
                obtain ⟨k0, k1, k2, k3, k4, k5, k6, k7, k8, k9, k10, k11, k12, k13⟩ := (HY8.out.below hb).2.1
                exact ⟨k0, k1, k2, k3, k4, k5, k6, k7, k8, k9, k10, k11, k12, k13, by have := (HD8.out.below hb).1.2.2.2.2.1; rw [← HWD.out] at this; exact this, by rw [HLJ.out]; exact HLC.out j hlt W (HB8.out.trans (hb.mono HB8.out.size))⟩)
              dsimp only at HKEEP
              have HE := Lib.hid (show fillK labs L O (j + 1) = putM R0 (j : Int) cx false by
                have hw : wideAt labs d j = false := by simp [wideAt, ← HWD.out]
                rw [HGO.out, hw, HCX.out, HLJ.out])
              have hfit : j + (if false = true then 2 else 1) ≤ R0.length := by rw [HI.out.1, ← HN.out]; have := HJ1.out; simp; omega
              have CP := Lib.hid (show ∀ W, Below w8.heap.size w8 W → Calls Try.prog 56 #[.slice (some ⟨g, 0, none⟩) k xc, .int .i64 (j : Nat), celV cx, .bool false] W (OwnOut W (putM R0 (j : Int) cx false)) from fun W hb => rput_in W _ R0 j cx false (HR8.out.below hb).row HI.out.2.1 hfit (by rw [HI.out.1, ← HN.out]; omega))
              clear hfit HGO
              refine wp_region_held_drew (S := fun w' => w'.cell? ⟨y, 0, none⟩ = some (.int .i32 cx.ru) ∧ w'.cell? ⟨y, 1, none⟩ = some (.int .i32 cx.m0) ∧ w'.cell? ⟨y, 2, none⟩ = some (.int .i32 cx.m1) ∧ w'.cell? ⟨y, 3, none⟩ = some (.int .u8 cx.k) ∧ w'.cell? ⟨y, 4, none⟩ = some (.int .u8 cx.a.fg.k) ∧ w'.cell? ⟨y, 5, none⟩ = some (.int .u8 cx.a.fg.r) ∧ w'.cell? ⟨y, 6, none⟩ = some (.int .u8 cx.a.fg.g) ∧ w'.cell? ⟨y, 7, none⟩ = some (.int .u8 cx.a.fg.b) ∧ w'.cell? ⟨y, 8, none⟩ = some (.int .u8 cx.a.bg.k) ∧ w'.cell? ⟨y, 9, none⟩ = some (.int .u8 cx.a.bg.r) ∧ w'.cell? ⟨y, 10, none⟩ = some (.int .u8 cx.a.bg.g) ∧ w'.cell? ⟨y, 11, none⟩ = some (.int .u8 cx.a.bg.b) ∧ w'.cell? ⟨y, 12, none⟩ = some (.int .u16 (cx.a.fl : Nat)) ∧ w'.cell? ⟨y, 13, none⟩ = some (.int .u8 cx.l) ∧ w'.cell? ⟨z, 3, none⟩ = some (.bool false) ∧ w'.cell? ⟨gl, j, none⟩ = some (.int .u8 lj)) (by as_aux_lemma => kernel_rfl) ?_ (fun hHeld => ?_)
              · exact HKEEP.out _ (⟨rfl, rfl, rfl, Nat.le_refl _, fun _ _ => rfl⟩)
              obtain ⟨u0, hu0⟩ : ∃ u0, u0 = w8.drew := ⟨_, rfl⟩
              have HX := Lib.hid (show Below w8.heap.size w8 u0 by rw [hu0]; exact ⟨rfl, rfl, rfl, Nat.le_refl _, fun _ _ => rfl⟩)
              replace hHeld := HKEEP.out _ HX.out
              rw [← hu0]
              clear hu0
              refine take_at (i := 0) (v := ?_) rfl (by as_aux_lemma => kernel_rfl) (by as_aux_lemma => kernel_rfl) (by as_aux_lemma => kernel_rfl) (fun _ _ _ h => h) (by as_aux_lemma => kernel_rfl) (by assumption) ?_ ?_
              rotate_left
              · (intro w hSw; (try dsimp only at hSw); go_simp; try with_reducible rfl)
              go_frame
              refine take_at (i := 1) (v := ?_) rfl (by as_aux_lemma => kernel_rfl) (by as_aux_lemma => kernel_rfl) (by as_aux_lemma => kernel_rfl) (fun _ _ _ h => h) (by as_aux_lemma => kernel_rfl) (by assumption) ?_ ?_
              rotate_left
              · (intro w hSw; (try dsimp only at hSw); go_simp; try with_reducible rfl)
              go_frame
              refine take_at (i := 2) (v := ?_) rfl (by as_aux_lemma => kernel_rfl) (by as_aux_lemma => kernel_rfl) (by as_aux_lemma => kernel_rfl) (fun _ _ _ h => h) (by as_aux_lemma => kernel_rfl) (by assumption) ?_ ?_
              rotate_left
              · (intro w hSw; (try dsimp only at hSw); go_simp; try with_reducible rfl)
              go_frame
              refine take_at (i := 3) (v := ?_) rfl (by as_aux_lemma => kernel_rfl) (by as_aux_lemma => kernel_rfl) (by as_aux_lemma => kernel_rfl) (fun _ _ _ h => h) (by as_aux_lemma => kernel_rfl) (by assumption) ?_ ?_
              rotate_left
              · (intro w hSw; (try dsimp only at hSw); go_simp; try with_reducible rfl)
              go_frame
              refine take_at (i := 4) (v := ?_) rfl (by as_aux_lemma => kernel_rfl) (by as_aux_lemma => kernel_rfl) (by as_aux_lemma => kernel_rfl) (fun _ _ _ h => h) (by as_aux_lemma => kernel_rfl) (by assumption) ?_ ?_
              rotate_left
              · (intro w hSw; (try dsimp only at hSw); go_simp; try with_reducible rfl)
              go_frame
              refine take_at (i := 5) (v := ?_) rfl (by as_aux_lemma => kernel_rfl) (by as_aux_lemma => kernel_rfl) (by as_aux_lemma => kernel_rfl) (fun _ _ _ h => h) (by as_aux_lemma => kernel_rfl) (by assumption) ?_ ?_
              rotate_left
              · (intro w hSw; (try dsimp only at hSw); go_simp; try with_reducible rfl)
              go_frame
              refine skip_at (i := 6) rfl (by as_aux_lemma => kernel_rfl) (by as_aux_lemma => kernel_rfl) (by as_aux_lemma => kernel_rfl) (fun _ _ _ h => h) (by as_aux_lemma => kernel_rfl) (by assumption) ?_
              go_frame
              refine skip_at (i := 7) rfl (by as_aux_lemma => kernel_rfl) (by as_aux_lemma => kernel_rfl) (by as_aux_lemma => kernel_rfl) (fun _ _ _ h => h) (by as_aux_lemma => kernel_rfl) (by assumption) ?_
              go_frame
              refine skip_at (i := 8) rfl (by as_aux_lemma => kernel_rfl) (by as_aux_lemma => kernel_rfl) (by as_aux_lemma => kernel_rfl) (fun _ _ _ h => h) (by as_aux_lemma => kernel_rfl) (by assumption) ?_
              go_frame
              refine skip_at (i := 9) rfl (by as_aux_lemma => kernel_rfl) (by as_aux_lemma => kernel_rfl) (by as_aux_lemma => kernel_rfl) (fun _ _ _ h => h) (by as_aux_lemma => kernel_rfl) (by assumption) ?_
              go_frame
              refine skip_at (i := 10) rfl (by as_aux_lemma => kernel_rfl) (by as_aux_lemma => kernel_rfl) (by as_aux_lemma => kernel_rfl) (fun _ _ _ h => h) (by as_aux_lemma => kernel_rfl) (by assumption) ?_
              go_frame
              refine take_at (i := 11) (v := ?_) rfl (by as_aux_lemma => kernel_rfl) (by as_aux_lemma => kernel_rfl) (by as_aux_lemma => kernel_rfl) (fun _ _ _ h => h) (by as_aux_lemma => kernel_rfl) (by assumption) ?_ ?_
              rotate_left
              · (intro w hSw; (try dsimp only at hSw); go_simp; try with_reducible rfl)
              go_frame
              refine take_at (i := 12) (v := ?_) rfl (by as_aux_lemma => kernel_rfl) (by as_aux_lemma => kernel_rfl) (by as_aux_lemma => kernel_rfl) (fun _ _ _ h => h) (by as_aux_lemma => kernel_rfl) (by assumption) ?_ ?_
              rotate_left
              · (intro w hSw; (try dsimp only at hSw); go_simp; try with_reducible rfl)
              go_frame
              refine skip_at (i := 13) rfl (by as_aux_lemma => kernel_rfl) (by as_aux_lemma => kernel_rfl) (by as_aux_lemma => kernel_rfl) (fun _ _ _ h => h) (by as_aux_lemma => kernel_rfl) (by assumption) ?_
              go_frame
              refine skip_at (i := 14) rfl (by as_aux_lemma => kernel_rfl) (by as_aux_lemma => kernel_rfl) (by as_aux_lemma => kernel_rfl) (fun _ _ _ h => h) (by as_aux_lemma => kernel_rfl) (by assumption) ?_
              go_frame
              refine skip_at (i := 15) rfl (by as_aux_lemma => kernel_rfl) (by as_aux_lemma => kernel_rfl) (by as_aux_lemma => kernel_rfl) (fun _ _ _ h => h) (by as_aux_lemma => kernel_rfl) (by assumption) ?_
              go_frame
              refine skip_at (i := 16) rfl (by as_aux_lemma => kernel_rfl) (by as_aux_lemma => kernel_rfl) (by as_aux_lemma => kernel_rfl) (fun _ _ _ h => h) (by as_aux_lemma => kernel_rfl) (by assumption) ?_
              go_frame
              refine skip_at (i := 17) rfl (by as_aux_lemma => kernel_rfl) (by as_aux_lemma => kernel_rfl) (by as_aux_lemma => kernel_rfl) (fun _ _ _ h => h) (by as_aux_lemma => kernel_rfl) (by assumption) ?_
              go_frame
              refine skip_at (i := 18) rfl (by as_aux_lemma => kernel_rfl) (by as_aux_lemma => kernel_rfl) (by as_aux_lemma => kernel_rfl) (fun _ _ _ h => h) (by as_aux_lemma => kernel_rfl) (by assumption) ?_
              go_frame
              refine skip_at (i := 19) rfl (by as_aux_lemma => kernel_rfl) (by as_aux_lemma => kernel_rfl) (by as_aux_lemma => kernel_rfl) (fun _ _ _ h => h) (by as_aux_lemma => kernel_rfl) (by assumption) ?_
              go_frame
              refine skip_at (i := 20) rfl (by as_aux_lemma => kernel_rfl) (by as_aux_lemma => kernel_rfl) (by as_aux_lemma => kernel_rfl) (fun _ _ _ h => h) (by as_aux_lemma => kernel_rfl) (by assumption) ?_
              go_frame
              refine skip_at (i := 21) rfl (by as_aux_lemma => kernel_rfl) (by as_aux_lemma => kernel_rfl) (by as_aux_lemma => kernel_rfl) (fun _ _ _ h => h) (by as_aux_lemma => kernel_rfl) (by assumption) ?_
              go_frame
              refine skip_at (i := 22) rfl (by as_aux_lemma => kernel_rfl) (by as_aux_lemma => kernel_rfl) (by as_aux_lemma => kernel_rfl) (fun _ _ _ h => h) (by as_aux_lemma => kernel_rfl) (by assumption) ?_
              go_frame
              refine take_at (i := 23) (v := ?_) rfl (by as_aux_lemma => kernel_rfl) (by as_aux_lemma => kernel_rfl) (by as_aux_lemma => kernel_rfl) (fun _ _ _ h => h) (by as_aux_lemma => kernel_rfl) (by assumption) ?_ ?_
              rotate_left
              · (intro w hSw; (try dsimp only at hSw); go_simp; try with_reducible rfl)
              go_frame
              refine do_at (i := 24) rfl (by as_aux_lemma => kernel_rfl) (by as_aux_lemma => kernel_rfl) (fun K hK => ?_)
              go_simp
              refine (CP.out _ HX.out).mono ?_
              rintro e w9 ⟨r9, rfl, R9, _, bb⟩
              have HX2 := Lib.hid (HX.out.trans (bb.mono HX.out.size))
              have HRN := Lib.hid (R9.lower (Nat.le_trans HB8.out.size HX.out.size))
              clear bb R9 HX
              go_wp2_with fail
              refine hK.out _ _ ?_ (fun hHeld => ?_)
              · exact HKEEP.out _ HX2.out
              clear hK K
              try go_frame
              refine take_at (i := 25) (v := ?_) rfl (by as_aux_lemma => kernel_rfl) (by as_aux_lemma => kernel_rfl) (by as_aux_lemma => kernel_rfl) (fun _ _ _ h => h) (by as_aux_lemma => kernel_rfl) (by assumption) ?_ ?_
              rotate_left
              · (intro w hSw; (try dsimp only at hSw); go_simp; try with_reducible rfl)
              go_frame
              refine wpAnyH_done (by as_aux_lemma => kernel_rfl) ?_ _
              have HBN := Lib.hid (HB8.out.trans (HX2.out.mono HB8.out.size))
              clear HX2 hHeld HKEEP CP HR8 HB8 HD8 HY8
              go_wp2
              go_roundg (k - j1)
              case rel => exact ⟨j1, rfl, by have := HJ1.out; omega, Nat.le_refl _, .inr hmp, by rw [HJ1.out, HE.out]; exact HRN, HBN⟩
              case measure => have := HJ1.out; omega
            · by_cases hmo : j1 < k
              rotate_left
              · have HKEEP := Lib.hid (show ∀ W, Below w8.heap.size w8 W → (fun w' => w'.cell? ⟨y, 0, none⟩ = some (.int .i32 cx.ru) ∧ w'.cell? ⟨y, 1, none⟩ = some (.int .i32 cx.m0) ∧ w'.cell? ⟨y, 2, none⟩ = some (.int .i32 cx.m1) ∧ w'.cell? ⟨y, 3, none⟩ = some (.int .u8 cx.k) ∧ w'.cell? ⟨y, 4, none⟩ = some (.int .u8 cx.a.fg.k) ∧ w'.cell? ⟨y, 5, none⟩ = some (.int .u8 cx.a.fg.r) ∧ w'.cell? ⟨y, 6, none⟩ = some (.int .u8 cx.a.fg.g) ∧ w'.cell? ⟨y, 7, none⟩ = some (.int .u8 cx.a.fg.b) ∧ w'.cell? ⟨y, 8, none⟩ = some (.int .u8 cx.a.bg.k) ∧ w'.cell? ⟨y, 9, none⟩ = some (.int .u8 cx.a.bg.r) ∧ w'.cell? ⟨y, 10, none⟩ = some (.int .u8 cx.a.bg.g) ∧ w'.cell? ⟨y, 11, none⟩ = some (.int .u8 cx.a.bg.b) ∧ w'.cell? ⟨y, 12, none⟩ = some (.int .u16 (cx.a.fl : Nat)) ∧ w'.cell? ⟨y, 13, none⟩ = some (.int .u8 cx.l) ∧ w'.cell? ⟨z, 3, none⟩ = some (.bool true) ∧ w'.cell? ⟨gl, j, none⟩ = some (.int .u8 lj)) W from fun W hb => by
                  obtain ⟨k0, k1, k2, k3, k4, k5, k6, k7, k8, k9, k10, k11, k12, k13⟩ := (HY8.out.below hb).2.1
                  exact ⟨k0, k1, k2, k3, k4, k5, k6, k7, k8, k9, k10, k11, k12, k13, by have := (HD8.out.below hb).1.2.2.2.2.1; rw [← HWD.out] at this; exact this, by rw [HLJ.out]; exact HLC.out j hlt W (HB8.out.trans (hb.mono HB8.out.size))⟩)
                dsimp only at HKEEP
                have HE := Lib.hid (show fillK labs L O (j + 1) = putM R0 (j : Int) cx false by
                  have hw : wideAt labs d j = false := by simp only [wideAt, ← HWD.out, ← HN.out, ← HJ1.out]; rw [decide_eq_false hmo]; rfl
                  rw [HGO.out, hw, HCX.out, HLJ.out])
                have hfit : j + (if false = true then 2 else 1) ≤ R0.length := by rw [HI.out.1, ← HN.out]; have := HJ1.out; simp; omega
                have CP := Lib.hid (show ∀ W, Below w8.heap.size w8 W → Calls Try.prog 56 #[.slice (some ⟨g, 0, none⟩) k xc, .int .i64 (j : Nat), celV cx, .bool false] W (OwnOut W (putM R0 (j : Int) cx false)) from fun W hb => rput_in W _ R0 j cx false (HR8.out.below hb).row HI.out.2.1 hfit (by rw [HI.out.1, ← HN.out]; omega))
                clear hfit HGO
                refine wp_region_held_drew (S := fun w' => w'.cell? ⟨y, 0, none⟩ = some (.int .i32 cx.ru) ∧ w'.cell? ⟨y, 1, none⟩ = some (.int .i32 cx.m0) ∧ w'.cell? ⟨y, 2, none⟩ = some (.int .i32 cx.m1) ∧ w'.cell? ⟨y, 3, none⟩ = some (.int .u8 cx.k) ∧ w'.cell? ⟨y, 4, none⟩ = some (.int .u8 cx.a.fg.k) ∧ w'.cell? ⟨y, 5, none⟩ = some (.int .u8 cx.a.fg.r) ∧ w'.cell? ⟨y, 6, none⟩ = some (.int .u8 cx.a.fg.g) ∧ w'.cell? ⟨y, 7, none⟩ = some (.int .u8 cx.a.fg.b) ∧ w'.cell? ⟨y, 8, none⟩ = some (.int .u8 cx.a.bg.k) ∧ w'.cell? ⟨y, 9, none⟩ = some (.int .u8 cx.a.bg.r) ∧ w'.cell? ⟨y, 10, none⟩ = some (.int .u8 cx.a.bg.g) ∧ w'.cell? ⟨y, 11, none⟩ = some (.int .u8 cx.a.bg.b) ∧ w'.cell? ⟨y, 12, none⟩ = some (.int .u16 (cx.a.fl : Nat)) ∧ w'.cell? ⟨y, 13, none⟩ = some (.int .u8 cx.l) ∧ w'.cell? ⟨z, 3, none⟩ = some (.bool true) ∧ w'.cell? ⟨gl, j, none⟩ = some (.int .u8 lj)) (by as_aux_lemma => kernel_rfl) ?_ (fun hHeld => ?_)
                · exact HKEEP.out _ (⟨rfl, rfl, rfl, Nat.le_refl _, fun _ _ => rfl⟩)
                obtain ⟨u0, hu0⟩ : ∃ u0, u0 = w8.drew := ⟨_, rfl⟩
                have HX := Lib.hid (show Below w8.heap.size w8 u0 by rw [hu0]; exact ⟨rfl, rfl, rfl, Nat.le_refl _, fun _ _ => rfl⟩)
                replace hHeld := HKEEP.out _ HX.out
                rw [← hu0]
                clear hu0
                refine take_at (i := 0) (v := ?_) rfl (by as_aux_lemma => kernel_rfl) (by as_aux_lemma => kernel_rfl) (by as_aux_lemma => kernel_rfl) (fun _ _ _ h => h) (by as_aux_lemma => kernel_rfl) (by assumption) ?_ ?_
                rotate_left
                · (intro w hSw; (try dsimp only at hSw); go_simp; try with_reducible rfl)
                go_frame
                refine take_at (i := 1) (v := ?_) rfl (by as_aux_lemma => kernel_rfl) (by as_aux_lemma => kernel_rfl) (by as_aux_lemma => kernel_rfl) (fun _ _ _ h => h) (by as_aux_lemma => kernel_rfl) (by assumption) ?_ ?_
                rotate_left
                · (intro w hSw; (try dsimp only at hSw); go_simp; try with_reducible rfl)
                go_frame
                refine take_at (i := 2) (v := ?_) rfl (by as_aux_lemma => kernel_rfl) (by as_aux_lemma => kernel_rfl) (by as_aux_lemma => kernel_rfl) (fun _ _ _ h => h) (by as_aux_lemma => kernel_rfl) (by assumption) ?_ ?_
                rotate_left
                · (intro w hSw; (try dsimp only at hSw); go_simp; try with_reducible rfl)
                go_frame
                refine take_at (i := 3) (v := ?_) rfl (by as_aux_lemma => kernel_rfl) (by as_aux_lemma => kernel_rfl) (by as_aux_lemma => kernel_rfl) (fun _ _ _ h => h) (by as_aux_lemma => kernel_rfl) (by assumption) ?_ ?_
                rotate_left
                · (intro w hSw; (try dsimp only at hSw); go_simp; try with_reducible rfl)
                go_frame
                refine take_at (i := 4) (v := ?_) rfl (by as_aux_lemma => kernel_rfl) (by as_aux_lemma => kernel_rfl) (by as_aux_lemma => kernel_rfl) (fun _ _ _ h => h) (by as_aux_lemma => kernel_rfl) (by assumption) ?_ ?_
                rotate_left
                · (intro w hSw; (try dsimp only at hSw); go_simp; try with_reducible rfl)
                go_frame
                refine take_at (i := 5) (v := ?_) rfl (by as_aux_lemma => kernel_rfl) (by as_aux_lemma => kernel_rfl) (by as_aux_lemma => kernel_rfl) (fun _ _ _ h => h) (by as_aux_lemma => kernel_rfl) (by assumption) ?_ ?_
                rotate_left
                · (intro w hSw; (try dsimp only at hSw); go_simp; try with_reducible rfl)
                go_frame
                refine take_at (i := 6) (v := ?_) rfl (by as_aux_lemma => kernel_rfl) (by as_aux_lemma => kernel_rfl) (by as_aux_lemma => kernel_rfl) (fun _ _ _ h => h) (by as_aux_lemma => kernel_rfl) (by assumption) ?_ ?_
                rotate_left
                · (intro w hSw; (try dsimp only at hSw); go_simp; try with_reducible rfl)
                go_frame
                refine take_at (i := 7) (v := ?_) rfl (by as_aux_lemma => kernel_rfl) (by as_aux_lemma => kernel_rfl) (by as_aux_lemma => kernel_rfl) (fun _ _ _ h => h) (by as_aux_lemma => kernel_rfl) (by assumption) ?_ ?_
                rotate_left
                · (intro w hSw; (try dsimp only at hSw); go_simp; try with_reducible rfl)
                go_frame
                refine take_at (i := 8) (v := ?_) rfl (by as_aux_lemma => kernel_rfl) (by as_aux_lemma => kernel_rfl) (by as_aux_lemma => kernel_rfl) (fun _ _ _ h => h) (by as_aux_lemma => kernel_rfl) (by assumption) ?_ ?_
                rotate_left
                · (intro w hSw; (try dsimp only at hSw); go_simp; try with_reducible rfl)
                go_frame
                refine take_at (i := 9) (v := ?_) rfl (by as_aux_lemma => kernel_rfl) (by as_aux_lemma => kernel_rfl) (by as_aux_lemma => kernel_rfl) (fun _ _ _ h => h) (by as_aux_lemma => kernel_rfl) (by assumption) ?_ ?_
                rotate_left
                · (intro w hSw; (try dsimp only at hSw); go_simp; try with_reducible rfl)
                go_frame
                refine take_at (i := 10) (v := ?_) rfl (by as_aux_lemma => kernel_rfl) (by as_aux_lemma => kernel_rfl) (by as_aux_lemma => kernel_rfl) (fun _ _ _ h => h) (by as_aux_lemma => kernel_rfl) (by assumption) ?_ ?_
                rotate_left
                · (intro w hSw; (try dsimp only at hSw); go_simp; try with_reducible rfl)
                go_frame
                refine take_at (i := 11) (v := ?_) rfl (by as_aux_lemma => kernel_rfl) (by as_aux_lemma => kernel_rfl) (by as_aux_lemma => kernel_rfl) (fun _ _ _ h => h) (by as_aux_lemma => kernel_rfl) (by assumption) ?_ ?_
                rotate_left
                · (intro w hSw; (try dsimp only at hSw); go_simp; try with_reducible rfl)
                go_frame
                refine take_at (i := 12) (v := ?_) rfl (by as_aux_lemma => kernel_rfl) (by as_aux_lemma => kernel_rfl) (by as_aux_lemma => kernel_rfl) (fun _ _ _ h => h) (by as_aux_lemma => kernel_rfl) (by assumption) ?_ ?_
                rotate_left
                · (intro w hSw; (try dsimp only at hSw); go_simp; try with_reducible rfl)
                go_frame
                refine skip_at (i := 13) rfl (by as_aux_lemma => kernel_rfl) (by as_aux_lemma => kernel_rfl) (by as_aux_lemma => kernel_rfl) (fun _ _ _ h => h) (by as_aux_lemma => kernel_rfl) (by assumption) ?_
                go_frame
                refine skip_at (i := 14) rfl (by as_aux_lemma => kernel_rfl) (by as_aux_lemma => kernel_rfl) (by as_aux_lemma => kernel_rfl) (fun _ _ _ h => h) (by as_aux_lemma => kernel_rfl) (by assumption) ?_
                go_frame
                refine skip_at (i := 15) rfl (by as_aux_lemma => kernel_rfl) (by as_aux_lemma => kernel_rfl) (by as_aux_lemma => kernel_rfl) (fun _ _ _ h => h) (by as_aux_lemma => kernel_rfl) (by assumption) ?_
                go_frame
                refine skip_at (i := 16) rfl (by as_aux_lemma => kernel_rfl) (by as_aux_lemma => kernel_rfl) (by as_aux_lemma => kernel_rfl) (fun _ _ _ h => h) (by as_aux_lemma => kernel_rfl) (by assumption) ?_
                go_frame
                refine skip_at (i := 17) rfl (by as_aux_lemma => kernel_rfl) (by as_aux_lemma => kernel_rfl) (by as_aux_lemma => kernel_rfl) (fun _ _ _ h => h) (by as_aux_lemma => kernel_rfl) (by assumption) ?_
                go_frame
                refine skip_at (i := 18) rfl (by as_aux_lemma => kernel_rfl) (by as_aux_lemma => kernel_rfl) (by as_aux_lemma => kernel_rfl) (fun _ _ _ h => h) (by as_aux_lemma => kernel_rfl) (by assumption) ?_
                go_frame
                refine skip_at (i := 19) rfl (by as_aux_lemma => kernel_rfl) (by as_aux_lemma => kernel_rfl) (by as_aux_lemma => kernel_rfl) (fun _ _ _ h => h) (by as_aux_lemma => kernel_rfl) (by assumption) ?_
                go_frame
                refine skip_at (i := 20) rfl (by as_aux_lemma => kernel_rfl) (by as_aux_lemma => kernel_rfl) (by as_aux_lemma => kernel_rfl) (fun _ _ _ h => h) (by as_aux_lemma => kernel_rfl) (by assumption) ?_
                go_frame
                refine skip_at (i := 21) rfl (by as_aux_lemma => kernel_rfl) (by as_aux_lemma => kernel_rfl) (by as_aux_lemma => kernel_rfl) (fun _ _ _ h => h) (by as_aux_lemma => kernel_rfl) (by assumption) ?_
                go_frame
                refine skip_at (i := 22) rfl (by as_aux_lemma => kernel_rfl) (by as_aux_lemma => kernel_rfl) (by as_aux_lemma => kernel_rfl) (fun _ _ _ h => h) (by as_aux_lemma => kernel_rfl) (by assumption) ?_
                go_frame
                refine take_at (i := 23) (v := ?_) rfl (by as_aux_lemma => kernel_rfl) (by as_aux_lemma => kernel_rfl) (by as_aux_lemma => kernel_rfl) (fun _ _ _ h => h) (by as_aux_lemma => kernel_rfl) (by assumption) ?_ ?_
                rotate_left
                · (intro w hSw; (try dsimp only at hSw); go_simp; try with_reducible rfl)
                go_frame
                refine do_at (i := 24) rfl (by as_aux_lemma => kernel_rfl) (by as_aux_lemma => kernel_rfl) (fun K hK => ?_)
                go_simp
                refine (CP.out _ HX.out).mono ?_
                rintro e w9 ⟨r9, rfl, R9, _, bb⟩
                have HX2 := Lib.hid (HX.out.trans (bb.mono HX.out.size))
                have HRN := Lib.hid (R9.lower (Nat.le_trans HB8.out.size HX.out.size))
                clear bb R9 HX
                go_wp2_with fail
                refine hK.out _ _ ?_ (fun hHeld => ?_)
                · exact HKEEP.out _ HX2.out
                clear hK K
                try go_frame
                refine take_at (i := 25) (v := ?_) rfl (by as_aux_lemma => kernel_rfl) (by as_aux_lemma => kernel_rfl) (by as_aux_lemma => kernel_rfl) (fun _ _ _ h => h) (by as_aux_lemma => kernel_rfl) (by assumption) ?_ ?_
                rotate_left
                · (intro w hSw; (try dsimp only at hSw); go_simp; try with_reducible rfl)
                go_frame
                refine wpAnyH_done (by as_aux_lemma => kernel_rfl) ?_ _
                have HBN := Lib.hid (HB8.out.trans (HX2.out.mono HB8.out.size))
                clear HX2 hHeld HKEEP CP HR8 HB8 HD8 HY8
                go_wp2
                go_roundg (k - j1)
                case rel => exact ⟨j1, rfl, by have := HJ1.out; omega, Nat.le_refl _, .inr hmp, by rw [HJ1.out, HE.out]; exact HRN, HBN⟩
                case measure => have := HJ1.out; omega
              obtain ⟨l1, hl1e⟩ : ∃ l, l = labs.getD j1 0 := ⟨_, rfl⟩
              have HL1 := Lib.hid hl1e
              clear hl1e
              by_cases hq1 : l1 = lj
              · have p1 : (l1 == lj) = true := by simp [hq1]
                have HQ1 := Lib.hid p1
                clear hq1
                have HKEEP := Lib.hid (show ∀ W, Below w8.heap.size w8 W → (fun w' => w'.cell? ⟨y, 0, none⟩ = some (.int .i32 cx.ru) ∧ w'.cell? ⟨y, 1, none⟩ = some (.int .i32 cx.m0) ∧ w'.cell? ⟨y, 2, none⟩ = some (.int .i32 cx.m1) ∧ w'.cell? ⟨y, 3, none⟩ = some (.int .u8 cx.k) ∧ w'.cell? ⟨y, 4, none⟩ = some (.int .u8 cx.a.fg.k) ∧ w'.cell? ⟨y, 5, none⟩ = some (.int .u8 cx.a.fg.r) ∧ w'.cell? ⟨y, 6, none⟩ = some (.int .u8 cx.a.fg.g) ∧ w'.cell? ⟨y, 7, none⟩ = some (.int .u8 cx.a.fg.b) ∧ w'.cell? ⟨y, 8, none⟩ = some (.int .u8 cx.a.bg.k) ∧ w'.cell? ⟨y, 9, none⟩ = some (.int .u8 cx.a.bg.r) ∧ w'.cell? ⟨y, 10, none⟩ = some (.int .u8 cx.a.bg.g) ∧ w'.cell? ⟨y, 11, none⟩ = some (.int .u8 cx.a.bg.b) ∧ w'.cell? ⟨y, 12, none⟩ = some (.int .u16 (cx.a.fl : Nat)) ∧ w'.cell? ⟨y, 13, none⟩ = some (.int .u8 cx.l) ∧ w'.cell? ⟨z, 3, none⟩ = some (.bool true) ∧ w'.cell? ⟨gl, j, none⟩ = some (.int .u8 lj) ∧ w'.cell? ⟨gl, j1, none⟩ = some (.int .u8 l1)) W from fun W hb => by
                  obtain ⟨k0, k1, k2, k3, k4, k5, k6, k7, k8, k9, k10, k11, k12, k13⟩ := (HY8.out.below hb).2.1
                  exact ⟨k0, k1, k2, k3, k4, k5, k6, k7, k8, k9, k10, k11, k12, k13, by have := (HD8.out.below hb).1.2.2.2.2.1; rw [← HWD.out] at this; exact this, by rw [HLJ.out]; exact HLC.out j hlt W (HB8.out.trans (hb.mono HB8.out.size)), by rw [HL1.out]; exact HLC.out j1 hmo W (HB8.out.trans (hb.mono HB8.out.size))⟩)
                dsimp only at HKEEP
                have HE := Lib.hid (show fillK labs L O (j + 1) = putM R0 (j : Int) cx true by
                  have hw : wideAt labs d j = true := by simp only [wideAt, ← HWD.out, ← HN.out, ← HJ1.out, ← HLJ.out, ← HL1.out]; rw [decide_eq_true hmo, HQ1.out]; rfl
                  rw [HGO.out, hw, HCX.out, HLJ.out])
                have hfit : j + (if true = true then 2 else 1) ≤ R0.length := by rw [HI.out.1, ← HN.out]; have := HJ1.out; simp; omega
                have CP := Lib.hid (show ∀ W, Below w8.heap.size w8 W → Calls Try.prog 56 #[.slice (some ⟨g, 0, none⟩) k xc, .int .i64 (j : Nat), celV cx, .bool true] W (OwnOut W (putM R0 (j : Int) cx true)) from fun W hb => rput_in W _ R0 j cx true (HR8.out.below hb).row HI.out.2.1 hfit (by rw [HI.out.1, ← HN.out]; omega))
                clear hfit HGO
                refine wp_region_held_drew (S := fun w' => w'.cell? ⟨y, 0, none⟩ = some (.int .i32 cx.ru) ∧ w'.cell? ⟨y, 1, none⟩ = some (.int .i32 cx.m0) ∧ w'.cell? ⟨y, 2, none⟩ = some (.int .i32 cx.m1) ∧ w'.cell? ⟨y, 3, none⟩ = some (.int .u8 cx.k) ∧ w'.cell? ⟨y, 4, none⟩ = some (.int .u8 cx.a.fg.k) ∧ w'.cell? ⟨y, 5, none⟩ = some (.int .u8 cx.a.fg.r) ∧ w'.cell? ⟨y, 6, none⟩ = some (.int .u8 cx.a.fg.g) ∧ w'.cell? ⟨y, 7, none⟩ = some (.int .u8 cx.a.fg.b) ∧ w'.cell? ⟨y, 8, none⟩ = some (.int .u8 cx.a.bg.k) ∧ w'.cell? ⟨y, 9, none⟩ = some (.int .u8 cx.a.bg.r) ∧ w'.cell? ⟨y, 10, none⟩ = some (.int .u8 cx.a.bg.g) ∧ w'.cell? ⟨y, 11, none⟩ = some (.int .u8 cx.a.bg.b) ∧ w'.cell? ⟨y, 12, none⟩ = some (.int .u16 (cx.a.fl : Nat)) ∧ w'.cell? ⟨y, 13, none⟩ = some (.int .u8 cx.l) ∧ w'.cell? ⟨z, 3, none⟩ = some (.bool true) ∧ w'.cell? ⟨gl, j, none⟩ = some (.int .u8 lj) ∧ w'.cell? ⟨gl, j1, none⟩ = some (.int .u8 l1)) (by as_aux_lemma => kernel_rfl) ?_ (fun hHeld => ?_)
                · exact HKEEP.out _ (⟨rfl, rfl, rfl, Nat.le_refl _, fun _ _ => rfl⟩)
                obtain ⟨u0, hu0⟩ : ∃ u0, u0 = w8.drew := ⟨_, rfl⟩
                have HX := Lib.hid (show Below w8.heap.size w8 u0 by rw [hu0]; exact ⟨rfl, rfl, rfl, Nat.le_refl _, fun _ _ => rfl⟩)
                replace hHeld := HKEEP.out _ HX.out
                rw [← hu0]
                clear hu0
                refine take_at (i := 0) (v := ?_) rfl (by as_aux_lemma => kernel_rfl) (by as_aux_lemma => kernel_rfl) (by as_aux_lemma => kernel_rfl) (fun _ _ _ h => h) (by as_aux_lemma => kernel_rfl) (by assumption) ?_ ?_
                rotate_left
                · (intro w hSw; (try dsimp only at hSw); go_simp; try with_reducible rfl)
                go_frame
                refine take_at (i := 1) (v := ?_) rfl (by as_aux_lemma => kernel_rfl) (by as_aux_lemma => kernel_rfl) (by as_aux_lemma => kernel_rfl) (fun _ _ _ h => h) (by as_aux_lemma => kernel_rfl) (by assumption) ?_ ?_
                rotate_left
                · (intro w hSw; (try dsimp only at hSw); go_simp; try with_reducible rfl)
                go_frame
                refine take_at (i := 2) (v := ?_) rfl (by as_aux_lemma => kernel_rfl) (by as_aux_lemma => kernel_rfl) (by as_aux_lemma => kernel_rfl) (fun _ _ _ h => h) (by as_aux_lemma => kernel_rfl) (by assumption) ?_ ?_
                rotate_left
                · (intro w hSw; (try dsimp only at hSw); go_simp; try with_reducible rfl)
                go_frame
                refine take_at (i := 3) (v := ?_) rfl (by as_aux_lemma => kernel_rfl) (by as_aux_lemma => kernel_rfl) (by as_aux_lemma => kernel_rfl) (fun _ _ _ h => h) (by as_aux_lemma => kernel_rfl) (by assumption) ?_ ?_
                rotate_left
                · (intro w hSw; (try dsimp only at hSw); go_simp; try with_reducible rfl)
                go_frame
                refine take_at (i := 4) (v := ?_) rfl (by as_aux_lemma => kernel_rfl) (by as_aux_lemma => kernel_rfl) (by as_aux_lemma => kernel_rfl) (fun _ _ _ h => h) (by as_aux_lemma => kernel_rfl) (by assumption) ?_ ?_
                rotate_left
                · (intro w hSw; (try dsimp only at hSw); go_simp; try with_reducible rfl)
                go_frame
                refine take_at (i := 5) (v := ?_) rfl (by as_aux_lemma => kernel_rfl) (by as_aux_lemma => kernel_rfl) (by as_aux_lemma => kernel_rfl) (fun _ _ _ h => h) (by as_aux_lemma => kernel_rfl) (by assumption) ?_ ?_
                rotate_left
                · (intro w hSw; (try dsimp only at hSw); go_simp; try with_reducible rfl)
                go_frame
                refine take_at (i := 6) (v := ?_) rfl (by as_aux_lemma => kernel_rfl) (by as_aux_lemma => kernel_rfl) (by as_aux_lemma => kernel_rfl) (fun _ _ _ h => h) (by as_aux_lemma => kernel_rfl) (by assumption) ?_ ?_
                rotate_left
                · (intro w hSw; (try dsimp only at hSw); go_simp; try with_reducible rfl)
                go_frame
                refine take_at (i := 7) (v := ?_) rfl (by as_aux_lemma => kernel_rfl) (by as_aux_lemma => kernel_rfl) (by as_aux_lemma => kernel_rfl) (fun _ _ _ h => h) (by as_aux_lemma => kernel_rfl) (by assumption) ?_ ?_
                rotate_left
                · (intro w hSw; (try dsimp only at hSw); go_simp; try with_reducible rfl)
                go_frame
                refine take_at (i := 8) (v := ?_) rfl (by as_aux_lemma => kernel_rfl) (by as_aux_lemma => kernel_rfl) (by as_aux_lemma => kernel_rfl) (fun _ _ _ h => h) (by as_aux_lemma => kernel_rfl) (by assumption) ?_ ?_
                rotate_left
                · (intro w hSw; (try dsimp only at hSw); go_simp; try with_reducible rfl)
                go_frame
                refine take_at (i := 9) (v := ?_) rfl (by as_aux_lemma => kernel_rfl) (by as_aux_lemma => kernel_rfl) (by as_aux_lemma => kernel_rfl) (fun _ _ _ h => h) (by as_aux_lemma => kernel_rfl) (by assumption) ?_ ?_
                rotate_left
                · (intro w hSw; (try dsimp only at hSw); go_simp; try with_reducible rfl)
                go_frame
                refine take_at (i := 10) (v := ?_) rfl (by as_aux_lemma => kernel_rfl) (by as_aux_lemma => kernel_rfl) (by as_aux_lemma => kernel_rfl) (fun _ _ _ h => h) (by as_aux_lemma => kernel_rfl) (by assumption) ?_ ?_
                rotate_left
                · (intro w hSw; (try dsimp only at hSw); go_simp; try with_reducible rfl)
                go_frame
                refine take_at (i := 11) (v := ?_) rfl (by as_aux_lemma => kernel_rfl) (by as_aux_lemma => kernel_rfl) (by as_aux_lemma => kernel_rfl) (fun _ _ _ h => h) (by as_aux_lemma => kernel_rfl) (by assumption) ?_ ?_
                rotate_left
                · (intro w hSw; (try dsimp only at hSw); go_simp; try with_reducible rfl)
                go_frame
                refine take_at (i := 12) (v := ?_) rfl (by as_aux_lemma => kernel_rfl) (by as_aux_lemma => kernel_rfl) (by as_aux_lemma => kernel_rfl) (fun _ _ _ h => h) (by as_aux_lemma => kernel_rfl) (by assumption) ?_ ?_
                rotate_left
                · (intro w hSw; (try dsimp only at hSw); go_simp; try with_reducible rfl)
                go_frame
                refine take_at (i := 13) (v := ?_) rfl (by as_aux_lemma => kernel_rfl) (by as_aux_lemma => kernel_rfl) (by as_aux_lemma => kernel_rfl) (fun _ _ _ h => h) (by as_aux_lemma => kernel_rfl) (by assumption) ?_ ?_
                rotate_left
                · (intro w hSw; (try dsimp only at hSw); go_simp; try with_reducible rfl)
                go_frame
                refine take_at (i := 14) (v := ?_) rfl (by as_aux_lemma => kernel_rfl) (by as_aux_lemma => kernel_rfl) (by as_aux_lemma => kernel_rfl) (fun _ _ _ h => h) (by as_aux_lemma => kernel_rfl) (by assumption) ?_ ?_
                rotate_left
                · (intro w hSw; (try dsimp only at hSw); go_simp; try with_reducible rfl)
                go_frame
                refine take_at (i := 15) (v := ?_) rfl (by as_aux_lemma => kernel_rfl) (by as_aux_lemma => kernel_rfl) (by as_aux_lemma => kernel_rfl) (fun _ _ _ h => h) (by as_aux_lemma => kernel_rfl) (by assumption) ?_ ?_
                rotate_left
                · (intro w hSw; (try dsimp only at hSw); go_simp; try with_reducible rfl)
                go_frame
                refine take_at (i := 16) (v := ?_) rfl (by as_aux_lemma => kernel_rfl) (by as_aux_lemma => kernel_rfl) (by as_aux_lemma => kernel_rfl) (fun _ _ _ h => h) (by as_aux_lemma => kernel_rfl) (by assumption) ?_ ?_
                rotate_left
                · (intro w hSw; (try dsimp only at hSw); go_simp; try with_reducible rfl)
                go_frame
                refine take_at (i := 17) (v := ?_) rfl (by as_aux_lemma => kernel_rfl) (by as_aux_lemma => kernel_rfl) (by as_aux_lemma => kernel_rfl) (fun _ _ _ h => h) (by as_aux_lemma => kernel_rfl) (by assumption) ?_ ?_
                rotate_left
                · (intro w hSw; (try dsimp only at hSw); go_simp; try with_reducible rfl)
                go_frame
                refine take_at (i := 18) (v := ?_) rfl (by as_aux_lemma => kernel_rfl) (by as_aux_lemma => kernel_rfl) (by as_aux_lemma => kernel_rfl) (fun _ _ _ h => h) (by as_aux_lemma => kernel_rfl) (by assumption) ?_ ?_
                rotate_left
                · (intro w hSw; (try dsimp only at hSw); go_simp; try with_reducible rfl)
                go_frame
                refine take_at (i := 19) (v := ?_) rfl (by as_aux_lemma => kernel_rfl) (by as_aux_lemma => kernel_rfl) (by as_aux_lemma => kernel_rfl) (fun _ _ _ h => h) (by as_aux_lemma => kernel_rfl) (by assumption) ?_ ?_
                rotate_left
                · (intro w hSw; (try dsimp only at hSw); go_simp; try with_reducible rfl)
                go_frame
                refine take_at (i := 20) (v := ?_) rfl (by as_aux_lemma => kernel_rfl) (by as_aux_lemma => kernel_rfl) (by as_aux_lemma => kernel_rfl) (fun _ _ _ h => h) (by as_aux_lemma => kernel_rfl) (by assumption) ?_ ?_
                rotate_left
                · (intro w hSw; (try dsimp only at hSw); go_simp; try with_reducible rfl)
                go_frame
                refine take_at (i := 21) (v := ?_) rfl (by as_aux_lemma => kernel_rfl) (by as_aux_lemma => kernel_rfl) (by as_aux_lemma => kernel_rfl) (fun _ _ _ h => h) (by as_aux_lemma => kernel_rfl) (by assumption) ?_ ?_
                rotate_left
                · (intro w hSw; (try dsimp only at hSw); go_simp; try with_reducible rfl)
                go_frame
                refine take_at (i := 22) (v := ?_) rfl (by as_aux_lemma => kernel_rfl) (by as_aux_lemma => kernel_rfl) (by as_aux_lemma => kernel_rfl) (fun _ _ _ h => h) (by as_aux_lemma => kernel_rfl) (by assumption) ?_ ?_
                rotate_left
                · (intro w hSw; (try dsimp only at hSw); go_simp; try with_reducible rfl)
                go_frame
                refine take_at (i := 23) (v := ?_) rfl (by as_aux_lemma => kernel_rfl) (by as_aux_lemma => kernel_rfl) (by as_aux_lemma => kernel_rfl) (fun _ _ _ h => h) (by as_aux_lemma => kernel_rfl) (by assumption) ?_ ?_
                rotate_left
                · (intro w hSw; (try dsimp only at hSw); go_simp; try with_reducible rfl)
                go_frame
                refine do_at (i := 24) rfl (by as_aux_lemma => kernel_rfl) (by as_aux_lemma => kernel_rfl) (fun K hK => ?_)
                go_simp
                refine (CP.out _ HX.out).mono ?_
                rintro e w9 ⟨r9, rfl, R9, _, bb⟩
                have HX2 := Lib.hid (HX.out.trans (bb.mono HX.out.size))
                have HRN := Lib.hid (R9.lower (Nat.le_trans HB8.out.size HX.out.size))
                clear bb R9 HX
                go_wp2_with fail
                refine hK.out _ _ ?_ (fun hHeld => ?_)
                · exact HKEEP.out _ HX2.out
                clear hK K
                try go_frame
                refine take_at (i := 25) (v := ?_) rfl (by as_aux_lemma => kernel_rfl) (by as_aux_lemma => kernel_rfl) (by as_aux_lemma => kernel_rfl) (fun _ _ _ h => h) (by as_aux_lemma => kernel_rfl) (by assumption) ?_ ?_
                rotate_left
                · (intro w hSw; (try dsimp only at hSw); go_simp; try with_reducible rfl)
                go_frame
                refine wpAnyH_done (by as_aux_lemma => kernel_rfl) ?_ _
                have HBN := Lib.hid (HB8.out.trans (HX2.out.mono HB8.out.size))
                clear HX2 hHeld HKEEP CP HR8 HB8 HD8 HY8
                go_wp2
                go_roundg (k - j1)
                case rel => exact ⟨j1, rfl, by have := HJ1.out; omega, Nat.le_refl _, .inr hmp, by rw [HJ1.out, HE.out]; exact HRN, HBN⟩
                case measure => have := HJ1.out; omega
              · have p1 : (l1 == lj) = false := by simp [hq1]
                have HQ1 := Lib.hid p1
                clear hq1
                have HKEEP := Lib.hid (show ∀ W, Below w8.heap.size w8 W → (fun w' => w'.cell? ⟨y, 0, none⟩ = some (.int .i32 cx.ru) ∧ w'.cell? ⟨y, 1, none⟩ = some (.int .i32 cx.m0) ∧ w'.cell? ⟨y, 2, none⟩ = some (.int .i32 cx.m1) ∧ w'.cell? ⟨y, 3, none⟩ = some (.int .u8 cx.k) ∧ w'.cell? ⟨y, 4, none⟩ = some (.int .u8 cx.a.fg.k) ∧ w'.cell? ⟨y, 5, none⟩ = some (.int .u8 cx.a.fg.r) ∧ w'.cell? ⟨y, 6, none⟩ = some (.int .u8 cx.a.fg.g) ∧ w'.cell? ⟨y, 7, none⟩ = some (.int .u8 cx.a.fg.b) ∧ w'.cell? ⟨y, 8, none⟩ = some (.int .u8 cx.a.bg.k) ∧ w'.cell? ⟨y, 9, none⟩ = some (.int .u8 cx.a.bg.r) ∧ w'.cell? ⟨y, 10, none⟩ = some (.int .u8 cx.a.bg.g) ∧ w'.cell? ⟨y, 11, none⟩ = some (.int .u8 cx.a.bg.b) ∧ w'.cell? ⟨y, 12, none⟩ = some (.int .u16 (cx.a.fl : Nat)) ∧ w'.cell? ⟨y, 13, none⟩ = some (.int .u8 cx.l) ∧ w'.cell? ⟨z, 3, none⟩ = some (.bool true) ∧ w'.cell? ⟨gl, j, none⟩ = some (.int .u8 lj) ∧ w'.cell? ⟨gl, j1, none⟩ = some (.int .u8 l1)) W from fun W hb => by
                  obtain ⟨k0, k1, k2, k3, k4, k5, k6, k7, k8, k9, k10, k11, k12, k13⟩ := (HY8.out.below hb).2.1
                  exact ⟨k0, k1, k2, k3, k4, k5, k6, k7, k8, k9, k10, k11, k12, k13, by have := (HD8.out.below hb).1.2.2.2.2.1; rw [← HWD.out] at this; exact this, by rw [HLJ.out]; exact HLC.out j hlt W (HB8.out.trans (hb.mono HB8.out.size)), by rw [HL1.out]; exact HLC.out j1 hmo W (HB8.out.trans (hb.mono HB8.out.size))⟩)
                dsimp only at HKEEP
                have HE := Lib.hid (show fillK labs L O (j + 1) = putM R0 (j : Int) cx false by
                  have hw : wideAt labs d j = false := by simp only [wideAt, ← HWD.out, ← HN.out, ← HJ1.out, ← HLJ.out, ← HL1.out]; rw [decide_eq_true hmo, HQ1.out]; rfl
                  rw [HGO.out, hw, HCX.out, HLJ.out])
                have hfit : j + (if false = true then 2 else 1) ≤ R0.length := by rw [HI.out.1, ← HN.out]; have := HJ1.out; simp; omega
                have CP := Lib.hid (show ∀ W, Below w8.heap.size w8 W → Calls Try.prog 56 #[.slice (some ⟨g, 0, none⟩) k xc, .int .i64 (j : Nat), celV cx, .bool false] W (OwnOut W (putM R0 (j : Int) cx false)) from fun W hb => rput_in W _ R0 j cx false (HR8.out.below hb).row HI.out.2.1 hfit (by rw [HI.out.1, ← HN.out]; omega))
                clear hfit HGO
                refine wp_region_held_drew (S := fun w' => w'.cell? ⟨y, 0, none⟩ = some (.int .i32 cx.ru) ∧ w'.cell? ⟨y, 1, none⟩ = some (.int .i32 cx.m0) ∧ w'.cell? ⟨y, 2, none⟩ = some (.int .i32 cx.m1) ∧ w'.cell? ⟨y, 3, none⟩ = some (.int .u8 cx.k) ∧ w'.cell? ⟨y, 4, none⟩ = some (.int .u8 cx.a.fg.k) ∧ w'.cell? ⟨y, 5, none⟩ = some (.int .u8 cx.a.fg.r) ∧ w'.cell? ⟨y, 6, none⟩ = some (.int .u8 cx.a.fg.g) ∧ w'.cell? ⟨y, 7, none⟩ = some (.int .u8 cx.a.fg.b) ∧ w'.cell? ⟨y, 8, none⟩ = some (.int .u8 cx.a.bg.k) ∧ w'.cell? ⟨y, 9, none⟩ = some (.int .u8 cx.a.bg.r) ∧ w'.cell? ⟨y, 10, none⟩ = some (.int .u8 cx.a.bg.g) ∧ w'.cell? ⟨y, 11, none⟩ = some (.int .u8 cx.a.bg.b) ∧ w'.cell? ⟨y, 12, none⟩ = some (.int .u16 (cx.a.fl : Nat)) ∧ w'.cell? ⟨y, 13, none⟩ = some (.int .u8 cx.l) ∧ w'.cell? ⟨z, 3, none⟩ = some (.bool true) ∧ w'.cell? ⟨gl, j, none⟩ = some (.int .u8 lj) ∧ w'.cell? ⟨gl, j1, none⟩ = some (.int .u8 l1)) (by as_aux_lemma => kernel_rfl) ?_ (fun hHeld => ?_)
                · exact HKEEP.out _ (⟨rfl, rfl, rfl, Nat.le_refl _, fun _ _ => rfl⟩)
                obtain ⟨u0, hu0⟩ : ∃ u0, u0 = w8.drew := ⟨_, rfl⟩
                have HX := Lib.hid (show Below w8.heap.size w8 u0 by rw [hu0]; exact ⟨rfl, rfl, rfl, Nat.le_refl _, fun _ _ => rfl⟩)
                replace hHeld := HKEEP.out _ HX.out
                rw [← hu0]
                clear hu0
                refine take_at (i := 0) (v := ?_) rfl (by as_aux_lemma => kernel_rfl) (by as_aux_lemma => kernel_rfl) (by as_aux_lemma => kernel_rfl) (fun _ _ _ h => h) (by as_aux_lemma => kernel_rfl) (by assumption) ?_ ?_
                rotate_left
                · (intro w hSw; (try dsimp only at hSw); go_simp; try with_reducible rfl)
                go_frame
                refine take_at (i := 1) (v := ?_) rfl (by as_aux_lemma => kernel_rfl) (by as_aux_lemma => kernel_rfl) (by as_aux_lemma => kernel_rfl) (fun _ _ _ h => h) (by as_aux_lemma => kernel_rfl) (by assumption) ?_ ?_
                rotate_left
                · (intro w hSw; (try dsimp only at hSw); go_simp; try with_reducible rfl)
                go_frame
                refine take_at (i := 2) (v := ?_) rfl (by as_aux_lemma => kernel_rfl) (by as_aux_lemma => kernel_rfl) (by as_aux_lemma => kernel_rfl) (fun _ _ _ h => h) (by as_aux_lemma => kernel_rfl) (by assumption) ?_ ?_
                rotate_left
                · (intro w hSw; (try dsimp only at hSw); go_simp; try with_reducible rfl)
                go_frame
                refine take_at (i := 3) (v := ?_) rfl (by as_aux_lemma => kernel_rfl) (by as_aux_lemma => kernel_rfl) (by as_aux_lemma => kernel_rfl) (fun _ _ _ h => h) (by as_aux_lemma => kernel_rfl) (by assumption) ?_ ?_
                rotate_left
                · (intro w hSw; (try dsimp only at hSw); go_simp; try with_reducible rfl)
                go_frame
                refine take_at (i := 4) (v := ?_) rfl (by as_aux_lemma => kernel_rfl) (by as_aux_lemma => kernel_rfl) (by as_aux_lemma => kernel_rfl) (fun _ _ _ h => h) (by as_aux_lemma => kernel_rfl) (by assumption) ?_ ?_
                rotate_left
                · (intro w hSw; (try dsimp only at hSw); go_simp; try with_reducible rfl)
                go_frame
                refine take_at (i := 5) (v := ?_) rfl (by as_aux_lemma => kernel_rfl) (by as_aux_lemma => kernel_rfl) (by as_aux_lemma => kernel_rfl) (fun _ _ _ h => h) (by as_aux_lemma => kernel_rfl) (by assumption) ?_ ?_
                rotate_left
                · (intro w hSw; (try dsimp only at hSw); go_simp; try with_reducible rfl)
                go_frame
                refine take_at (i := 6) (v := ?_) rfl (by as_aux_lemma => kernel_rfl) (by as_aux_lemma => kernel_rfl) (by as_aux_lemma => kernel_rfl) (fun _ _ _ h => h) (by as_aux_lemma => kernel_rfl) (by assumption) ?_ ?_
                rotate_left
                · (intro w hSw; (try dsimp only at hSw); go_simp; try with_reducible rfl)
                go_frame
                refine take_at (i := 7) (v := ?_) rfl (by as_aux_lemma => kernel_rfl) (by as_aux_lemma => kernel_rfl) (by as_aux_lemma => kernel_rfl) (fun _ _ _ h => h) (by as_aux_lemma => kernel_rfl) (by assumption) ?_ ?_
                rotate_left
                · (intro w hSw; (try dsimp only at hSw); go_simp; try with_reducible rfl)
                go_frame
                refine take_at (i := 8) (v := ?_) rfl (by as_aux_lemma => kernel_rfl) (by as_aux_lemma => kernel_rfl) (by as_aux_lemma => kernel_rfl) (fun _ _ _ h => h) (by as_aux_lemma => kernel_rfl) (by assumption) ?_ ?_
                rotate_left
                · (intro w hSw; (try dsimp only at hSw); go_simp; try with_reducible rfl)
                go_frame
                refine take_at (i := 9) (v := ?_) rfl (by as_aux_lemma => kernel_rfl) (by as_aux_lemma => kernel_rfl) (by as_aux_lemma => kernel_rfl) (fun _ _ _ h => h) (by as_aux_lemma => kernel_rfl) (by assumption) ?_ ?_
                rotate_left
                · (intro w hSw; (try dsimp only at hSw); go_simp; try with_reducible rfl)
                go_frame
                refine take_at (i := 10) (v := ?_) rfl (by as_aux_lemma => kernel_rfl) (by as_aux_lemma => kernel_rfl) (by as_aux_lemma => kernel_rfl) (fun _ _ _ h => h) (by as_aux_lemma => kernel_rfl) (by assumption) ?_ ?_
                rotate_left
                · (intro w hSw; (try dsimp only at hSw); go_simp; try with_reducible rfl)
                go_frame
                refine take_at (i := 11) (v := ?_) rfl (by as_aux_lemma => kernel_rfl) (by as_aux_lemma => kernel_rfl) (by as_aux_lemma => kernel_rfl) (fun _ _ _ h => h) (by as_aux_lemma => kernel_rfl) (by assumption) ?_ ?_
                rotate_left
                · (intro w hSw; (try dsimp only at hSw); go_simp; try with_reducible rfl)
                go_frame
                refine take_at (i := 12) (v := ?_) rfl (by as_aux_lemma => kernel_rfl) (by as_aux_lemma => kernel_rfl) (by as_aux_lemma => kernel_rfl) (fun _ _ _ h => h) (by as_aux_lemma => kernel_rfl) (by assumption) ?_ ?_
                rotate_left
                · (intro w hSw; (try dsimp only at hSw); go_simp; try with_reducible rfl)
                go_frame
                refine take_at (i := 13) (v := ?_) rfl (by as_aux_lemma => kernel_rfl) (by as_aux_lemma => kernel_rfl) (by as_aux_lemma => kernel_rfl) (fun _ _ _ h => h) (by as_aux_lemma => kernel_rfl) (by assumption) ?_ ?_
                rotate_left
                · (intro w hSw; (try dsimp only at hSw); go_simp; try with_reducible rfl)
                go_frame
                refine take_at (i := 14) (v := ?_) rfl (by as_aux_lemma => kernel_rfl) (by as_aux_lemma => kernel_rfl) (by as_aux_lemma => kernel_rfl) (fun _ _ _ h => h) (by as_aux_lemma => kernel_rfl) (by assumption) ?_ ?_
                rotate_left
                · (intro w hSw; (try dsimp only at hSw); go_simp; try with_reducible rfl)
                go_frame
                refine take_at (i := 15) (v := ?_) rfl (by as_aux_lemma => kernel_rfl) (by as_aux_lemma => kernel_rfl) (by as_aux_lemma => kernel_rfl) (fun _ _ _ h => h) (by as_aux_lemma => kernel_rfl) (by assumption) ?_ ?_
                rotate_left
                · (intro w hSw; (try dsimp only at hSw); go_simp; try with_reducible rfl)
                go_frame
                refine take_at (i := 16) (v := ?_) rfl (by as_aux_lemma => kernel_rfl) (by as_aux_lemma => kernel_rfl) (by as_aux_lemma => kernel_rfl) (fun _ _ _ h => h) (by as_aux_lemma => kernel_rfl) (by assumption) ?_ ?_
                rotate_left
                · (intro w hSw; (try dsimp only at hSw); go_simp; try with_reducible rfl)
                go_frame
                refine take_at (i := 17) (v := ?_) rfl (by as_aux_lemma => kernel_rfl) (by as_aux_lemma => kernel_rfl) (by as_aux_lemma => kernel_rfl) (fun _ _ _ h => h) (by as_aux_lemma => kernel_rfl) (by assumption) ?_ ?_
                rotate_left
                · (intro w hSw; (try dsimp only at hSw); go_simp; try with_reducible rfl)
                go_frame
                refine take_at (i := 18) (v := ?_) rfl (by as_aux_lemma => kernel_rfl) (by as_aux_lemma => kernel_rfl) (by as_aux_lemma => kernel_rfl) (fun _ _ _ h => h) (by as_aux_lemma => kernel_rfl) (by assumption) ?_ ?_
                rotate_left
                · (intro w hSw; (try dsimp only at hSw); go_simp; try with_reducible rfl)
                go_frame
                refine take_at (i := 19) (v := ?_) rfl (by as_aux_lemma => kernel_rfl) (by as_aux_lemma => kernel_rfl) (by as_aux_lemma => kernel_rfl) (fun _ _ _ h => h) (by as_aux_lemma => kernel_rfl) (by assumption) ?_ ?_
                rotate_left
                · (intro w hSw; (try dsimp only at hSw); go_simp; try with_reducible rfl)
                go_frame
                refine take_at (i := 20) (v := ?_) rfl (by as_aux_lemma => kernel_rfl) (by as_aux_lemma => kernel_rfl) (by as_aux_lemma => kernel_rfl) (fun _ _ _ h => h) (by as_aux_lemma => kernel_rfl) (by assumption) ?_ ?_
                rotate_left
                · (intro w hSw; (try dsimp only at hSw); go_simp; try with_reducible rfl)
                go_frame
                refine take_at (i := 21) (v := ?_) rfl (by as_aux_lemma => kernel_rfl) (by as_aux_lemma => kernel_rfl) (by as_aux_lemma => kernel_rfl) (fun _ _ _ h => h) (by as_aux_lemma => kernel_rfl) (by assumption) ?_ ?_
                rotate_left
                · (intro w hSw; (try dsimp only at hSw); go_simp; try with_reducible rfl)
                go_frame
                refine take_at (i := 22) (v := ?_) rfl (by as_aux_lemma => kernel_rfl) (by as_aux_lemma => kernel_rfl) (by as_aux_lemma => kernel_rfl) (fun _ _ _ h => h) (by as_aux_lemma => kernel_rfl) (by assumption) ?_ ?_
                rotate_left
                · (intro w hSw; (try dsimp only at hSw); go_simp; try with_reducible rfl)
                go_frame
                refine take_at (i := 23) (v := ?_) rfl (by as_aux_lemma => kernel_rfl) (by as_aux_lemma => kernel_rfl) (by as_aux_lemma => kernel_rfl) (fun _ _ _ h => h) (by as_aux_lemma => kernel_rfl) (by assumption) ?_ ?_
                rotate_left
                · (intro w hSw; (try dsimp only at hSw); go_simp; try with_reducible rfl)
                go_frame
                refine do_at (i := 24) rfl (by as_aux_lemma => kernel_rfl) (by as_aux_lemma => kernel_rfl) (fun K hK => ?_)
                go_simp
                refine (CP.out _ HX.out).mono ?_
                rintro e w9 ⟨r9, rfl, R9, _, bb⟩
                have HX2 := Lib.hid (HX.out.trans (bb.mono HX.out.size))
                have HRN := Lib.hid (R9.lower (Nat.le_trans HB8.out.size HX.out.size))
                clear bb R9 HX
                go_wp2_with fail
                refine hK.out _ _ ?_ (fun hHeld => ?_)
                · exact HKEEP.out _ HX2.out
                clear hK K
                try go_frame
                refine take_at (i := 25) (v := ?_) rfl (by as_aux_lemma => kernel_rfl) (by as_aux_lemma => kernel_rfl) (by as_aux_lemma => kernel_rfl) (fun _ _ _ h => h) (by as_aux_lemma => kernel_rfl) (by assumption) ?_ ?_
                rotate_left
                · (intro w hSw; (try dsimp only at hSw); go_simp; try with_reducible rfl)
                go_frame
                refine wpAnyH_done (by as_aux_lemma => kernel_rfl) ?_ _
                have HBN := Lib.hid (HB8.out.trans (HX2.out.mono HB8.out.size))
                clear HX2 hHeld HKEEP CP HR8 HB8 HD8 HY8
                go_wp2
                go_roundg (k - j1)
                case rel => exact ⟨j1, rfl, by have := HJ1.out; omega, Nat.le_refl _, .inr hmp, by rw [HJ1.out, HE.out]; exact HRN, HBN⟩
                case measure => have := HJ1.out; omega
          · have o1 : ¬ 0 < m' := ho
            go_upto_region 12 with (fail)
            have HPK := Lib.hid (show pickD labs L O j = d0 from by unfold pickD; rw [if_neg (by rintro ⟨_, e⟩; exact ho (by rw [HM'.out]; exact e)), ← HM.out, ← HSE.out, HD0.out])
            obtain ⟨d, hde⟩ : ∃ d, d = d0 := ⟨_, rfl⟩
            rw [← hde] at HPK
            have HDZ := Lib.hid (show DW wb z d by rw [hde]; exact HZ.out)
            have HOK := Lib.hid (show d.ok by rw [hde]; exact HDO.out)
            clear hde
            have hj14 : j < R0.length := by rw [HI.out.1, ← HN.out]; exact hlt
            have HC := Lib.hid (HRB.out.at hj14)
            obtain ⟨⟨_, x0, x1, x2, x3, x4⟩, _⟩ := HDZ.out
            obtain ⟨q, hq⟩ : ∃ q, q = d.ru % 5 := ⟨_, rfl⟩
            have HQ := Lib.hid hq
            have q1 : (d.ru : Int).tmod 5 = (q : Int) := by rw [Int.tmod_eq_emod_of_nonneg (by omega)]; omega
            have q2 : (d.ru : Int) % 5 = (q : Int) := by omega
            have q3 : q < 5 := by omega
            have q4 : IntKind.u8.wrap (q : Int) = (q : Int) := by rw [IntKind.wrap_u8]; omega
            clear hq
            by_cases hq4 : q = 4
            · have HE := Lib.hid (show fillK labs L O (j + 1) = R0 by rw [fillK_succ, ← HR0.out]; unfold stepF putD; rw [HPK.out, if_pos (.inl (by rw [← HQ.out]; exact hq4))])
              clear x1 x2 x3 x4 HC
              have q5 : ((q : Int) == 4) = true := by simp; omega
              clear q3 hq4
              go_wp2
              go_roundg (k - (j + 1))
              case rel => exact ⟨j + 1, by go_num, by omega, Nat.le_refl _, .inr hmp, by rw [HE.out]; exact HRB, HBB⟩
              case measure => omega
            have q5 : ((q : Int) == 4) = false := by simp; omega
            obtain ⟨ck, hck⟩ : ∃ c, c = gc R0 j := ⟨_, rfl⟩
            have HCK := Lib.hid hck
            rw [← hck] at HC
            have c3 := HC.out.2.2.2.1
            clear hck
            by_cases hk2 : ck.k = 2
            · have c4 : (ck.k == 2) = true := by simp [hk2]
              have HE := Lib.hid (show fillK labs L O (j + 1) = R0 by rw [fillK_succ, ← HR0.out]; unfold stepF putD; rw [HPK.out, if_pos (.inr (by rw [← HCK.out]; exact hk2))])
              clear x1 x2 x3 x4 HC
              clear hk2 hq4 q3
              go_wp2
              go_roundg (k - (j + 1))
              case rel => exact ⟨j + 1, by go_num, by omega, Nat.le_refl _, .inr hmp, by rw [HE.out]; exact HRB, HBB⟩
              case measure => omega
            have c4 : (ck.k == 2) = false := by simp [hk2]
            have HGO := Lib.hid (show fillK labs L O (j + 1) = putM R0 (j : Int) { celD d with l := labs.getD j 0 } (wideAt labs d j) by
              rw [fillK_succ, ← HR0.out]
              unfold stepF putD
              rw [HPK.out, if_neg]
              rintro (e | e)
              · exact hq4 (by rw [HQ.out]; exact e)
              · exact hk2 (by rw [HCK.out]; exact e))
            clear hk2 hq4
            have CC := Lib.hid (fun X => rcell_any X d HOK.out)
            go_upto_region 13 with (fail)
            clear q1 q2 q3 q4 q5 c3 c4
            go_wp2_with fail
            refine (CC.out _).mono ?_
            rintro e w5 ⟨rfl, bb⟩
            have HDZ5 := Lib.hid (HDZ.out.below bb)
            have HR5 := Lib.hid (HRB.out.below bb)
            have HB5 := Lib.hid (HBB.out.trans (bb.mono HBB.out.size))
            clear bb CC HC HDZ x0 x1 x2 x3 x4
            obtain ⟨cd, hcd⟩ : ∃ c, c = celD d := ⟨_, rfl⟩
            rw [← hcd] at HGO ⊢
            obtain ⟨y, hy⟩ : ∃ y, y = w5.heap.size := ⟨_, rfl⟩
            obtain ⟨w7, hw7⟩ : ∃ x, x = w5.alloc (.cells #[.int .i32 cd.ru, .int .i32 cd.m0, .int .i32 cd.m1, .int .u8 cd.k, .int .u8 cd.a.fg.k, .int .u8 cd.a.fg.r, .int .u8 cd.a.fg.g, .int .u8 cd.a.fg.b, .int .u8 cd.a.bg.k, .int .u8 cd.a.bg.r, .int .u8 cd.a.bg.g, .int .u8 cd.a.bg.b, .int .u16 (cd.a.fl : Nat), .int .u8 cd.l] 47) := ⟨_, rfl⟩
            have b7 : Below w5.heap.size w5 w7 := by rw [hw7]; exact (Below.refl _ _).alloc (Nat.le_refl _) _
            have HY7 := Lib.hid (show BAt w7 y cd by rw [hw7]; exact BAt.newAt w5 _ hy cd _)
            have HB7 := Lib.hid (show Below w.heap.size w w7 from HB5.out.trans (b7.mono HB5.out.size))
            obtain ⟨w8, hw8⟩ : ∃ x, x = w7.setCell ⟨y, 13, none⟩ (.int .u8 lj) := ⟨_, rfl⟩
            obtain ⟨cx, hcx⟩ : ∃ c, c = ({ cd with l := lj } : Cel) := ⟨_, rfl⟩
            have HY8 := Lib.hid (show BAt w8 y cx by rw [hw8, hcx]; exact HY7.out.lab lj)
            have HCX := Lib.hid hcx
            have hyy : y ≠ g ∧ y ≠ z ∧ w.heap.size ≤ y := by
              have h1 := HDZ5.out.1.1
              have h2 := HZG.out
              have h3 := HZB.out
              omega
            have k6 : But y w7 w8 := by rw [hw8]; exact But.set _ y 13 _
            have HD8 := Lib.hid (show DW w8 z d from (HDZ5.out.below b7).same k6.size (k6.block z (HDZ5.out.below b7).1.1 (by simp; omega)))
            have HR8 := Lib.hid (show CRow w8 w.heap.size (.slice (some ⟨g, 0, none⟩) k xc) R0 from (HR5.out.below b7).kept (row := some y) k6 (.inr (by simp [Value.ownBlock]; omega)))
            have HB8 := Lib.hid (show Below w.heap.size w w8 from HB7.out.trans (k6.below (C := w.heap.size) hyy.2.2 HB7.out.size))
            clear hcx hyy k6 b7 HDZ5 HR5 hcd
            go_upto_region 14 with (fail)
            rw [← hw7, ← hy]
            clear hw7 hy
            have yl := HLC.out j hlt w7 HB7.out
            rw [← HLJ.out] at yl
            obtain ⟨_, ⟨a0, a1, a2, a3, a4, a5, a6, a7, a8, a9, a10, a11, a12, a13⟩, af⟩ := HY7.out
            go_upto_region 15 with (fail)
            rw [← hw8]
            clear hw8 a0 a1 a2 a3 a4 a5 a6 a7 a8 a9 a10 a11 a12 a13 af yl HY7
            obtain ⟨j1, hj1⟩ : ∃ j1, j1 = j + 1 := ⟨_, rfl⟩
            have HJ1 := Lib.hid hj1
            have s9 : IntKind.i64.wrap ((j : Int) + 1) = (j1 : Int) := by rw [IntKind.wrap_i64]; omega
            clear hj1
            obtain ⟨wd, hwd⟩ : ∃ b, b = d.wide := ⟨_, rfl⟩
            have HWD := Lib.hid hwd
            clear hwd
            cases wd
            · have HKEEP := Lib.hid (show ∀ W, Below w8.heap.size w8 W → (fun w' => w'.cell? ⟨y, 0, none⟩ = some (.int .i32 cx.ru) ∧ w'.cell? ⟨y, 1, none⟩ = some (.int .i32 cx.m0) ∧ w'.cell? ⟨y, 2, none⟩ = some (.int .i32 cx.m1) ∧ w'.cell? ⟨y, 3, none⟩ = some (.int .u8 cx.k) ∧ w'.cell? ⟨y, 4, none⟩ = some (.int .u8 cx.a.fg.k) ∧ w'.cell? ⟨y, 5, none⟩ = some (.int .u8 cx.a.fg.r) ∧ w'.cell? ⟨y, 6, none⟩ = some (.int .u8 cx.a.fg.g) ∧ w'.cell? ⟨y, 7, none⟩ = some (.int .u8 cx.a.fg.b) ∧ w'.cell? ⟨y, 8, none⟩ = some (.int .u8 cx.a.bg.k) ∧ w'.cell? ⟨y, 9, none⟩ = some (.int .u8 cx.a.bg.r) ∧ w'.cell? ⟨y, 10, none⟩ = some (.int .u8 cx.a.bg.g) ∧ w'.cell? ⟨y, 11, none⟩ = some (.int .u8 cx.a.bg.b) ∧ w'.cell? ⟨y, 12, none⟩ = some (.int .u16 (cx.a.fl : Nat)) ∧ w'.cell? ⟨y, 13, none⟩ = some (.int .u8 cx.l) ∧ w'.cell? ⟨z, 3, none⟩ = some (.bool false) ∧ w'.cell? ⟨gl, j, none⟩ = some (.int .u8 lj)) W from fun W hb => by
                obtain ⟨k0, k1, k2, k3, k4, k5, k6, k7, k8, k9, k10, k11, k12, k13⟩ := (HY8.out.below hb).2.1
                exact ⟨k0, k1, k2, k3, k4, k5, k6, k7, k8, k9, k10, k11, k12, k13, by have := (HD8.out.below hb).1.2.2.2.2.1; rw [← HWD.out] at this; exact this, by rw [HLJ.out]; exact HLC.out j hlt W (HB8.out.trans (hb.mono HB8.out.size))⟩)
              dsimp only at HKEEP
              have HE := Lib.hid (show fillK labs L O (j + 1) = putM R0 (j : Int) cx false by
                have hw : wideAt labs d j = false := by simp [wideAt, ← HWD.out]
                rw [HGO.out, hw, HCX.out, HLJ.out])
              have hfit : j + (if false = true then 2 else 1) ≤ R0.length := by rw [HI.out.1, ← HN.out]; have := HJ1.out; simp; omega
              have CP := Lib.hid (show ∀ W, Below w8.heap.size w8 W → Calls Try.prog 56 #[.slice (some ⟨g, 0, none⟩) k xc, .int .i64 (j : Nat), celV cx, .bool false] W (OwnOut W (putM R0 (j : Int) cx false)) from fun W hb => rput_in W _ R0 j cx false (HR8.out.below hb).row HI.out.2.1 hfit (by rw [HI.out.1, ← HN.out]; omega))
              clear hfit HGO
              refine wp_region_held_drew (S := fun w' => w'.cell? ⟨y, 0, none⟩ = some (.int .i32 cx.ru) ∧ w'.cell? ⟨y, 1, none⟩ = some (.int .i32 cx.m0) ∧ w'.cell? ⟨y, 2, none⟩ = some (.int .i32 cx.m1) ∧ w'.cell? ⟨y, 3, none⟩ = some (.int .u8 cx.k) ∧ w'.cell? ⟨y, 4, none⟩ = some (.int .u8 cx.a.fg.k) ∧ w'.cell? ⟨y, 5, none⟩ = some (.int .u8 cx.a.fg.r) ∧ w'.cell? ⟨y, 6, none⟩ = some (.int .u8 cx.a.fg.g) ∧ w'.cell? ⟨y, 7, none⟩ = some (.int .u8 cx.a.fg.b) ∧ w'.cell? ⟨y, 8, none⟩ = some (.int .u8 cx.a.bg.k) ∧ w'.cell? ⟨y, 9, none⟩ = some (.int .u8 cx.a.bg.r) ∧ w'.cell? ⟨y, 10, none⟩ = some (.int .u8 cx.a.bg.g) ∧ w'.cell? ⟨y, 11, none⟩ = some (.int .u8 cx.a.bg.b) ∧ w'.cell? ⟨y, 12, none⟩ = some (.int .u16 (cx.a.fl : Nat)) ∧ w'.cell? ⟨y, 13, none⟩ = some (.int .u8 cx.l) ∧ w'.cell? ⟨z, 3, none⟩ = some (.bool false) ∧ w'.cell? ⟨gl, j, none⟩ = some (.int .u8 lj)) (by as_aux_lemma => kernel_rfl) ?_ (fun hHeld => ?_)
              · exact HKEEP.out _ (⟨rfl, rfl, rfl, Nat.le_refl _, fun _ _ => rfl⟩)
              obtain ⟨u0, hu0⟩ : ∃ u0, u0 = w8.drew := ⟨_, rfl⟩
              have HX := Lib.hid (show Below w8.heap.size w8 u0 by rw [hu0]; exact ⟨rfl, rfl, rfl, Nat.le_refl _, fun _ _ => rfl⟩)
              replace hHeld := HKEEP.out _ HX.out
              rw [← hu0]
              clear hu0
              refine take_at (i := 0) (v := ?_) rfl (by as_aux_lemma => kernel_rfl) (by as_aux_lemma => kernel_rfl) (by as_aux_lemma => kernel_rfl) (fun _ _ _ h => h) (by as_aux_lemma => kernel_rfl) (by assumption) ?_ ?_
              rotate_left
              · (intro w hSw; (try dsimp only at hSw); go_simp; try with_reducible rfl)
              go_frame
              refine take_at (i := 1) (v := ?_) rfl (by as_aux_lemma => kernel_rfl) (by as_aux_lemma => kernel_rfl) (by as_aux_lemma => kernel_rfl) (fun _ _ _ h => h) (by as_aux_lemma => kernel_rfl) (by assumption) ?_ ?_
              rotate_left
              · (intro w hSw; (try dsimp only at hSw); go_simp; try with_reducible rfl)
              go_frame
              refine take_at (i := 2) (v := ?_) rfl (by as_aux_lemma => kernel_rfl) (by as_aux_lemma => kernel_rfl) (by as_aux_lemma => kernel_rfl) (fun _ _ _ h => h) (by as_aux_lemma => kernel_rfl) (by assumption) ?_ ?_
              rotate_left
              · (intro w hSw; (try dsimp only at hSw); go_simp; try with_reducible rfl)
              go_frame
              refine take_at (i := 3) (v := ?_) rfl (by as_aux_lemma => kernel_rfl) (by as_aux_lemma => kernel_rfl) (by as_aux_lemma => kernel_rfl) (fun _ _ _ h => h) (by as_aux_lemma => kernel_rfl) (by assumption) ?_ ?_
              rotate_left
              · (intro w hSw; (try dsimp only at hSw); go_simp; try with_reducible rfl)
              go_frame
              refine take_at (i := 4) (v := ?_) rfl (by as_aux_lemma => kernel_rfl) (by as_aux_lemma => kernel_rfl) (by as_aux_lemma => kernel_rfl) (fun _ _ _ h => h) (by as_aux_lemma => kernel_rfl) (by assumption) ?_ ?_
              rotate_left
              · (intro w hSw; (try dsimp only at hSw); go_simp; try with_reducible rfl)
              go_frame
              refine take_at (i := 5) (v := ?_) rfl (by as_aux_lemma => kernel_rfl) (by as_aux_lemma => kernel_rfl) (by as_aux_lemma => kernel_rfl) (fun _ _ _ h => h) (by as_aux_lemma => kernel_rfl) (by assumption) ?_ ?_
              rotate_left
              · (intro w hSw; (try dsimp only at hSw); go_simp; try with_reducible rfl)
              go_frame
              refine skip_at (i := 6) rfl (by as_aux_lemma => kernel_rfl) (by as_aux_lemma => kernel_rfl) (by as_aux_lemma => kernel_rfl) (fun _ _ _ h => h) (by as_aux_lemma => kernel_rfl) (by assumption) ?_
              go_frame
              refine skip_at (i := 7) rfl (by as_aux_lemma => kernel_rfl) (by as_aux_lemma => kernel_rfl) (by as_aux_lemma => kernel_rfl) (fun _ _ _ h => h) (by as_aux_lemma => kernel_rfl) (by assumption) ?_
              go_frame
              refine skip_at (i := 8) rfl (by as_aux_lemma => kernel_rfl) (by as_aux_lemma => kernel_rfl) (by as_aux_lemma => kernel_rfl) (fun _ _ _ h => h) (by as_aux_lemma => kernel_rfl) (by assumption) ?_
              go_frame
              refine skip_at (i := 9) rfl (by as_aux_lemma => kernel_rfl) (by as_aux_lemma => kernel_rfl) (by as_aux_lemma => kernel_rfl) (fun _ _ _ h => h) (by as_aux_lemma => kernel_rfl) (by assumption) ?_
              go_frame
              refine skip_at (i := 10) rfl (by as_aux_lemma => kernel_rfl) (by as_aux_lemma => kernel_rfl) (by as_aux_lemma => kernel_rfl) (fun _ _ _ h => h) (by as_aux_lemma => kernel_rfl) (by assumption) ?_
              go_frame
              refine take_at (i := 11) (v := ?_) rfl (by as_aux_lemma => kernel_rfl) (by as_aux_lemma => kernel_rfl) (by as_aux_lemma => kernel_rfl) (fun _ _ _ h => h) (by as_aux_lemma => kernel_rfl) (by assumption) ?_ ?_
              rotate_left
              · (intro w hSw; (try dsimp only at hSw); go_simp; try with_reducible rfl)
              go_frame
              refine take_at (i := 12) (v := ?_) rfl (by as_aux_lemma => kernel_rfl) (by as_aux_lemma => kernel_rfl) (by as_aux_lemma => kernel_rfl) (fun _ _ _ h => h) (by as_aux_lemma => kernel_rfl) (by assumption) ?_ ?_
              rotate_left
              · (intro w hSw; (try dsimp only at hSw); go_simp; try with_reducible rfl)
              go_frame
              refine skip_at (i := 13) rfl (by as_aux_lemma => kernel_rfl) (by as_aux_lemma => kernel_rfl) (by as_aux_lemma => kernel_rfl) (fun _ _ _ h => h) (by as_aux_lemma => kernel_rfl) (by assumption) ?_
              go_frame
              refine skip_at (i := 14) rfl (by as_aux_lemma => kernel_rfl) (by as_aux_lemma => kernel_rfl) (by as_aux_lemma => kernel_rfl) (fun _ _ _ h => h) (by as_aux_lemma => kernel_rfl) (by assumption) ?_
              go_frame
              refine skip_at (i := 15) rfl (by as_aux_lemma => kernel_rfl) (by as_aux_lemma => kernel_rfl) (by as_aux_lemma => kernel_rfl) (fun _ _ _ h => h) (by as_aux_lemma => kernel_rfl) (by assumption) ?_
              go_frame
              refine skip_at (i := 16) rfl (by as_aux_lemma => kernel_rfl) (by as_aux_lemma => kernel_rfl) (by as_aux_lemma => kernel_rfl) (fun _ _ _ h => h) (by as_aux_lemma => kernel_rfl) (by assumption) ?_
              go_frame
              refine skip_at (i := 17) rfl (by as_aux_lemma => kernel_rfl) (by as_aux_lemma => kernel_rfl) (by as_aux_lemma => kernel_rfl) (fun _ _ _ h => h) (by as_aux_lemma => kernel_rfl) (by assumption) ?_
              go_frame
              refine skip_at (i := 18) rfl (by as_aux_lemma => kernel_rfl) (by as_aux_lemma => kernel_rfl) (by as_aux_lemma => kernel_rfl) (fun _ _ _ h => h) (by as_aux_lemma => kernel_rfl) (by assumption) ?_
              go_frame
              refine skip_at (i := 19) rfl (by as_aux_lemma => kernel_rfl) (by as_aux_lemma => kernel_rfl) (by as_aux_lemma => kernel_rfl) (fun _ _ _ h => h) (by as_aux_lemma => kernel_rfl) (by assumption) ?_
              go_frame
              refine skip_at (i := 20) rfl (by as_aux_lemma => kernel_rfl) (by as_aux_lemma => kernel_rfl) (by as_aux_lemma => kernel_rfl) (fun _ _ _ h => h) (by as_aux_lemma => kernel_rfl) (by assumption) ?_
              go_frame
              refine skip_at (i := 21) rfl (by as_aux_lemma => kernel_rfl) (by as_aux_lemma => kernel_rfl) (by as_aux_lemma => kernel_rfl) (fun _ _ _ h => h) (by as_aux_lemma => kernel_rfl) (by assumption) ?_
              go_frame
              refine skip_at (i := 22) rfl (by as_aux_lemma => kernel_rfl) (by as_aux_lemma => kernel_rfl) (by as_aux_lemma => kernel_rfl) (fun _ _ _ h => h) (by as_aux_lemma => kernel_rfl) (by assumption) ?_
              go_frame
              refine take_at (i := 23) (v := ?_) rfl (by as_aux_lemma => kernel_rfl) (by as_aux_lemma => kernel_rfl) (by as_aux_lemma => kernel_rfl) (fun _ _ _ h => h) (by as_aux_lemma => kernel_rfl) (by assumption) ?_ ?_
              rotate_left
              · (intro w hSw; (try dsimp only at hSw); go_simp; try with_reducible rfl)
              go_frame
              refine do_at (i := 24) rfl (by as_aux_lemma => kernel_rfl) (by as_aux_lemma => kernel_rfl) (fun K hK => ?_)
              go_simp
              refine (CP.out _ HX.out).mono ?_
              rintro e w9 ⟨r9, rfl, R9, _, bb⟩
              have HX2 := Lib.hid (HX.out.trans (bb.mono HX.out.size))
              have HRN := Lib.hid (R9.lower (Nat.le_trans HB8.out.size HX.out.size))
              clear bb R9 HX
              go_wp2_with fail
              refine hK.out _ _ ?_ (fun hHeld => ?_)
              · exact HKEEP.out _ HX2.out
              clear hK K
              try go_frame
              refine take_at (i := 25) (v := ?_) rfl (by as_aux_lemma => kernel_rfl) (by as_aux_lemma => kernel_rfl) (by as_aux_lemma => kernel_rfl) (fun _ _ _ h => h) (by as_aux_lemma => kernel_rfl) (by assumption) ?_ ?_
              rotate_left
              · (intro w hSw; (try dsimp only at hSw); go_simp; try with_reducible rfl)
              go_frame
              refine wpAnyH_done (by as_aux_lemma => kernel_rfl) ?_ _
              have HBN := Lib.hid (HB8.out.trans (HX2.out.mono HB8.out.size))
              clear HX2 hHeld HKEEP CP HR8 HB8 HD8 HY8
              go_wp2
              go_roundg (k - j1)
              case rel => exact ⟨j1, rfl, by have := HJ1.out; omega, Nat.le_refl _, .inr hmp, by rw [HJ1.out, HE.out]; exact HRN, HBN⟩
              case measure => have := HJ1.out; omega
            · by_cases hmo : j1 < k
              rotate_left
              · have HKEEP := Lib.hid (show ∀ W, Below w8.heap.size w8 W → (fun w' => w'.cell? ⟨y, 0, none⟩ = some (.int .i32 cx.ru) ∧ w'.cell? ⟨y, 1, none⟩ = some (.int .i32 cx.m0) ∧ w'.cell? ⟨y, 2, none⟩ = some (.int .i32 cx.m1) ∧ w'.cell? ⟨y, 3, none⟩ = some (.int .u8 cx.k) ∧ w'.cell? ⟨y, 4, none⟩ = some (.int .u8 cx.a.fg.k) ∧ w'.cell? ⟨y, 5, none⟩ = some (.int .u8 cx.a.fg.r) ∧ w'.cell? ⟨y, 6, none⟩ = some (.int .u8 cx.a.fg.g) ∧ w'.cell? ⟨y, 7, none⟩ = some (.int .u8 cx.a.fg.b) ∧ w'.cell? ⟨y, 8, none⟩ = some (.int .u8 cx.a.bg.k) ∧ w'.cell? ⟨y, 9, none⟩ = some (.int .u8 cx.a.bg.r) ∧ w'.cell? ⟨y, 10, none⟩ = some (.int .u8 cx.a.bg.g) ∧ w'.cell? ⟨y, 11, none⟩ = some (.int .u8 cx.a.bg.b) ∧ w'.cell? ⟨y, 12, none⟩ = some (.int .u16 (cx.a.fl : Nat)) ∧ w'.cell? ⟨y, 13, none⟩ = some (.int .u8 cx.l) ∧ w'.cell? ⟨z, 3, none⟩ = some (.bool true) ∧ w'.cell? ⟨gl, j, none⟩ = some (.int .u8 lj)) W from fun W hb => by
                  obtain ⟨k0, k1, k2, k3, k4, k5, k6, k7, k8, k9, k10, k11, k12, k13⟩ := (HY8.out.below hb).2.1
                  exact ⟨k0, k1, k2, k3, k4, k5, k6, k7, k8, k9, k10, k11, k12, k13, by have := (HD8.out.below hb).1.2.2.2.2.1; rw [← HWD.out] at this; exact this, by rw [HLJ.out]; exact HLC.out j hlt W (HB8.out.trans (hb.mono HB8.out.size))⟩)
                dsimp only at HKEEP
                have HE := Lib.hid (show fillK labs L O (j + 1) = putM R0 (j : Int) cx false by
                  have hw : wideAt labs d j = false := by simp only [wideAt, ← HWD.out, ← HN.out, ← HJ1.out]; rw [decide_eq_false hmo]; rfl
                  rw [HGO.out, hw, HCX.out, HLJ.out])
                have hfit : j + (if false = true then 2 else 1) ≤ R0.length := by rw [HI.out.1, ← HN.out]; have := HJ1.out; simp; omega
                have CP := Lib.hid (show ∀ W, Below w8.heap.size w8 W → Calls Try.prog 56 #[.slice (some ⟨g, 0, none⟩) k xc, .int .i64 (j : Nat), celV cx, .bool false] W (OwnOut W (putM R0 (j : Int) cx false)) from fun W hb => rput_in W _ R0 j cx false (HR8.out.below hb).row HI.out.2.1 hfit (by rw [HI.out.1, ← HN.out]; omega))
                clear hfit HGO
                refine wp_region_held_drew (S := fun w' => w'.cell? ⟨y, 0, none⟩ = some (.int .i32 cx.ru) ∧ w'.cell? ⟨y, 1, none⟩ = some (.int .i32 cx.m0) ∧ w'.cell? ⟨y, 2, none⟩ = some (.int .i32 cx.m1) ∧ w'.cell? ⟨y, 3, none⟩ = some (.int .u8 cx.k) ∧ w'.cell? ⟨y, 4, none⟩ = some (.int .u8 cx.a.fg.k) ∧ w'.cell? ⟨y, 5, none⟩ = some (.int .u8 cx.a.fg.r) ∧ w'.cell? ⟨y, 6, none⟩ = some (.int .u8 cx.a.fg.g) ∧ w'.cell? ⟨y, 7, none⟩ = some (.int .u8 cx.a.fg.b) ∧ w'.cell? ⟨y, 8, none⟩ = some (.int .u8 cx.a.bg.k) ∧ w'.cell? ⟨y, 9, none⟩ = some (.int .u8 cx.a.bg.r) ∧ w'.cell? ⟨y, 10, none⟩ = some (.int .u8 cx.a.bg.g) ∧ w'.cell? ⟨y, 11, none⟩ = some (.int .u8 cx.a.bg.b) ∧ w'.cell? ⟨y, 12, none⟩ = some (.int .u16 (cx.a.fl : Nat)) ∧ w'.cell? ⟨y, 13, none⟩ = some (.int .u8 cx.l) ∧ w'.cell? ⟨z, 3, none⟩ = some (.bool true) ∧ w'.cell? ⟨gl, j, none⟩ = some (.int .u8 lj)) (by as_aux_lemma => kernel_rfl) ?_ (fun hHeld => ?_)
                · exact HKEEP.out _ (⟨rfl, rfl, rfl, Nat.le_refl _, fun _ _ => rfl⟩)
                obtain ⟨u0, hu0⟩ : ∃ u0, u0 = w8.drew := ⟨_, rfl⟩
                have HX := Lib.hid (show Below w8.heap.size w8 u0 by rw [hu0]; exact ⟨rfl, rfl, rfl, Nat.le_refl _, fun _ _ => rfl⟩)
                replace hHeld := HKEEP.out _ HX.out
                rw [← hu0]
                clear hu0
                refine take_at (i := 0) (v := ?_) rfl (by as_aux_lemma => kernel_rfl) (by as_aux_lemma => kernel_rfl) (by as_aux_lemma => kernel_rfl) (fun _ _ _ h => h) (by as_aux_lemma => kernel_rfl) (by assumption) ?_ ?_
                rotate_left
                · (intro w hSw; (try dsimp only at hSw); go_simp; try with_reducible rfl)
                go_frame
                refine take_at (i := 1) (v := ?_) rfl (by as_aux_lemma => kernel_rfl) (by as_aux_lemma => kernel_rfl) (by as_aux_lemma => kernel_rfl) (fun _ _ _ h => h) (by as_aux_lemma => kernel_rfl) (by assumption) ?_ ?_
                rotate_left
                · (intro w hSw; (try dsimp only at hSw); go_simp; try with_reducible rfl)
                go_frame
                refine take_at (i := 2) (v := ?_) rfl (by as_aux_lemma => kernel_rfl) (by as_aux_lemma => kernel_rfl) (by as_aux_lemma => kernel_rfl) (fun _ _ _ h => h) (by as_aux_lemma => kernel_rfl) (by assumption) ?_ ?_
                rotate_left
                · (intro w hSw; (try dsimp only at hSw); go_simp; try with_reducible rfl)
                go_frame
                refine take_at (i := 3) (v := ?_) rfl (by as_aux_lemma => kernel_rfl) (by as_aux_lemma => kernel_rfl) (by as_aux_lemma => kernel_rfl) (fun _ _ _ h => h) (by as_aux_lemma => kernel_rfl) (by assumption) ?_ ?_
                rotate_left
                · (intro w hSw; (try dsimp only at hSw); go_simp; try with_reducible rfl)
                go_frame
                refine take_at (i := 4) (v := ?_) rfl (by as_aux_lemma => kernel_rfl) (by as_aux_lemma => kernel_rfl) (by as_aux_lemma => kernel_rfl) (fun _ _ _ h => h) (by as_aux_lemma => kernel_rfl) (by assumption) ?_ ?_
                rotate_left
                · (intro w hSw; (try dsimp only at hSw); go_simp; try with_reducible rfl)
                go_frame
                refine take_at (i := 5) (v := ?_) rfl (by as_aux_lemma => kernel_rfl) (by as_aux_lemma => kernel_rfl) (by as_aux_lemma => kernel_rfl) (fun _ _ _ h => h) (by as_aux_lemma => kernel_rfl) (by assumption) ?_ ?_
                rotate_left
                · (intro w hSw; (try dsimp only at hSw); go_simp; try with_reducible rfl)
                go_frame
                refine take_at (i := 6) (v := ?_) rfl (by as_aux_lemma => kernel_rfl) (by as_aux_lemma => kernel_rfl) (by as_aux_lemma => kernel_rfl) (fun _ _ _ h => h) (by as_aux_lemma => kernel_rfl) (by assumption) ?_ ?_
                rotate_left
                · (intro w hSw; (try dsimp only at hSw); go_simp; try with_reducible rfl)
                go_frame
                refine take_at (i := 7) (v := ?_) rfl (by as_aux_lemma => kernel_rfl) (by as_aux_lemma => kernel_rfl) (by as_aux_lemma => kernel_rfl) (fun _ _ _ h => h) (by as_aux_lemma => kernel_rfl) (by assumption) ?_ ?_
                rotate_left
                · (intro w hSw; (try dsimp only at hSw); go_simp; try with_reducible rfl)
                go_frame
                refine take_at (i := 8) (v := ?_) rfl (by as_aux_lemma => kernel_rfl) (by as_aux_lemma => kernel_rfl) (by as_aux_lemma => kernel_rfl) (fun _ _ _ h => h) (by as_aux_lemma => kernel_rfl) (by assumption) ?_ ?_
                rotate_left
                · (intro w hSw; (try dsimp only at hSw); go_simp; try with_reducible rfl)
                go_frame
                refine take_at (i := 9) (v := ?_) rfl (by as_aux_lemma => kernel_rfl) (by as_aux_lemma => kernel_rfl) (by as_aux_lemma => kernel_rfl) (fun _ _ _ h => h) (by as_aux_lemma => kernel_rfl) (by assumption) ?_ ?_
                rotate_left
                · (intro w hSw; (try dsimp only at hSw); go_simp; try with_reducible rfl)
                go_frame
                refine take_at (i := 10) (v := ?_) rfl (by as_aux_lemma => kernel_rfl) (by as_aux_lemma => kernel_rfl) (by as_aux_lemma => kernel_rfl) (fun _ _ _ h => h) (by as_aux_lemma => kernel_rfl) (by assumption) ?_ ?_
                rotate_left
                · (intro w hSw; (try dsimp only at hSw); go_simp; try with_reducible rfl)
                go_frame
                refine take_at (i := 11) (v := ?_) rfl (by as_aux_lemma => kernel_rfl) (by as_aux_lemma => kernel_rfl) (by as_aux_lemma => kernel_rfl) (fun _ _ _ h => h) (by as_aux_lemma => kernel_rfl) (by assumption) ?_ ?_
                rotate_left
                · (intro w hSw; (try dsimp only at hSw); go_simp; try with_reducible rfl)
                go_frame
                refine take_at (i := 12) (v := ?_) rfl (by as_aux_lemma => kernel_rfl) (by as_aux_lemma => kernel_rfl) (by as_aux_lemma => kernel_rfl) (fun _ _ _ h => h) (by as_aux_lemma => kernel_rfl) (by assumption) ?_ ?_
                rotate_left
                · (intro w hSw; (try dsimp only at hSw); go_simp; try with_reducible rfl)
                go_frame
                refine skip_at (i := 13) rfl (by as_aux_lemma => kernel_rfl) (by as_aux_lemma => kernel_rfl) (by as_aux_lemma => kernel_rfl) (fun _ _ _ h => h) (by as_aux_lemma => kernel_rfl) (by assumption) ?_
                go_frame
                refine skip_at (i := 14) rfl (by as_aux_lemma => kernel_rfl) (by as_aux_lemma => kernel_rfl) (by as_aux_lemma => kernel_rfl) (fun _ _ _ h => h) (by as_aux_lemma => kernel_rfl) (by assumption) ?_
                go_frame
                refine skip_at (i := 15) rfl (by as_aux_lemma => kernel_rfl) (by as_aux_lemma => kernel_rfl) (by as_aux_lemma => kernel_rfl) (fun _ _ _ h => h) (by as_aux_lemma => kernel_rfl) (by assumption) ?_
                go_frame
                refine skip_at (i := 16) rfl (by as_aux_lemma => kernel_rfl) (by as_aux_lemma => kernel_rfl) (by as_aux_lemma => kernel_rfl) (fun _ _ _ h => h) (by as_aux_lemma => kernel_rfl) (by assumption) ?_
                go_frame
                refine skip_at (i := 17) rfl (by as_aux_lemma => kernel_rfl) (by as_aux_lemma => kernel_rfl) (by as_aux_lemma => kernel_rfl) (fun _ _ _ h => h) (by as_aux_lemma => kernel_rfl) (by assumption) ?_
                go_frame
                refine skip_at (i := 18) rfl (by as_aux_lemma => kernel_rfl) (by as_aux_lemma => kernel_rfl) (by as_aux_lemma => kernel_rfl) (fun _ _ _ h => h) (by as_aux_lemma => kernel_rfl) (by assumption) ?_
                go_frame
                refine skip_at (i := 19) rfl (by as_aux_lemma => kernel_rfl) (by as_aux_lemma => kernel_rfl) (by as_aux_lemma => kernel_rfl) (fun _ _ _ h => h) (by as_aux_lemma => kernel_rfl) (by assumption) ?_
                go_frame
                refine skip_at (i := 20) rfl (by as_aux_lemma => kernel_rfl) (by as_aux_lemma => kernel_rfl) (by as_aux_lemma => kernel_rfl) (fun _ _ _ h => h) (by as_aux_lemma => kernel_rfl) (by assumption) ?_
                go_frame
                refine skip_at (i := 21) rfl (by as_aux_lemma => kernel_rfl) (by as_aux_lemma => kernel_rfl) (by as_aux_lemma => kernel_rfl) (fun _ _ _ h => h) (by as_aux_lemma => kernel_rfl) (by assumption) ?_
                go_frame
                refine skip_at (i := 22) rfl (by as_aux_lemma => kernel_rfl) (by as_aux_lemma => kernel_rfl) (by as_aux_lemma => kernel_rfl) (fun _ _ _ h => h) (by as_aux_lemma => kernel_rfl) (by assumption) ?_
                go_frame
                refine take_at (i := 23) (v := ?_) rfl (by as_aux_lemma => kernel_rfl) (by as_aux_lemma => kernel_rfl) (by as_aux_lemma => kernel_rfl) (fun _ _ _ h => h) (by as_aux_lemma => kernel_rfl) (by assumption) ?_ ?_
                rotate_left
                · (intro w hSw; (try dsimp only at hSw); go_simp; try with_reducible rfl)
                go_frame
                refine do_at (i := 24) rfl (by as_aux_lemma => kernel_rfl) (by as_aux_lemma => kernel_rfl) (fun K hK => ?_)
                go_simp
                refine (CP.out _ HX.out).mono ?_
                rintro e w9 ⟨r9, rfl, R9, _, bb⟩
                have HX2 := Lib.hid (HX.out.trans (bb.mono HX.out.size))
                have HRN := Lib.hid (R9.lower (Nat.le_trans HB8.out.size HX.out.size))
                clear bb R9 HX
                go_wp2_with fail
                refine hK.out _ _ ?_ (fun hHeld => ?_)
                · exact HKEEP.out _ HX2.out
                clear hK K
                try go_frame
                refine take_at (i := 25) (v := ?_) rfl (by as_aux_lemma => kernel_rfl) (by as_aux_lemma => kernel_rfl) (by as_aux_lemma => kernel_rfl) (fun _ _ _ h => h) (by as_aux_lemma => kernel_rfl) (by assumption) ?_ ?_
                rotate_left
                · (intro w hSw; (try dsimp only at hSw); go_simp; try with_reducible rfl)
                go_frame
                refine wpAnyH_done (by as_aux_lemma => kernel_rfl) ?_ _
                have HBN := Lib.hid (HB8.out.trans (HX2.out.mono HB8.out.size))
                clear HX2 hHeld HKEEP CP HR8 HB8 HD8 HY8
                go_wp2
                go_roundg (k - j1)
                case rel => exact ⟨j1, rfl, by have := HJ1.out; omega, Nat.le_refl _, .inr hmp, by rw [HJ1.out, HE.out]; exact HRN, HBN⟩
                case measure => have := HJ1.out; omega
              obtain ⟨l1, hl1e⟩ : ∃ l, l = labs.getD j1 0 := ⟨_, rfl⟩
              have HL1 := Lib.hid hl1e
              clear hl1e
              by_cases hq1 : l1 = lj
              · have p1 : (l1 == lj) = true := by simp [hq1]
                have HQ1 := Lib.hid p1
                clear hq1
                have HKEEP := Lib.hid (show ∀ W, Below w8.heap.size w8 W → (fun w' => w'.cell? ⟨y, 0, none⟩ = some (.int .i32 cx.ru) ∧ w'.cell? ⟨y, 1, none⟩ = some (.int .i32 cx.m0) ∧ w'.cell? ⟨y, 2, none⟩ = some (.int .i32 cx.m1) ∧ w'.cell? ⟨y, 3, none⟩ = some (.int .u8 cx.k) ∧ w'.cell? ⟨y, 4, none⟩ = some (.int .u8 cx.a.fg.k) ∧ w'.cell? ⟨y, 5, none⟩ = some (.int .u8 cx.a.fg.r) ∧ w'.cell? ⟨y, 6, none⟩ = some (.int .u8 cx.a.fg.g) ∧ w'.cell? ⟨y, 7, none⟩ = some (.int .u8 cx.a.fg.b) ∧ w'.cell? ⟨y, 8, none⟩ = some (.int .u8 cx.a.bg.k) ∧ w'.cell? ⟨y, 9, none⟩ = some (.int .u8 cx.a.bg.r) ∧ w'.cell? ⟨y, 10, none⟩ = some (.int .u8 cx.a.bg.g) ∧ w'.cell? ⟨y, 11, none⟩ = some (.int .u8 cx.a.bg.b) ∧ w'.cell? ⟨y, 12, none⟩ = some (.int .u16 (cx.a.fl : Nat)) ∧ w'.cell? ⟨y, 13, none⟩ = some (.int .u8 cx.l) ∧ w'.cell? ⟨z, 3, none⟩ = some (.bool true) ∧ w'.cell? ⟨gl, j, none⟩ = some (.int .u8 lj) ∧ w'.cell? ⟨gl, j1, none⟩ = some (.int .u8 l1)) W from fun W hb => by
                  obtain ⟨k0, k1, k2, k3, k4, k5, k6, k7, k8, k9, k10, k11, k12, k13⟩ := (HY8.out.below hb).2.1
                  exact ⟨k0, k1, k2, k3, k4, k5, k6, k7, k8, k9, k10, k11, k12, k13, by have := (HD8.out.below hb).1.2.2.2.2.1; rw [← HWD.out] at this; exact this, by rw [HLJ.out]; exact HLC.out j hlt W (HB8.out.trans (hb.mono HB8.out.size)), by rw [HL1.out]; exact HLC.out j1 hmo W (HB8.out.trans (hb.mono HB8.out.size))⟩)
                dsimp only at HKEEP
                have HE := Lib.hid (show fillK labs L O (j + 1) = putM R0 (j : Int) cx true by
                  have hw : wideAt labs d j = true := by simp only [wideAt, ← HWD.out, ← HN.out, ← HJ1.out, ← HLJ.out, ← HL1.out]; rw [decide_eq_true hmo, HQ1.out]; rfl
                  rw [HGO.out, hw, HCX.out, HLJ.out])
                have hfit : j + (if true = true then 2 else 1) ≤ R0.length := by rw [HI.out.1, ← HN.out]; have := HJ1.out; simp; omega
                have CP := Lib.hid (show ∀ W, Below w8.heap.size w8 W → Calls Try.prog 56 #[.slice (some ⟨g, 0, none⟩) k xc, .int .i64 (j : Nat), celV cx, .bool true] W (OwnOut W (putM R0 (j : Int) cx true)) from fun W hb => rput_in W _ R0 j cx true (HR8.out.below hb).row HI.out.2.1 hfit (by rw [HI.out.1, ← HN.out]; omega))
                clear hfit HGO
                refine wp_region_held_drew (S := fun w' => w'.cell? ⟨y, 0, none⟩ = some (.int .i32 cx.ru) ∧ w'.cell? ⟨y, 1, none⟩ = some (.int .i32 cx.m0) ∧ w'.cell? ⟨y, 2, none⟩ = some (.int .i32 cx.m1) ∧ w'.cell? ⟨y, 3, none⟩ = some (.int .u8 cx.k) ∧ w'.cell? ⟨y, 4, none⟩ = some (.int .u8 cx.a.fg.k) ∧ w'.cell? ⟨y, 5, none⟩ = some (.int .u8 cx.a.fg.r) ∧ w'.cell? ⟨y, 6, none⟩ = some (.int .u8 cx.a.fg.g) ∧ w'.cell? ⟨y, 7, none⟩ = some (.int .u8 cx.a.fg.b) ∧ w'.cell? ⟨y, 8, none⟩ = some (.int .u8 cx.a.bg.k) ∧ w'.cell? ⟨y, 9, none⟩ = some (.int .u8 cx.a.bg.r) ∧ w'.cell? ⟨y, 10, none⟩ = some (.int .u8 cx.a.bg.g) ∧ w'.cell? ⟨y, 11, none⟩ = some (.int .u8 cx.a.bg.b) ∧ w'.cell? ⟨y, 12, none⟩ = some (.int .u16 (cx.a.fl : Nat)) ∧ w'.cell? ⟨y, 13, none⟩ = some (.int .u8 cx.l) ∧ w'.cell? ⟨z, 3, none⟩ = some (.bool true) ∧ w'.cell? ⟨gl, j, none⟩ = some (.int .u8 lj) ∧ w'.cell? ⟨gl, j1, none⟩ = some (.int .u8 l1)) (by as_aux_lemma => kernel_rfl) ?_ (fun hHeld => ?_)
                · exact HKEEP.out _ (⟨rfl, rfl, rfl, Nat.le_refl _, fun _ _ => rfl⟩)
                obtain ⟨u0, hu0⟩ : ∃ u0, u0 = w8.drew := ⟨_, rfl⟩
                have HX := Lib.hid (show Below w8.heap.size w8 u0 by rw [hu0]; exact ⟨rfl, rfl, rfl, Nat.le_refl _, fun _ _ => rfl⟩)
                replace hHeld := HKEEP.out _ HX.out
                rw [← hu0]
                clear hu0
                refine take_at (i := 0) (v := ?_) rfl (by as_aux_lemma => kernel_rfl) (by as_aux_lemma => kernel_rfl) (by as_aux_lemma => kernel_rfl) (fun _ _ _ h => h) (by as_aux_lemma => kernel_rfl) (by assumption) ?_ ?_
                rotate_left
                · (intro w hSw; (try dsimp only at hSw); go_simp; try with_reducible rfl)
                go_frame
                refine take_at (i := 1) (v := ?_) rfl (by as_aux_lemma => kernel_rfl) (by as_aux_lemma => kernel_rfl) (by as_aux_lemma => kernel_rfl) (fun _ _ _ h => h) (by as_aux_lemma => kernel_rfl) (by assumption) ?_ ?_
                rotate_left
                · (intro w hSw; (try dsimp only at hSw); go_simp; try with_reducible rfl)
                go_frame
                refine take_at (i := 2) (v := ?_) rfl (by as_aux_lemma => kernel_rfl) (by as_aux_lemma => kernel_rfl) (by as_aux_lemma => kernel_rfl) (fun _ _ _ h => h) (by as_aux_lemma => kernel_rfl) (by assumption) ?_ ?_
                rotate_left
                · (intro w hSw; (try dsimp only at hSw); go_simp; try with_reducible rfl)
                go_frame
                refine take_at (i := 3) (v := ?_) rfl (by as_aux_lemma => kernel_rfl) (by as_aux_lemma => kernel_rfl) (by as_aux_lemma => kernel_rfl) (fun _ _ _ h => h) (by as_aux_lemma => kernel_rfl) (by assumption) ?_ ?_
                rotate_left
                · (intro w hSw; (try dsimp only at hSw); go_simp; try with_reducible rfl)
                go_frame
                refine take_at (i := 4) (v := ?_) rfl (by as_aux_lemma => kernel_rfl) (by as_aux_lemma => kernel_rfl) (by as_aux_lemma => kernel_rfl) (fun _ _ _ h => h) (by as_aux_lemma => kernel_rfl) (by assumption) ?_ ?_
                rotate_left
                · (intro w hSw; (try dsimp only at hSw); go_simp; try with_reducible rfl)
                go_frame
                refine take_at (i := 5) (v := ?_) rfl (by as_aux_lemma => kernel_rfl) (by as_aux_lemma => kernel_rfl) (by as_aux_lemma => kernel_rfl) (fun _ _ _ h => h) (by as_aux_lemma => kernel_rfl) (by assumption) ?_ ?_
                rotate_left
                · (intro w hSw; (try dsimp only at hSw); go_simp; try with_reducible rfl)
                go_frame
                refine take_at (i := 6) (v := ?_) rfl (by as_aux_lemma => kernel_rfl) (by as_aux_lemma => kernel_rfl) (by as_aux_lemma => kernel_rfl) (fun _ _ _ h => h) (by as_aux_lemma => kernel_rfl) (by assumption) ?_ ?_
                rotate_left
                · (intro w hSw; (try dsimp only at hSw); go_simp; try with_reducible rfl)
                go_frame
                refine take_at (i := 7) (v := ?_) rfl (by as_aux_lemma => kernel_rfl) (by as_aux_lemma => kernel_rfl) (by as_aux_lemma => kernel_rfl) (fun _ _ _ h => h) (by as_aux_lemma => kernel_rfl) (by assumption) ?_ ?_
                rotate_left
                · (intro w hSw; (try dsimp only at hSw); go_simp; try with_reducible rfl)
                go_frame
                refine take_at (i := 8) (v := ?_) rfl (by as_aux_lemma => kernel_rfl) (by as_aux_lemma => kernel_rfl) (by as_aux_lemma => kernel_rfl) (fun _ _ _ h => h) (by as_aux_lemma => kernel_rfl) (by assumption) ?_ ?_
                rotate_left
                · (intro w hSw; (try dsimp only at hSw); go_simp; try with_reducible rfl)
                go_frame
                refine take_at (i := 9) (v := ?_) rfl (by as_aux_lemma => kernel_rfl) (by as_aux_lemma => kernel_rfl) (by as_aux_lemma => kernel_rfl) (fun _ _ _ h => h) (by as_aux_lemma => kernel_rfl) (by assumption) ?_ ?_
                rotate_left
                · (intro w hSw; (try dsimp only at hSw); go_simp; try with_reducible rfl)
                go_frame
                refine take_at (i := 10) (v := ?_) rfl (by as_aux_lemma => kernel_rfl) (by as_aux_lemma => kernel_rfl) (by as_aux_lemma => kernel_rfl) (fun _ _ _ h => h) (by as_aux_lemma => kernel_rfl) (by assumption) ?_ ?_
                rotate_left
                · (intro w hSw; (try dsimp only at hSw); go_simp; try with_reducible rfl)
                go_frame
                refine take_at (i := 11) (v := ?_) rfl (by as_aux_lemma => kernel_rfl) (by as_aux_lemma => kernel_rfl) (by as_aux_lemma => kernel_rfl) (fun _ _ _ h => h) (by as_aux_lemma => kernel_rfl) (by assumption) ?_ ?_
                rotate_left
                · (intro w hSw; (try dsimp only at hSw); go_simp; try with_reducible rfl)
                go_frame
                refine take_at (i := 12) (v := ?_) rfl (by as_aux_lemma => kernel_rfl) (by as_aux_lemma => kernel_rfl) (by as_aux_lemma => kernel_rfl) (fun _ _ _ h => h) (by as_aux_lemma => kernel_rfl) (by assumption) ?_ ?_
                rotate_left
                · (intro w hSw; (try dsimp only at hSw); go_simp; try with_reducible rfl)
                go_frame
                refine take_at (i := 13) (v := ?_) rfl (by as_aux_lemma => kernel_rfl) (by as_aux_lemma => kernel_rfl) (by as_aux_lemma => kernel_rfl) (fun _ _ _ h => h) (by as_aux_lemma => kernel_rfl) (by assumption) ?_ ?_
                rotate_left
                · (intro w hSw; (try dsimp only at hSw); go_simp; try with_reducible rfl)
                go_frame
                refine take_at (i := 14) (v := ?_) rfl (by as_aux_lemma => kernel_rfl) (by as_aux_lemma => kernel_rfl) (by as_aux_lemma => kernel_rfl) (fun _ _ _ h => h) (by as_aux_lemma => kernel_rfl) (by assumption) ?_ ?_
                rotate_left
                · (intro w hSw; (try dsimp only at hSw); go_simp; try with_reducible rfl)
                go_frame
                refine take_at (i := 15) (v := ?_) rfl (by as_aux_lemma => kernel_rfl) (by as_aux_lemma => kernel_rfl) (by as_aux_lemma => kernel_rfl) (fun _ _ _ h => h) (by as_aux_lemma => kernel_rfl) (by assumption) ?_ ?_
                rotate_left
                · (intro w hSw; (try dsimp only at hSw); go_simp; try with_reducible rfl)
                go_frame
                refine take_at (i := 16) (v := ?_) rfl (by as_aux_lemma => kernel_rfl) (by as_aux_lemma => kernel_rfl) (by as_aux_lemma => kernel_rfl) (fun _ _ _ h => h) (by as_aux_lemma => kernel_rfl) (by assumption) ?_ ?_
                rotate_left
                · (intro w hSw; (try dsimp only at hSw); go_simp; try with_reducible rfl)
                go_frame
                refine take_at (i := 17) (v := ?_) rfl (by as_aux_lemma => kernel_rfl) (by as_aux_lemma => kernel_rfl) (by as_aux_lemma => kernel_rfl) (fun _ _ _ h => h) (by as_aux_lemma => kernel_rfl) (by assumption) ?_ ?_
                rotate_left
                · (intro w hSw; (try dsimp only at hSw); go_simp; try with_reducible rfl)
                go_frame
                refine take_at (i := 18) (v := ?_) rfl (by as_aux_lemma => kernel_rfl) (by as_aux_lemma => kernel_rfl) (by as_aux_lemma => kernel_rfl) (fun _ _ _ h => h) (by as_aux_lemma => kernel_rfl) (by assumption) ?_ ?_
                rotate_left
                · (intro w hSw; (try dsimp only at hSw); go_simp; try with_reducible rfl)
                go_frame
                refine take_at (i := 19) (v := ?_) rfl (by as_aux_lemma => kernel_rfl) (by as_aux_lemma => kernel_rfl) (by as_aux_lemma => kernel_rfl) (fun _ _ _ h => h) (by as_aux_lemma => kernel_rfl) (by assumption) ?_ ?_
                rotate_left
                · (intro w hSw; (try dsimp only at hSw); go_simp; try with_reducible rfl)
                go_frame
                refine take_at (i := 20) (v := ?_) rfl (by as_aux_lemma => kernel_rfl) (by as_aux_lemma => kernel_rfl) (by as_aux_lemma => kernel_rfl) (fun _ _ _ h => h) (by as_aux_lemma => kernel_rfl) (by assumption) ?_ ?_
                rotate_left
                · (intro w hSw; (try dsimp only at hSw); go_simp; try with_reducible rfl)
                go_frame
                refine take_at (i := 21) (v := ?_) rfl (by as_aux_lemma => kernel_rfl) (by as_aux_lemma => kernel_rfl) (by as_aux_lemma => kernel_rfl) (fun _ _ _ h => h) (by as_aux_lemma => kernel_rfl) (by assumption) ?_ ?_
                rotate_left
                · (intro w hSw; (try dsimp only at hSw); go_simp; try with_reducible rfl)
                go_frame
                refine take_at (i := 22) (v := ?_) rfl (by as_aux_lemma => kernel_rfl) (by as_aux_lemma => kernel_rfl) (by as_aux_lemma => kernel_rfl) (fun _ _ _ h => h) (by as_aux_lemma => kernel_rfl) (by assumption) ?_ ?_
                rotate_left
                · (intro w hSw; (try dsimp only at hSw); go_simp; try with_reducible rfl)
                go_frame
                refine take_at (i := 23) (v := ?_) rfl (by as_aux_lemma => kernel_rfl) (by as_aux_lemma => kernel_rfl) (by as_aux_lemma => kernel_rfl) (fun _ _ _ h => h) (by as_aux_lemma => kernel_rfl) (by assumption) ?_ ?_
                rotate_left
                · (intro w hSw; (try dsimp only at hSw); go_simp; try with_reducible rfl)
                go_frame
                refine do_at (i := 24) rfl (by as_aux_lemma => kernel_rfl) (by as_aux_lemma => kernel_rfl) (fun K hK => ?_)
                go_simp
                refine (CP.out _ HX.out).mono ?_
                rintro e w9 ⟨r9, rfl, R9, _, bb⟩
                have HX2 := Lib.hid (HX.out.trans (bb.mono HX.out.size))
                have HRN := Lib.hid (R9.lower (Nat.le_trans HB8.out.size HX.out.size))
                clear bb R9 HX
                go_wp2_with fail
                refine hK.out _ _ ?_ (fun hHeld => ?_)
                · exact HKEEP.out _ HX2.out
                clear hK K
                try go_frame
                refine take_at (i := 25) (v := ?_) rfl (by as_aux_lemma => kernel_rfl) (by as_aux_lemma => kernel_rfl) (by as_aux_lemma => kernel_rfl) (fun _ _ _ h => h) (by as_aux_lemma => kernel_rfl) (by assumption) ?_ ?_
                rotate_left
                · (intro w hSw; (try dsimp only at hSw); go_simp; try with_reducible rfl)
                go_frame
                refine wpAnyH_done (by as_aux_lemma => kernel_rfl) ?_ _
                have HBN := Lib.hid (HB8.out.trans (HX2.out.mono HB8.out.size))
                clear HX2 hHeld HKEEP CP HR8 HB8 HD8 HY8
                go_wp2
                go_roundg (k - j1)
                case rel => exact ⟨j1, rfl, by have := HJ1.out; omega, Nat.le_refl _, .inr hmp, by rw [HJ1.out, HE.out]; exact HRN, HBN⟩
                case measure => have := HJ1.out; omega
              · have p1 : (l1 == lj) = false := by simp [hq1]
                have HQ1 := Lib.hid p1
                clear hq1
                have HKEEP := Lib.hid (show ∀ W, Below w8.heap.size w8 W → (fun w' => w'.cell? ⟨y, 0, none⟩ = some (.int .i32 cx.ru) ∧ w'.cell? ⟨y, 1, none⟩ = some (.int .i32 cx.m0) ∧ w'.cell? ⟨y, 2, none⟩ = some (.int .i32 cx.m1) ∧ w'.cell? ⟨y, 3, none⟩ = some (.int .u8 cx.k) ∧ w'.cell? ⟨y, 4, none⟩ = some (.int .u8 cx.a.fg.k) ∧ w'.cell? ⟨y, 5, none⟩ = some (.int .u8 cx.a.fg.r) ∧ w'.cell? ⟨y, 6, none⟩ = some (.int .u8 cx.a.fg.g) ∧ w'.cell? ⟨y, 7, none⟩ = some (.int .u8 cx.a.fg.b) ∧ w'.cell? ⟨y, 8, none⟩ = some (.int .u8 cx.a.bg.k) ∧ w'.cell? ⟨y, 9, none⟩ = some (.int .u8 cx.a.bg.r) ∧ w'.cell? ⟨y, 10, none⟩ = some (.int .u8 cx.a.bg.g) ∧ w'.cell? ⟨y, 11, none⟩ = some (.int .u8 cx.a.bg.b) ∧ w'.cell? ⟨y, 12, none⟩ = some (.int .u16 (cx.a.fl : Nat)) ∧ w'.cell? ⟨y, 13, none⟩ = some (.int .u8 cx.l) ∧ w'.cell? ⟨z, 3, none⟩ = some (.bool true) ∧ w'.cell? ⟨gl, j, none⟩ = some (.int .u8 lj) ∧ w'.cell? ⟨gl, j1, none⟩ = some (.int .u8 l1)) W from fun W hb => by
                  obtain ⟨k0, k1, k2, k3, k4, k5, k6, k7, k8, k9, k10, k11, k12, k13⟩ := (HY8.out.below hb).2.1
                  exact ⟨k0, k1, k2, k3, k4, k5, k6, k7, k8, k9, k10, k11, k12, k13, by have := (HD8.out.below hb).1.2.2.2.2.1; rw [← HWD.out] at this; exact this, by rw [HLJ.out]; exact HLC.out j hlt W (HB8.out.trans (hb.mono HB8.out.size)), by rw [HL1.out]; exact HLC.out j1 hmo W (HB8.out.trans (hb.mono HB8.out.size))⟩)
                dsimp only at HKEEP
                have HE := Lib.hid (show fillK labs L O (j + 1) = putM R0 (j : Int) cx false by
                  have hw : wideAt labs d j = false := by simp only [wideAt, ← HWD.out, ← HN.out, ← HJ1.out, ← HLJ.out, ← HL1.out]; rw [decide_eq_true hmo, HQ1.out]; rfl
                  rw [HGO.out, hw, HCX.out, HLJ.out])
                have hfit : j + (if false = true then 2 else 1) ≤ R0.length := by rw [HI.out.1, ← HN.out]; have := HJ1.out; simp; omega
                have CP := Lib.hid (show ∀ W, Below w8.heap.size w8 W → Calls Try.prog 56 #[.slice (some ⟨g, 0, none⟩) k xc, .int .i64 (j : Nat), celV cx, .bool false] W (OwnOut W (putM R0 (j : Int) cx false)) from fun W hb => rput_in W _ R0 j cx false (HR8.out.below hb).row HI.out.2.1 hfit (by rw [HI.out.1, ← HN.out]; omega))
                clear hfit HGO
                refine wp_region_held_drew (S := fun w' => w'.cell? ⟨y, 0, none⟩ = some (.int .i32 cx.ru) ∧ w'.cell? ⟨y, 1, none⟩ = some (.int .i32 cx.m0) ∧ w'.cell? ⟨y, 2, none⟩ = some (.int .i32 cx.m1) ∧ w'.cell? ⟨y, 3, none⟩ = some (.int .u8 cx.k) ∧ w'.cell? ⟨y, 4, none⟩ = some (.int .u8 cx.a.fg.k) ∧ w'.cell? ⟨y, 5, none⟩ = some (.int .u8 cx.a.fg.r) ∧ w'.cell? ⟨y, 6, none⟩ = some (.int .u8 cx.a.fg.g) ∧ w'.cell? ⟨y, 7, none⟩ = some (.int .u8 cx.a.fg.b) ∧ w'.cell? ⟨y, 8, none⟩ = some (.int .u8 cx.a.bg.k) ∧ w'.cell? ⟨y, 9, none⟩ = some (.int .u8 cx.a.bg.r) ∧ w'.cell? ⟨y, 10, none⟩ = some (.int .u8 cx.a.bg.g) ∧ w'.cell? ⟨y, 11, none⟩ = some (.int .u8 cx.a.bg.b) ∧ w'.cell? ⟨y, 12, none⟩ = some (.int .u16 (cx.a.fl : Nat)) ∧ w'.cell? ⟨y, 13, none⟩ = some (.int .u8 cx.l) ∧ w'.cell? ⟨z, 3, none⟩ = some (.bool true) ∧ w'.cell? ⟨gl, j, none⟩ = some (.int .u8 lj) ∧ w'.cell? ⟨gl, j1, none⟩ = some (.int .u8 l1)) (by as_aux_lemma => kernel_rfl) ?_ (fun hHeld => ?_)
                · exact HKEEP.out _ (⟨rfl, rfl, rfl, Nat.le_refl _, fun _ _ => rfl⟩)
                obtain ⟨u0, hu0⟩ : ∃ u0, u0 = w8.drew := ⟨_, rfl⟩
                have HX := Lib.hid (show Below w8.heap.size w8 u0 by rw [hu0]; exact ⟨rfl, rfl, rfl, Nat.le_refl _, fun _ _ => rfl⟩)
                replace hHeld := HKEEP.out _ HX.out
                rw [← hu0]
                clear hu0
                refine take_at (i := 0) (v := ?_) rfl (by as_aux_lemma => kernel_rfl) (by as_aux_lemma => kernel_rfl) (by as_aux_lemma => kernel_rfl) (fun _ _ _ h => h) (by as_aux_lemma => kernel_rfl) (by assumption) ?_ ?_
                rotate_left
                · (intro w hSw; (try dsimp only at hSw); go_simp; try with_reducible rfl)
                go_frame
                refine take_at (i := 1) (v := ?_) rfl (by as_aux_lemma => kernel_rfl) (by as_aux_lemma => kernel_rfl) (by as_aux_lemma => kernel_rfl) (fun _ _ _ h => h) (by as_aux_lemma => kernel_rfl) (by assumption) ?_ ?_
                rotate_left
                · (intro w hSw; (try dsimp only at hSw); go_simp; try with_reducible rfl)
                go_frame
                refine take_at (i := 2) (v := ?_) rfl (by as_aux_lemma => kernel_rfl) (by as_aux_lemma => kernel_rfl) (by as_aux_lemma => kernel_rfl) (fun _ _ _ h => h) (by as_aux_lemma => kernel_rfl) (by assumption) ?_ ?_
                rotate_left
                · (intro w hSw; (try dsimp only at hSw); go_simp; try with_reducible rfl)
                go_frame
                refine take_at (i := 3) (v := ?_) rfl (by as_aux_lemma => kernel_rfl) (by as_aux_lemma => kernel_rfl) (by as_aux_lemma => kernel_rfl) (fun _ _ _ h => h) (by as_aux_lemma => kernel_rfl) (by assumption) ?_ ?_
                rotate_left
                · (intro w hSw; (try dsimp only at hSw); go_simp; try with_reducible rfl)
                go_frame
                refine take_at (i := 4) (v := ?_) rfl (by as_aux_lemma => kernel_rfl) (by as_aux_lemma => kernel_rfl) (by as_aux_lemma => kernel_rfl) (fun _ _ _ h => h) (by as_aux_lemma => kernel_rfl) (by assumption) ?_ ?_
                rotate_left
                · (intro w hSw; (try dsimp only at hSw); go_simp; try with_reducible rfl)
                go_frame
                refine take_at (i := 5) (v := ?_) rfl (by as_aux_lemma => kernel_rfl) (by as_aux_lemma => kernel_rfl) (by as_aux_lemma => kernel_rfl) (fun _ _ _ h => h) (by as_aux_lemma => kernel_rfl) (by assumption) ?_ ?_
                rotate_left
                · (intro w hSw; (try dsimp only at hSw); go_simp; try with_reducible rfl)
                go_frame
                refine take_at (i := 6) (v := ?_) rfl (by as_aux_lemma => kernel_rfl) (by as_aux_lemma => kernel_rfl) (by as_aux_lemma => kernel_rfl) (fun _ _ _ h => h) (by as_aux_lemma => kernel_rfl) (by assumption) ?_ ?_
                rotate_left
                · (intro w hSw; (try dsimp only at hSw); go_simp; try with_reducible rfl)
                go_frame
                refine take_at (i := 7) (v := ?_) rfl (by as_aux_lemma => kernel_rfl) (by as_aux_lemma => kernel_rfl) (by as_aux_lemma => kernel_rfl) (fun _ _ _ h => h) (by as_aux_lemma => kernel_rfl) (by assumption) ?_ ?_
                rotate_left
                · (intro w hSw; (try dsimp only at hSw); go_simp; try with_reducible rfl)
                go_frame
                refine take_at (i := 8) (v := ?_) rfl (by as_aux_lemma => kernel_rfl) (by as_aux_lemma => kernel_rfl) (by as_aux_lemma => kernel_rfl) (fun _ _ _ h => h) (by as_aux_lemma => kernel_rfl) (by assumption) ?_ ?_
                rotate_left
                · (intro w hSw; (try dsimp only at hSw); go_simp; try with_reducible rfl)
                go_frame
                refine take_at (i := 9) (v := ?_) rfl (by as_aux_lemma => kernel_rfl) (by as_aux_lemma => kernel_rfl) (by as_aux_lemma => kernel_rfl) (fun _ _ _ h => h) (by as_aux_lemma => kernel_rfl) (by assumption) ?_ ?_
                rotate_left
                · (intro w hSw; (try dsimp only at hSw); go_simp; try with_reducible rfl)
                go_frame
                refine take_at (i := 10) (v := ?_) rfl (by as_aux_lemma => kernel_rfl) (by as_aux_lemma => kernel_rfl) (by as_aux_lemma => kernel_rfl) (fun _ _ _ h => h) (by as_aux_lemma => kernel_rfl) (by assumption) ?_ ?_
                rotate_left
                · (intro w hSw; (try dsimp only at hSw); go_simp; try with_reducible rfl)
                go_frame
                refine take_at (i := 11) (v := ?_) rfl (by as_aux_lemma => kernel_rfl) (by as_aux_lemma => kernel_rfl) (by as_aux_lemma => kernel_rfl) (fun _ _ _ h => h) (by as_aux_lemma => kernel_rfl) (by assumption) ?_ ?_
                rotate_left
                · (intro w hSw; (try dsimp only at hSw); go_simp; try with_reducible rfl)
                go_frame
                refine take_at (i := 12) (v := ?_) rfl (by as_aux_lemma => kernel_rfl) (by as_aux_lemma => kernel_rfl) (by as_aux_lemma => kernel_rfl) (fun _ _ _ h => h) (by as_aux_lemma => kernel_rfl) (by assumption) ?_ ?_
                rotate_left
                · (intro w hSw; (try dsimp only at hSw); go_simp; try with_reducible rfl)
                go_frame
                refine take_at (i := 13) (v := ?_) rfl (by as_aux_lemma => kernel_rfl) (by as_aux_lemma => kernel_rfl) (by as_aux_lemma => kernel_rfl) (fun _ _ _ h => h) (by as_aux_lemma => kernel_rfl) (by assumption) ?_ ?_
                rotate_left
                · (intro w hSw; (try dsimp only at hSw); go_simp; try with_reducible rfl)
                go_frame
                refine take_at (i := 14) (v := ?_) rfl (by as_aux_lemma => kernel_rfl) (by as_aux_lemma => kernel_rfl) (by as_aux_lemma => kernel_rfl) (fun _ _ _ h => h) (by as_aux_lemma => kernel_rfl) (by assumption) ?_ ?_
                rotate_left
                · (intro w hSw; (try dsimp only at hSw); go_simp; try with_reducible rfl)
                go_frame
                refine take_at (i := 15) (v := ?_) rfl (by as_aux_lemma => kernel_rfl) (by as_aux_lemma => kernel_rfl) (by as_aux_lemma => kernel_rfl) (fun _ _ _ h => h) (by as_aux_lemma => kernel_rfl) (by assumption) ?_ ?_
                rotate_left
                · (intro w hSw; (try dsimp only at hSw); go_simp; try with_reducible rfl)
                go_frame
                refine take_at (i := 16) (v := ?_) rfl (by as_aux_lemma => kernel_rfl) (by as_aux_lemma => kernel_rfl) (by as_aux_lemma => kernel_rfl) (fun _ _ _ h => h) (by as_aux_lemma => kernel_rfl) (by assumption) ?_ ?_
                rotate_left
                · (intro w hSw; (try dsimp only at hSw); go_simp; try with_reducible rfl)
                go_frame
                refine take_at (i := 17) (v := ?_) rfl (by as_aux_lemma => kernel_rfl) (by as_aux_lemma => kernel_rfl) (by as_aux_lemma => kernel_rfl) (fun _ _ _ h => h) (by as_aux_lemma => kernel_rfl) (by assumption) ?_ ?_
                rotate_left
                · (intro w hSw; (try dsimp only at hSw); go_simp; try with_reducible rfl)
                go_frame
                refine take_at (i := 18) (v := ?_) rfl (by as_aux_lemma => kernel_rfl) (by as_aux_lemma => kernel_rfl) (by as_aux_lemma => kernel_rfl) (fun _ _ _ h => h) (by as_aux_lemma => kernel_rfl) (by assumption) ?_ ?_
                rotate_left
                · (intro w hSw; (try dsimp only at hSw); go_simp; try with_reducible rfl)
                go_frame
                refine take_at (i := 19) (v := ?_) rfl (by as_aux_lemma => kernel_rfl) (by as_aux_lemma => kernel_rfl) (by as_aux_lemma => kernel_rfl) (fun _ _ _ h => h) (by as_aux_lemma => kernel_rfl) (by assumption) ?_ ?_
                rotate_left
                · (intro w hSw; (try dsimp only at hSw); go_simp; try with_reducible rfl)
                go_frame
                refine take_at (i := 20) (v := ?_) rfl (by as_aux_lemma => kernel_rfl) (by as_aux_lemma => kernel_rfl) (by as_aux_lemma => kernel_rfl) (fun _ _ _ h => h) (by as_aux_lemma => kernel_rfl) (by assumption) ?_ ?_
                rotate_left
                · (intro w hSw; (try dsimp only at hSw); go_simp; try with_reducible rfl)
                go_frame
                refine take_at (i := 21) (v := ?_) rfl (by as_aux_lemma => kernel_rfl) (by as_aux_lemma => kernel_rfl) (by as_aux_lemma => kernel_rfl) (fun _ _ _ h => h) (by as_aux_lemma => kernel_rfl) (by assumption) ?_ ?_
                rotate_left
                · (intro w hSw; (try dsimp only at hSw); go_simp; try with_reducible rfl)
                go_frame
                refine take_at (i := 22) (v := ?_) rfl (by as_aux_lemma => kernel_rfl) (by as_aux_lemma => kernel_rfl) (by as_aux_lemma => kernel_rfl) (fun _ _ _ h => h) (by as_aux_lemma => kernel_rfl) (by assumption) ?_ ?_
                rotate_left
                · (intro w hSw; (try dsimp only at hSw); go_simp; try with_reducible rfl)
                go_frame
                refine take_at (i := 23) (v := ?_) rfl (by as_aux_lemma => kernel_rfl) (by as_aux_lemma => kernel_rfl) (by as_aux_lemma => kernel_rfl) (fun _ _ _ h => h) (by as_aux_lemma => kernel_rfl) (by assumption) ?_ ?_
                rotate_left
                · (intro w hSw; (try dsimp only at hSw); go_simp; try with_reducible rfl)
                go_frame
                refine do_at (i := 24) rfl (by as_aux_lemma => kernel_rfl) (by as_aux_lemma => kernel_rfl) (fun K hK => ?_)
                go_simp
                refine (CP.out _ HX.out).mono ?_
                rintro e w9 ⟨r9, rfl, R9, _, bb⟩
                have HX2 := Lib.hid (HX.out.trans (bb.mono HX.out.size))
                have HRN := Lib.hid (R9.lower (Nat.le_trans HB8.out.size HX.out.size))
                clear bb R9 HX
                go_wp2_with fail
                refine hK.out _ _ ?_ (fun hHeld => ?_)
                · exact HKEEP.out _ HX2.out
                clear hK K
                try go_frame
                refine take_at (i := 25) (v := ?_) rfl (by as_aux_lemma => kernel_rfl) (by as_aux_lemma => kernel_rfl) (by as_aux_lemma => kernel_rfl) (fun _ _ _ h => h) (by as_aux_lemma => kernel_rfl) (by assumption) ?_ ?_
                rotate_left
                · (intro w hSw; (try dsimp only at hSw); go_simp; try with_reducible rfl)
                go_frame
                refine wpAnyH_done (by as_aux_lemma => kernel_rfl) ?_ _
                have HBN := Lib.hid (HB8.out.trans (HX2.out.mono HB8.out.size))
                clear HX2 hHeld HKEEP CP HR8 HB8 HD8 HY8
                go_wp2
                go_roundg (k - j1)
                case rel => exact ⟨j1, rfl, by have := HJ1.out; omega, Nat.le_refl _, .inr hmp, by rw [HJ1.out, HE.out]; exact HRN, HBN⟩
                case measure => have := HJ1.out; omega
        · have l1 : (lj == 1) = false := by simp [hl1]
          go_upto_region 12 with (fail)
          have HPK := Lib.hid (show pickD labs L O j = d0 from by unfold pickD; rw [if_neg (by rintro ⟨e, _⟩; exact hl1 (by rw [HLJ.out]; exact e)), ← HM.out, ← HSE.out, HD0.out])
          obtain ⟨d, hde⟩ : ∃ d, d = d0 := ⟨_, rfl⟩
          rw [← hde] at HPK
          have HDZ := Lib.hid (show DW wb z d by rw [hde]; exact HZ.out)
          have HOK := Lib.hid (show d.ok by rw [hde]; exact HDO.out)
          clear hde
          have hj14 : j < R0.length := by rw [HI.out.1, ← HN.out]; exact hlt
          have HC := Lib.hid (HRB.out.at hj14)
          obtain ⟨⟨_, x0, x1, x2, x3, x4⟩, _⟩ := HDZ.out
          obtain ⟨q, hq⟩ : ∃ q, q = d.ru % 5 := ⟨_, rfl⟩
          have HQ := Lib.hid hq
          have q1 : (d.ru : Int).tmod 5 = (q : Int) := by rw [Int.tmod_eq_emod_of_nonneg (by omega)]; omega
          have q2 : (d.ru : Int) % 5 = (q : Int) := by omega
          have q3 : q < 5 := by omega
          have q4 : IntKind.u8.wrap (q : Int) = (q : Int) := by rw [IntKind.wrap_u8]; omega
          clear hq
          by_cases hq4 : q = 4
          · have HE := Lib.hid (show fillK labs L O (j + 1) = R0 by rw [fillK_succ, ← HR0.out]; unfold stepF putD; rw [HPK.out, if_pos (.inl (by rw [← HQ.out]; exact hq4))])
            clear x1 x2 x3 x4 HC
            have q5 : ((q : Int) == 4) = true := by simp; omega
            clear q3 hq4
            go_wp2
            go_roundg (k - (j + 1))
            case rel => exact ⟨j + 1, by go_num, by omega, Nat.le_refl _, .inr hmp, by rw [HE.out]; exact HRB, HBB⟩
            case measure => omega
          have q5 : ((q : Int) == 4) = false := by simp; omega
          obtain ⟨ck, hck⟩ : ∃ c, c = gc R0 j := ⟨_, rfl⟩
          have HCK := Lib.hid hck
          rw [← hck] at HC
          have c3 := HC.out.2.2.2.1
          clear hck
          by_cases hk2 : ck.k = 2
          · have c4 : (ck.k == 2) = true := by simp [hk2]
            have HE := Lib.hid (show fillK labs L O (j + 1) = R0 by rw [fillK_succ, ← HR0.out]; unfold stepF putD; rw [HPK.out, if_pos (.inr (by rw [← HCK.out]; exact hk2))])
            clear x1 x2 x3 x4 HC
            clear hk2 hq4 q3
            go_wp2
            go_roundg (k - (j + 1))
            case rel => exact ⟨j + 1, by go_num, by omega, Nat.le_refl _, .inr hmp, by rw [HE.out]; exact HRB, HBB⟩
            case measure => omega
          have c4 : (ck.k == 2) = false := by simp [hk2]
          have HGO := Lib.hid (show fillK labs L O (j + 1) = putM R0 (j : Int) { celD d with l := labs.getD j 0 } (wideAt labs d j) by
            rw [fillK_succ, ← HR0.out]
            unfold stepF putD
            rw [HPK.out, if_neg]
            rintro (e | e)
            · exact hq4 (by rw [HQ.out]; exact e)
            · exact hk2 (by rw [HCK.out]; exact e))
          clear hk2 hq4
          have CC := Lib.hid (fun X => rcell_any X d HOK.out)
          go_upto_region 13 with (fail)
          clear q1 q2 q3 q4 q5 c3 c4
          go_wp2_with fail
          refine (CC.out _).mono ?_
          rintro e w5 ⟨rfl, bb⟩
          have HDZ5 := Lib.hid (HDZ.out.below bb)
          have HR5 := Lib.hid (HRB.out.below bb)
          have HB5 := Lib.hid (HBB.out.trans (bb.mono HBB.out.size))
          clear bb CC HC HDZ x0 x1 x2 x3 x4
          obtain ⟨cd, hcd⟩ : ∃ c, c = celD d := ⟨_, rfl⟩
          rw [← hcd] at HGO ⊢
          obtain ⟨y, hy⟩ : ∃ y, y = w5.heap.size := ⟨_, rfl⟩
          obtain ⟨w7, hw7⟩ : ∃ x, x = w5.alloc (.cells #[.int .i32 cd.ru, .int .i32 cd.m0, .int .i32 cd.m1, .int .u8 cd.k, .int .u8 cd.a.fg.k, .int .u8 cd.a.fg.r, .int .u8 cd.a.fg.g, .int .u8 cd.a.fg.b, .int .u8 cd.a.bg.k, .int .u8 cd.a.bg.r, .int .u8 cd.a.bg.g, .int .u8 cd.a.bg.b, .int .u16 (cd.a.fl : Nat), .int .u8 cd.l] 47) := ⟨_, rfl⟩
          have b7 : Below w5.heap.size w5 w7 := by rw [hw7]; exact (Below.refl _ _).alloc (Nat.le_refl _) _
          have HY7 := Lib.hid (show BAt w7 y cd by rw [hw7]; exact BAt.newAt w5 _ hy cd _)
          have HB7 := Lib.hid (show Below w.heap.size w w7 from HB5.out.trans (b7.mono HB5.out.size))
          obtain ⟨w8, hw8⟩ : ∃ x, x = w7.setCell ⟨y, 13, none⟩ (.int .u8 lj) := ⟨_, rfl⟩
          obtain ⟨cx, hcx⟩ : ∃ c, c = ({ cd with l := lj } : Cel) := ⟨_, rfl⟩
          have HY8 := Lib.hid (show BAt w8 y cx by rw [hw8, hcx]; exact HY7.out.lab lj)
          have HCX := Lib.hid hcx
          have hyy : y ≠ g ∧ y ≠ z ∧ w.heap.size ≤ y := by
            have h1 := HDZ5.out.1.1
            have h2 := HZG.out
            have h3 := HZB.out
            omega
          have k6 : But y w7 w8 := by rw [hw8]; exact But.set _ y 13 _
          have HD8 := Lib.hid (show DW w8 z d from (HDZ5.out.below b7).same k6.size (k6.block z (HDZ5.out.below b7).1.1 (by simp; omega)))
          have HR8 := Lib.hid (show CRow w8 w.heap.size (.slice (some ⟨g, 0, none⟩) k xc) R0 from (HR5.out.below b7).kept (row := some y) k6 (.inr (by simp [Value.ownBlock]; omega)))
          have HB8 := Lib.hid (show Below w.heap.size w w8 from HB7.out.trans (k6.below (C := w.heap.size) hyy.2.2 HB7.out.size))
          clear hcx hyy k6 b7 HDZ5 HR5 hcd
          go_upto_region 14 with (fail)
          rw [← hw7, ← hy]
          clear hw7 hy
          have yl := HLC.out j hlt w7 HB7.out
          rw [← HLJ.out] at yl
          obtain ⟨_, ⟨a0, a1, a2, a3, a4, a5, a6, a7, a8, a9, a10, a11, a12, a13⟩, af⟩ := HY7.out
          go_upto_region 15 with (fail)
          rw [← hw8]
          clear hw8 a0 a1 a2 a3 a4 a5 a6 a7 a8 a9 a10 a11 a12 a13 af yl HY7
          obtain ⟨j1, hj1⟩ : ∃ j1, j1 = j + 1 := ⟨_, rfl⟩
          have HJ1 := Lib.hid hj1
          have s9 : IntKind.i64.wrap ((j : Int) + 1) = (j1 : Int) := by rw [IntKind.wrap_i64]; omega
          clear hj1
          obtain ⟨wd, hwd⟩ : ∃ b, b = d.wide := ⟨_, rfl⟩
          have HWD := Lib.hid hwd
          clear hwd
          cases wd
          · have HKEEP := Lib.hid (show ∀ W, Below w8.heap.size w8 W → (fun w' => w'.cell? ⟨y, 0, none⟩ = some (.int .i32 cx.ru) ∧ w'.cell? ⟨y, 1, none⟩ = some (.int .i32 cx.m0) ∧ w'.cell? ⟨y, 2, none⟩ = some (.int .i32 cx.m1) ∧ w'.cell? ⟨y, 3, none⟩ = some (.int .u8 cx.k) ∧ w'.cell? ⟨y, 4, none⟩ = some (.int .u8 cx.a.fg.k) ∧ w'.cell? ⟨y, 5, none⟩ = some (.int .u8 cx.a.fg.r) ∧ w'.cell? ⟨y, 6, none⟩ = some (.int .u8 cx.a.fg.g) ∧ w'.cell? ⟨y, 7, none⟩ = some (.int .u8 cx.a.fg.b) ∧ w'.cell? ⟨y, 8, none⟩ = some (.int .u8 cx.a.bg.k) ∧ w'.cell? ⟨y, 9, none⟩ = some (.int .u8 cx.a.bg.r) ∧ w'.cell? ⟨y, 10, none⟩ = some (.int .u8 cx.a.bg.g) ∧ w'.cell? ⟨y, 11, none⟩ = some (.int .u8 cx.a.bg.b) ∧ w'.cell? ⟨y, 12, none⟩ = some (.int .u16 (cx.a.fl : Nat)) ∧ w'.cell? ⟨y, 13, none⟩ = some (.int .u8 cx.l) ∧ w'.cell? ⟨z, 3, none⟩ = some (.bool false) ∧ w'.cell? ⟨gl, j, none⟩ = some (.int .u8 lj)) W from fun W hb => by
              obtain ⟨k0, k1, k2, k3, k4, k5, k6, k7, k8, k9, k10, k11, k12, k13⟩ := (HY8.out.below hb).2.1
              exact ⟨k0, k1, k2, k3, k4, k5, k6, k7, k8, k9, k10, k11, k12, k13, by have := (HD8.out.below hb).1.2.2.2.2.1; rw [← HWD.out] at this; exact this, by rw [HLJ.out]; exact HLC.out j hlt W (HB8.out.trans (hb.mono HB8.out.size))⟩)
            dsimp only at HKEEP
            have HE := Lib.hid (show fillK labs L O (j + 1) = putM R0 (j : Int) cx false by
              have hw : wideAt labs d j = false := by simp [wideAt, ← HWD.out]
              rw [HGO.out, hw, HCX.out, HLJ.out])
            have hfit : j + (if false = true then 2 else 1) ≤ R0.length := by rw [HI.out.1, ← HN.out]; have := HJ1.out; simp; omega
            have CP := Lib.hid (show ∀ W, Below w8.heap.size w8 W → Calls Try.prog 56 #[.slice (some ⟨g, 0, none⟩) k xc, .int .i64 (j : Nat), celV cx, .bool false] W (OwnOut W (putM R0 (j : Int) cx false)) from fun W hb => rput_in W _ R0 j cx false (HR8.out.below hb).row HI.out.2.1 hfit (by rw [HI.out.1, ← HN.out]; omega))
            clear hfit HGO
            refine wp_region_held_drew (S := fun w' => w'.cell? ⟨y, 0, none⟩ = some (.int .i32 cx.ru) ∧ w'.cell? ⟨y, 1, none⟩ = some (.int .i32 cx.m0) ∧ w'.cell? ⟨y, 2, none⟩ = some (.int .i32 cx.m1) ∧ w'.cell? ⟨y, 3, none⟩ = some (.int .u8 cx.k) ∧ w'.cell? ⟨y, 4, none⟩ = some (.int .u8 cx.a.fg.k) ∧ w'.cell? ⟨y, 5, none⟩ = some (.int .u8 cx.a.fg.r) ∧ w'.cell? ⟨y, 6, none⟩ = some (.int .u8 cx.a.fg.g) ∧ w'.cell? ⟨y, 7, none⟩ = some (.int .u8 cx.a.fg.b) ∧ w'.cell? ⟨y, 8, none⟩ = some (.int .u8 cx.a.bg.k) ∧ w'.cell? ⟨y, 9, none⟩ = some (.int .u8 cx.a.bg.r) ∧ w'.cell? ⟨y, 10, none⟩ = some (.int .u8 cx.a.bg.g) ∧ w'.cell? ⟨y, 11, none⟩ = some (.int .u8 cx.a.bg.b) ∧ w'.cell? ⟨y, 12, none⟩ = some (.int .u16 (cx.a.fl : Nat)) ∧ w'.cell? ⟨y, 13, none⟩ = some (.int .u8 cx.l) ∧ w'.cell? ⟨z, 3, none⟩ = some (.bool false) ∧ w'.cell? ⟨gl, j, none⟩ = some (.int .u8 lj)) (by as_aux_lemma => kernel_rfl) ?_ (fun hHeld => ?_)
            · exact HKEEP.out _ (⟨rfl, rfl, rfl, Nat.le_refl _, fun _ _ => rfl⟩)
            obtain ⟨u0, hu0⟩ : ∃ u0, u0 = w8.drew := ⟨_, rfl⟩
            have HX := Lib.hid (show Below w8.heap.size w8 u0 by rw [hu0]; exact ⟨rfl, rfl, rfl, Nat.le_refl _, fun _ _ => rfl⟩)
            replace hHeld := HKEEP.out _ HX.out
            rw [← hu0]
            clear hu0
            refine take_at (i := 0) (v := ?_) rfl (by as_aux_lemma => kernel_rfl) (by as_aux_lemma => kernel_rfl) (by as_aux_lemma => kernel_rfl) (fun _ _ _ h => h) (by as_aux_lemma => kernel_rfl) (by assumption) ?_ ?_
            rotate_left
            · (intro w hSw; (try dsimp only at hSw); go_simp; try with_reducible rfl)
            go_frame
            refine take_at (i := 1) (v := ?_) rfl (by as_aux_lemma => kernel_rfl) (by as_aux_lemma => kernel_rfl) (by as_aux_lemma => kernel_rfl) (fun _ _ _ h => h) (by as_aux_lemma => kernel_rfl) (by assumption) ?_ ?_
            rotate_left
            · (intro w hSw; (try dsimp only at hSw); go_simp; try with_reducible rfl)
            go_frame
            refine take_at (i := 2) (v := ?_) rfl (by as_aux_lemma => kernel_rfl) (by as_aux_lemma => kernel_rfl) (by as_aux_lemma => kernel_rfl) (fun _ _ _ h => h) (by as_aux_lemma => kernel_rfl) (by assumption) ?_ ?_
            rotate_left
            · (intro w hSw; (try dsimp only at hSw); go_simp; try with_reducible rfl)
            go_frame
            refine take_at (i := 3) (v := ?_) rfl (by as_aux_lemma => kernel_rfl) (by as_aux_lemma => kernel_rfl) (by as_aux_lemma => kernel_rfl) (fun _ _ _ h => h) (by as_aux_lemma => kernel_rfl) (by assumption) ?_ ?_
            rotate_left
            · (intro w hSw; (try dsimp only at hSw); go_simp; try with_reducible rfl)
            go_frame
            refine take_at (i := 4) (v := ?_) rfl (by as_aux_lemma => kernel_rfl) (by as_aux_lemma => kernel_rfl) (by as_aux_lemma => kernel_rfl) (fun _ _ _ h => h) (by as_aux_lemma => kernel_rfl) (by assumption) ?_ ?_
            rotate_left
            · (intro w hSw; (try dsimp only at hSw); go_simp; try with_reducible rfl)
            go_frame
            refine take_at (i := 5) (v := ?_) rfl (by as_aux_lemma => kernel_rfl) (by as_aux_lemma => kernel_rfl) (by as_aux_lemma => kernel_rfl) (fun _ _ _ h => h) (by as_aux_lemma => kernel_rfl) (by assumption) ?_ ?_
            rotate_left
            · (intro w hSw; (try dsimp only at hSw); go_simp; try with_reducible rfl)
            go_frame
            refine skip_at (i := 6) rfl (by as_aux_lemma => kernel_rfl) (by as_aux_lemma => kernel_rfl) (by as_aux_lemma => kernel_rfl) (fun _ _ _ h => h) (by as_aux_lemma => kernel_rfl) (by assumption) ?_
            go_frame
            refine skip_at (i := 7) rfl (by as_aux_lemma => kernel_rfl) (by as_aux_lemma => kernel_rfl) (by as_aux_lemma => kernel_rfl) (fun _ _ _ h => h) (by as_aux_lemma => kernel_rfl) (by assumption) ?_
            go_frame
            refine skip_at (i := 8) rfl (by as_aux_lemma => kernel_rfl) (by as_aux_lemma => kernel_rfl) (by as_aux_lemma => kernel_rfl) (fun _ _ _ h => h) (by as_aux_lemma => kernel_rfl) (by assumption) ?_
            go_frame
            refine skip_at (i := 9) rfl (by as_aux_lemma => kernel_rfl) (by as_aux_lemma => kernel_rfl) (by as_aux_lemma => kernel_rfl) (fun _ _ _ h => h) (by as_aux_lemma => kernel_rfl) (by assumption) ?_
            go_frame
            refine skip_at (i := 10) rfl (by as_aux_lemma => kernel_rfl) (by as_aux_lemma => kernel_rfl) (by as_aux_lemma => kernel_rfl) (fun _ _ _ h => h) (by as_aux_lemma => kernel_rfl) (by assumption) ?_
            go_frame
            refine take_at (i := 11) (v := ?_) rfl (by as_aux_lemma => kernel_rfl) (by as_aux_lemma => kernel_rfl) (by as_aux_lemma => kernel_rfl) (fun _ _ _ h => h) (by as_aux_lemma => kernel_rfl) (by assumption) ?_ ?_
            rotate_left
            · (intro w hSw; (try dsimp only at hSw); go_simp; try with_reducible rfl)
            go_frame
            refine take_at (i := 12) (v := ?_) rfl (by as_aux_lemma => kernel_rfl) (by as_aux_lemma => kernel_rfl) (by as_aux_lemma => kernel_rfl) (fun _ _ _ h => h) (by as_aux_lemma => kernel_rfl) (by assumption) ?_ ?_
            rotate_left
            · (intro w hSw; (try dsimp only at hSw); go_simp; try with_reducible rfl)
            go_frame
            refine skip_at (i := 13) rfl (by as_aux_lemma => kernel_rfl) (by as_aux_lemma => kernel_rfl) (by as_aux_lemma => kernel_rfl) (fun _ _ _ h => h) (by as_aux_lemma => kernel_rfl) (by assumption) ?_
            go_frame
            refine skip_at (i := 14) rfl (by as_aux_lemma => kernel_rfl) (by as_aux_lemma => kernel_rfl) (by as_aux_lemma => kernel_rfl) (fun _ _ _ h => h) (by as_aux_lemma => kernel_rfl) (by assumption) ?_
            go_frame
            refine skip_at (i := 15) rfl (by as_aux_lemma => kernel_rfl) (by as_aux_lemma => kernel_rfl) (by as_aux_lemma => kernel_rfl) (fun _ _ _ h => h) (by as_aux_lemma => kernel_rfl) (by assumption) ?_
            go_frame
            refine skip_at (i := 16) rfl (by as_aux_lemma => kernel_rfl) (by as_aux_lemma => kernel_rfl) (by as_aux_lemma => kernel_rfl) (fun _ _ _ h => h) (by as_aux_lemma => kernel_rfl) (by assumption) ?_
            go_frame
            refine skip_at (i := 17) rfl (by as_aux_lemma => kernel_rfl) (by as_aux_lemma => kernel_rfl) (by as_aux_lemma => kernel_rfl) (fun _ _ _ h => h) (by as_aux_lemma => kernel_rfl) (by assumption) ?_
            go_frame
            refine skip_at (i := 18) rfl (by as_aux_lemma => kernel_rfl) (by as_aux_lemma => kernel_rfl) (by as_aux_lemma => kernel_rfl) (fun _ _ _ h => h) (by as_aux_lemma => kernel_rfl) (by assumption) ?_
            go_frame
            refine skip_at (i := 19) rfl (by as_aux_lemma => kernel_rfl) (by as_aux_lemma => kernel_rfl) (by as_aux_lemma => kernel_rfl) (fun _ _ _ h => h) (by as_aux_lemma => kernel_rfl) (by assumption) ?_
            go_frame
            refine skip_at (i := 20) rfl (by as_aux_lemma => kernel_rfl) (by as_aux_lemma => kernel_rfl) (by as_aux_lemma => kernel_rfl) (fun _ _ _ h => h) (by as_aux_lemma => kernel_rfl) (by assumption) ?_
            go_frame
            refine skip_at (i := 21) rfl (by as_aux_lemma => kernel_rfl) (by as_aux_lemma => kernel_rfl) (by as_aux_lemma => kernel_rfl) (fun _ _ _ h => h) (by as_aux_lemma => kernel_rfl) (by assumption) ?_
            go_frame
            refine skip_at (i := 22) rfl (by as_aux_lemma => kernel_rfl) (by as_aux_lemma => kernel_rfl) (by as_aux_lemma => kernel_rfl) (fun _ _ _ h => h) (by as_aux_lemma => kernel_rfl) (by assumption) ?_
            go_frame
            refine take_at (i := 23) (v := ?_) rfl (by as_aux_lemma => kernel_rfl) (by as_aux_lemma => kernel_rfl) (by as_aux_lemma => kernel_rfl) (fun _ _ _ h => h) (by as_aux_lemma => kernel_rfl) (by assumption) ?_ ?_
            rotate_left
            · (intro w hSw; (try dsimp only at hSw); go_simp; try with_reducible rfl)
            go_frame
            refine do_at (i := 24) rfl (by as_aux_lemma => kernel_rfl) (by as_aux_lemma => kernel_rfl) (fun K hK => ?_)
            go_simp
            refine (CP.out _ HX.out).mono ?_
            rintro e w9 ⟨r9, rfl, R9, _, bb⟩
            have HX2 := Lib.hid (HX.out.trans (bb.mono HX.out.size))
            have HRN := Lib.hid (R9.lower (Nat.le_trans HB8.out.size HX.out.size))
            clear bb R9 HX
            go_wp2_with fail
            refine hK.out _ _ ?_ (fun hHeld => ?_)
            · exact HKEEP.out _ HX2.out
            clear hK K
            try go_frame
            refine take_at (i := 25) (v := ?_) rfl (by as_aux_lemma => kernel_rfl) (by as_aux_lemma => kernel_rfl) (by as_aux_lemma => kernel_rfl) (fun _ _ _ h => h) (by as_aux_lemma => kernel_rfl) (by assumption) ?_ ?_
            rotate_left
            · (intro w hSw; (try dsimp only at hSw); go_simp; try with_reducible rfl)
            go_frame
            refine wpAnyH_done (by as_aux_lemma => kernel_rfl) ?_ _
            have HBN := Lib.hid (HB8.out.trans (HX2.out.mono HB8.out.size))
            clear HX2 hHeld HKEEP CP HR8 HB8 HD8 HY8
            go_wp2
            go_roundg (k - j1)
            case rel => exact ⟨j1, rfl, by have := HJ1.out; omega, Nat.le_refl _, .inr hmp, by rw [HJ1.out, HE.out]; exact HRN, HBN⟩
            case measure => have := HJ1.out; omega
          · by_cases hmo : j1 < k
            rotate_left
            · have HKEEP := Lib.hid (show ∀ W, Below w8.heap.size w8 W → (fun w' => w'.cell? ⟨y, 0, none⟩ = some (.int .i32 cx.ru) ∧ w'.cell? ⟨y, 1, none⟩ = some (.int .i32 cx.m0) ∧ w'.cell? ⟨y, 2, none⟩ = some (.int .i32 cx.m1) ∧ w'.cell? ⟨y, 3, none⟩ = some (.int .u8 cx.k) ∧ w'.cell? ⟨y, 4, none⟩ = some (.int .u8 cx.a.fg.k) ∧ w'.cell? ⟨y, 5, none⟩ = some (.int .u8 cx.a.fg.r) ∧ w'.cell? ⟨y, 6, none⟩ = some (.int .u8 cx.a.fg.g) ∧ w'.cell? ⟨y, 7, none⟩ = some (.int .u8 cx.a.fg.b) ∧ w'.cell? ⟨y, 8, none⟩ = some (.int .u8 cx.a.bg.k) ∧ w'.cell? ⟨y, 9, none⟩ = some (.int .u8 cx.a.bg.r) ∧ w'.cell? ⟨y, 10, none⟩ = some (.int .u8 cx.a.bg.g) ∧ w'.cell? ⟨y, 11, none⟩ = some (.int .u8 cx.a.bg.b) ∧ w'.cell? ⟨y, 12, none⟩ = some (.int .u16 (cx.a.fl : Nat)) ∧ w'.cell? ⟨y, 13, none⟩ = some (.int .u8 cx.l) ∧ w'.cell? ⟨z, 3, none⟩ = some (.bool true) ∧ w'.cell? ⟨gl, j, none⟩ = some (.int .u8 lj)) W from fun W hb => by
                obtain ⟨k0, k1, k2, k3, k4, k5, k6, k7, k8, k9, k10, k11, k12, k13⟩ := (HY8.out.below hb).2.1
                exact ⟨k0, k1, k2, k3, k4, k5, k6, k7, k8, k9, k10, k11, k12, k13, by have := (HD8.out.below hb).1.2.2.2.2.1; rw [← HWD.out] at this; exact this, by rw [HLJ.out]; exact HLC.out j hlt W (HB8.out.trans (hb.mono HB8.out.size))⟩)
              dsimp only at HKEEP
              have HE := Lib.hid (show fillK labs L O (j + 1) = putM R0 (j : Int) cx false by
                have hw : wideAt labs d j = false := by simp only [wideAt, ← HWD.out, ← HN.out, ← HJ1.out]; rw [decide_eq_false hmo]; rfl
                rw [HGO.out, hw, HCX.out, HLJ.out])
              have hfit : j + (if false = true then 2 else 1) ≤ R0.length := by rw [HI.out.1, ← HN.out]; have := HJ1.out; simp; omega
              have CP := Lib.hid (show ∀ W, Below w8.heap.size w8 W → Calls Try.prog 56 #[.slice (some ⟨g, 0, none⟩) k xc, .int .i64 (j : Nat), celV cx, .bool false] W (OwnOut W (putM R0 (j : Int) cx false)) from fun W hb => rput_in W _ R0 j cx false (HR8.out.below hb).row HI.out.2.1 hfit (by rw [HI.out.1, ← HN.out]; omega))
              clear hfit HGO
              refine wp_region_held_drew (S := fun w' => w'.cell? ⟨y, 0, none⟩ = some (.int .i32 cx.ru) ∧ w'.cell? ⟨y, 1, none⟩ = some (.int .i32 cx.m0) ∧ w'.cell? ⟨y, 2, none⟩ = some (.int .i32 cx.m1) ∧ w'.cell? ⟨y, 3, none⟩ = some (.int .u8 cx.k) ∧ w'.cell? ⟨y, 4, none⟩ = some (.int .u8 cx.a.fg.k) ∧ w'.cell? ⟨y, 5, none⟩ = some (.int .u8 cx.a.fg.r) ∧ w'.cell? ⟨y, 6, none⟩ = some (.int .u8 cx.a.fg.g) ∧ w'.cell? ⟨y, 7, none⟩ = some (.int .u8 cx.a.fg.b) ∧ w'.cell? ⟨y, 8, none⟩ = some (.int .u8 cx.a.bg.k) ∧ w'.cell? ⟨y, 9, none⟩ = some (.int .u8 cx.a.bg.r) ∧ w'.cell? ⟨y, 10, none⟩ = some (.int .u8 cx.a.bg.g) ∧ w'.cell? ⟨y, 11, none⟩ = some (.int .u8 cx.a.bg.b) ∧ w'.cell? ⟨y, 12, none⟩ = some (.int .u16 (cx.a.fl : Nat)) ∧ w'.cell? ⟨y, 13, none⟩ = some (.int .u8 cx.l) ∧ w'.cell? ⟨z, 3, none⟩ = some (.bool true) ∧ w'.cell? ⟨gl, j, none⟩ = some (.int .u8 lj)) (by as_aux_lemma => kernel_rfl) ?_ (fun hHeld => ?_)
              · exact HKEEP.out _ (⟨rfl, rfl, rfl, Nat.le_refl _, fun _ _ => rfl⟩)
              obtain ⟨u0, hu0⟩ : ∃ u0, u0 = w8.drew := ⟨_, rfl⟩
              have HX := Lib.hid (show Below w8.heap.size w8 u0 by rw [hu0]; exact ⟨rfl, rfl, rfl, Nat.le_refl _, fun _ _ => rfl⟩)
              replace hHeld := HKEEP.out _ HX.out
              rw [← hu0]
              clear hu0
              refine take_at (i := 0) (v := ?_) rfl (by as_aux_lemma => kernel_rfl) (by as_aux_lemma => kernel_rfl) (by as_aux_lemma => kernel_rfl) (fun _ _ _ h => h) (by as_aux_lemma => kernel_rfl) (by assumption) ?_ ?_
              rotate_left
              · (intro w hSw; (try dsimp only at hSw); go_simp; try with_reducible rfl)
              go_frame
              refine take_at (i := 1) (v := ?_) rfl (by as_aux_lemma => kernel_rfl) (by as_aux_lemma => kernel_rfl) (by as_aux_lemma => kernel_rfl) (fun _ _ _ h => h) (by as_aux_lemma => kernel_rfl) (by assumption) ?_ ?_
              rotate_left
              · (intro w hSw; (try dsimp only at hSw); go_simp; try with_reducible rfl)
              go_frame
              refine take_at (i := 2) (v := ?_) rfl (by as_aux_lemma => kernel_rfl) (by as_aux_lemma => kernel_rfl) (by as_aux_lemma => kernel_rfl) (fun _ _ _ h => h) (by as_aux_lemma => kernel_rfl) (by assumption) ?_ ?_
              rotate_left
              · (intro w hSw; (try dsimp only at hSw); go_simp; try with_reducible rfl)
              go_frame
              refine take_at (i := 3) (v := ?_) rfl (by as_aux_lemma => kernel_rfl) (by as_aux_lemma => kernel_rfl) (by as_aux_lemma => kernel_rfl) (fun _ _ _ h => h) (by as_aux_lemma => kernel_rfl) (by assumption) ?_ ?_
              rotate_left
              · (intro w hSw; (try dsimp only at hSw); go_simp; try with_reducible rfl)
              go_frame
              refine take_at (i := 4) (v := ?_) rfl (by as_aux_lemma => kernel_rfl) (by as_aux_lemma => kernel_rfl) (by as_aux_lemma => kernel_rfl) (fun _ _ _ h => h) (by as_aux_lemma => kernel_rfl) (by assumption) ?_ ?_
              rotate_left
              · (intro w hSw; (try dsimp only at hSw); go_simp; try with_reducible rfl)
              go_frame
              refine take_at (i := 5) (v := ?_) rfl (by as_aux_lemma => kernel_rfl) (by as_aux_lemma => kernel_rfl) (by as_aux_lemma => kernel_rfl) (fun _ _ _ h => h) (by as_aux_lemma => kernel_rfl) (by assumption) ?_ ?_
              rotate_left
              · (intro w hSw; (try dsimp only at hSw); go_simp; try with_reducible rfl)
              go_frame
              refine take_at (i := 6) (v := ?_) rfl (by as_aux_lemma => kernel_rfl) (by as_aux_lemma => kernel_rfl) (by as_aux_lemma => kernel_rfl) (fun _ _ _ h => h) (by as_aux_lemma => kernel_rfl) (by assumption) ?_ ?_
              rotate_left
              · (intro w hSw; (try dsimp only at hSw); go_simp; try with_reducible rfl)
              go_frame
              refine take_at (i := 7) (v := ?_) rfl (by as_aux_lemma => kernel_rfl) (by as_aux_lemma => kernel_rfl) (by as_aux_lemma => kernel_rfl) (fun _ _ _ h => h) (by as_aux_lemma => kernel_rfl) (by assumption) ?_ ?_
              rotate_left
              · (intro w hSw; (try dsimp only at hSw); go_simp; try with_reducible rfl)
              go_frame
              refine take_at (i := 8) (v := ?_) rfl (by as_aux_lemma => kernel_rfl) (by as_aux_lemma => kernel_rfl) (by as_aux_lemma => kernel_rfl) (fun _ _ _ h => h) (by as_aux_lemma => kernel_rfl) (by assumption) ?_ ?_
              rotate_left
              · (intro w hSw; (try dsimp only at hSw); go_simp; try with_reducible rfl)
              go_frame
              refine take_at (i := 9) (v := ?_) rfl (by as_aux_lemma => kernel_rfl) (by as_aux_lemma => kernel_rfl) (by as_aux_lemma => kernel_rfl) (fun _ _ _ h => h) (by as_aux_lemma => kernel_rfl) (by assumption) ?_ ?_
              rotate_left
              · (intro w hSw; (try dsimp only at hSw); go_simp; try with_reducible rfl)
              go_frame
              refine take_at (i := 10) (v := ?_) rfl (by as_aux_lemma => kernel_rfl) (by as_aux_lemma => kernel_rfl) (by as_aux_lemma => kernel_rfl) (fun _ _ _ h => h) (by as_aux_lemma => kernel_rfl) (by assumption) ?_ ?_
              rotate_left
              · (intro w hSw; (try dsimp only at hSw); go_simp; try with_reducible rfl)
              go_frame
              refine take_at (i := 11) (v := ?_) rfl (by as_aux_lemma => kernel_rfl) (by as_aux_lemma => kernel_rfl) (by as_aux_lemma => kernel_rfl) (fun _ _ _ h => h) (by as_aux_lemma => kernel_rfl) (by assumption) ?_ ?_
              rotate_left
              · (intro w hSw; (try dsimp only at hSw); go_simp; try with_reducible rfl)
              go_frame
              refine take_at (i := 12) (v := ?_) rfl (by as_aux_lemma => kernel_rfl) (by as_aux_lemma => kernel_rfl) (by as_aux_lemma => kernel_rfl) (fun _ _ _ h => h) (by as_aux_lemma => kernel_rfl) (by assumption) ?_ ?_
              rotate_left
              · (intro w hSw; (try dsimp only at hSw); go_simp; try with_reducible rfl)
              go_frame
              refine skip_at (i := 13) rfl (by as_aux_lemma => kernel_rfl) (by as_aux_lemma => kernel_rfl) (by as_aux_lemma => kernel_rfl) (fun _ _ _ h => h) (by as_aux_lemma => kernel_rfl) (by assumption) ?_
              go_frame
              refine skip_at (i := 14) rfl (by as_aux_lemma => kernel_rfl) (by as_aux_lemma => kernel_rfl) (by as_aux_lemma => kernel_rfl) (fun _ _ _ h => h) (by as_aux_lemma => kernel_rfl) (by assumption) ?_
              go_frame
              refine skip_at (i := 15) rfl (by as_aux_lemma => kernel_rfl) (by as_aux_lemma => kernel_rfl) (by as_aux_lemma => kernel_rfl) (fun _ _ _ h => h) (by as_aux_lemma => kernel_rfl) (by assumption) ?_
              go_frame
              refine skip_at (i := 16) rfl (by as_aux_lemma => kernel_rfl) (by as_aux_lemma => kernel_rfl) (by as_aux_lemma => kernel_rfl) (fun _ _ _ h => h) (by as_aux_lemma => kernel_rfl) (by assumption) ?_
              go_frame
              refine skip_at (i := 17) rfl (by as_aux_lemma => kernel_rfl) (by as_aux_lemma => kernel_rfl) (by as_aux_lemma => kernel_rfl) (fun _ _ _ h => h) (by as_aux_lemma => kernel_rfl) (by assumption) ?_
              go_frame
              refine skip_at (i := 18) rfl (by as_aux_lemma => kernel_rfl) (by as_aux_lemma => kernel_rfl) (by as_aux_lemma => kernel_rfl) (fun _ _ _ h => h) (by as_aux_lemma => kernel_rfl) (by assumption) ?_
              go_frame
              refine skip_at (i := 19) rfl (by as_aux_lemma => kernel_rfl) (by as_aux_lemma => kernel_rfl) (by as_aux_lemma => kernel_rfl) (fun _ _ _ h => h) (by as_aux_lemma => kernel_rfl) (by assumption) ?_
              go_frame
              refine skip_at (i := 20) rfl (by as_aux_lemma => kernel_rfl) (by as_aux_lemma => kernel_rfl) (by as_aux_lemma => kernel_rfl) (fun _ _ _ h => h) (by as_aux_lemma => kernel_rfl) (by assumption) ?_
              go_frame
              refine skip_at (i := 21) rfl (by as_aux_lemma => kernel_rfl) (by as_aux_lemma => kernel_rfl) (by as_aux_lemma => kernel_rfl) (fun _ _ _ h => h) (by as_aux_lemma => kernel_rfl) (by assumption) ?_
              go_frame
              refine skip_at (i := 22) rfl (by as_aux_lemma => kernel_rfl) (by as_aux_lemma => kernel_rfl) (by as_aux_lemma => kernel_rfl) (fun _ _ _ h => h) (by as_aux_lemma => kernel_rfl) (by assumption) ?_
              go_frame
              refine take_at (i := 23) (v := ?_) rfl (by as_aux_lemma => kernel_rfl) (by as_aux_lemma => kernel_rfl) (by as_aux_lemma => kernel_rfl) (fun _ _ _ h => h) (by as_aux_lemma => kernel_rfl) (by assumption) ?_ ?_
              rotate_left
              · (intro w hSw; (try dsimp only at hSw); go_simp; try with_reducible rfl)
              go_frame
              refine do_at (i := 24) rfl (by as_aux_lemma => kernel_rfl) (by as_aux_lemma => kernel_rfl) (fun K hK => ?_)
              go_simp
              refine (CP.out _ HX.out).mono ?_
              rintro e w9 ⟨r9, rfl, R9, _, bb⟩
              have HX2 := Lib.hid (HX.out.trans (bb.mono HX.out.size))
              have HRN := Lib.hid (R9.lower (Nat.le_trans HB8.out.size HX.out.size))
              clear bb R9 HX
              go_wp2_with fail
              refine hK.out _ _ ?_ (fun hHeld => ?_)
              · exact HKEEP.out _ HX2.out
              clear hK K
              try go_frame
              refine take_at (i := 25) (v := ?_) rfl (by as_aux_lemma => kernel_rfl) (by as_aux_lemma => kernel_rfl) (by as_aux_lemma => kernel_rfl) (fun _ _ _ h => h) (by as_aux_lemma => kernel_rfl) (by assumption) ?_ ?_
              rotate_left
              · (intro w hSw; (try dsimp only at hSw); go_simp; try with_reducible rfl)
              go_frame
              refine wpAnyH_done (by as_aux_lemma => kernel_rfl) ?_ _
              have HBN := Lib.hid (HB8.out.trans (HX2.out.mono HB8.out.size))
              clear HX2 hHeld HKEEP CP HR8 HB8 HD8 HY8
              go_wp2
              go_roundg (k - j1)
              case rel => exact ⟨j1, rfl, by have := HJ1.out; omega, Nat.le_refl _, .inr hmp, by rw [HJ1.out, HE.out]; exact HRN, HBN⟩
              case measure => have := HJ1.out; omega
            obtain ⟨l1, hl1e⟩ : ∃ l, l = labs.getD j1 0 := ⟨_, rfl⟩
            have HL1 := Lib.hid hl1e
            clear hl1e
            by_cases hq1 : l1 = lj
            · have p1 : (l1 == lj) = true := by simp [hq1]
              have HQ1 := Lib.hid p1
              clear hq1
              have HKEEP := Lib.hid (show ∀ W, Below w8.heap.size w8 W → (fun w' => w'.cell? ⟨y, 0, none⟩ = some (.int .i32 cx.ru) ∧ w'.cell? ⟨y, 1, none⟩ = some (.int .i32 cx.m0) ∧ w'.cell? ⟨y, 2, none⟩ = some (.int .i32 cx.m1) ∧ w'.cell? ⟨y, 3, none⟩ = some (.int .u8 cx.k) ∧ w'.cell? ⟨y, 4, none⟩ = some (.int .u8 cx.a.fg.k) ∧ w'.cell? ⟨y, 5, none⟩ = some (.int .u8 cx.a.fg.r) ∧ w'.cell? ⟨y, 6, none⟩ = some (.int .u8 cx.a.fg.g) ∧ w'.cell? ⟨y, 7, none⟩ = some (.int .u8 cx.a.fg.b) ∧ w'.cell? ⟨y, 8, none⟩ = some (.int .u8 cx.a.bg.k) ∧ w'.cell? ⟨y, 9, none⟩ = some (.int .u8 cx.a.bg.r) ∧ w'.cell? ⟨y, 10, none⟩ = some (.int .u8 cx.a.bg.g) ∧ w'.cell? ⟨y, 11, none⟩ = some (.int .u8 cx.a.bg.b) ∧ w'.cell? ⟨y, 12, none⟩ = some (.int .u16 (cx.a.fl : Nat)) ∧ w'.cell? ⟨y, 13, none⟩ = some (.int .u8 cx.l) ∧ w'.cell? ⟨z, 3, none⟩ = some (.bool true) ∧ w'.cell? ⟨gl, j, none⟩ = some (.int .u8 lj) ∧ w'.cell? ⟨gl, j1, none⟩ = some (.int .u8 l1)) W from fun W hb => by
                obtain ⟨k0, k1, k2, k3, k4, k5, k6, k7, k8, k9, k10, k11, k12, k13⟩ := (HY8.out.below hb).2.1
                exact ⟨k0, k1, k2, k3, k4, k5, k6, k7, k8, k9, k10, k11, k12, k13, by have := (HD8.out.below hb).1.2.2.2.2.1; rw [← HWD.out] at this; exact this, by rw [HLJ.out]; exact HLC.out j hlt W (HB8.out.trans (hb.mono HB8.out.size)), by rw [HL1.out]; exact HLC.out j1 hmo W (HB8.out.trans (hb.mono HB8.out.size))⟩)
              dsimp only at HKEEP
              have HE := Lib.hid (show fillK labs L O (j + 1) = putM R0 (j : Int) cx true by
                have hw : wideAt labs d j = true := by simp only [wideAt, ← HWD.out, ← HN.out, ← HJ1.out, ← HLJ.out, ← HL1.out]; rw [decide_eq_true hmo, HQ1.out]; rfl
                rw [HGO.out, hw, HCX.out, HLJ.out])
              have hfit : j + (if true = true then 2 else 1) ≤ R0.length := by rw [HI.out.1, ← HN.out]; have := HJ1.out; simp; omega
              have CP := Lib.hid (show ∀ W, Below w8.heap.size w8 W → Calls Try.prog 56 #[.slice (some ⟨g, 0, none⟩) k xc, .int .i64 (j : Nat), celV cx, .bool true] W (OwnOut W (putM R0 (j : Int) cx true)) from fun W hb => rput_in W _ R0 j cx true (HR8.out.below hb).row HI.out.2.1 hfit (by rw [HI.out.1, ← HN.out]; omega))
              clear hfit HGO
              refine wp_region_held_drew (S := fun w' => w'.cell? ⟨y, 0, none⟩ = some (.int .i32 cx.ru) ∧ w'.cell? ⟨y, 1, none⟩ = some (.int .i32 cx.m0) ∧ w'.cell? ⟨y, 2, none⟩ = some (.int .i32 cx.m1) ∧ w'.cell? ⟨y, 3, none⟩ = some (.int .u8 cx.k) ∧ w'.cell? ⟨y, 4, none⟩ = some (.int .u8 cx.a.fg.k) ∧ w'.cell? ⟨y, 5, none⟩ = some (.int .u8 cx.a.fg.r) ∧ w'.cell? ⟨y, 6, none⟩ = some (.int .u8 cx.a.fg.g) ∧ w'.cell? ⟨y, 7, none⟩ = some (.int .u8 cx.a.fg.b) ∧ w'.cell? ⟨y, 8, none⟩ = some (.int .u8 cx.a.bg.k) ∧ w'.cell? ⟨y, 9, none⟩ = some (.int .u8 cx.a.bg.r) ∧ w'.cell? ⟨y, 10, none⟩ = some (.int .u8 cx.a.bg.g) ∧ w'.cell? ⟨y, 11, none⟩ = some (.int .u8 cx.a.bg.b) ∧ w'.cell? ⟨y, 12, none⟩ = some (.int .u16 (cx.a.fl : Nat)) ∧ w'.cell? ⟨y, 13, none⟩ = some (.int .u8 cx.l) ∧ w'.cell? ⟨z, 3, none⟩ = some (.bool true) ∧ w'.cell? ⟨gl, j, none⟩ = some (.int .u8 lj) ∧ w'.cell? ⟨gl, j1, none⟩ = some (.int .u8 l1)) (by as_aux_lemma => kernel_rfl) ?_ (fun hHeld => ?_)
              · exact HKEEP.out _ (⟨rfl, rfl, rfl, Nat.le_refl _, fun _ _ => rfl⟩)
              obtain ⟨u0, hu0⟩ : ∃ u0, u0 = w8.drew := ⟨_, rfl⟩
              have HX := Lib.hid (show Below w8.heap.size w8 u0 by rw [hu0]; exact ⟨rfl, rfl, rfl, Nat.le_refl _, fun _ _ => rfl⟩)
              replace hHeld := HKEEP.out _ HX.out
              rw [← hu0]
              clear hu0
              refine take_at (i := 0) (v := ?_) rfl (by as_aux_lemma => kernel_rfl) (by as_aux_lemma => kernel_rfl) (by as_aux_lemma => kernel_rfl) (fun _ _ _ h => h) (by as_aux_lemma => kernel_rfl) (by assumption) ?_ ?_
              rotate_left
              · (intro w hSw; (try dsimp only at hSw); go_simp; try with_reducible rfl)
              go_frame
              refine take_at (i := 1) (v := ?_) rfl (by as_aux_lemma => kernel_rfl) (by as_aux_lemma => kernel_rfl) (by as_aux_lemma => kernel_rfl) (fun _ _ _ h => h) (by as_aux_lemma => kernel_rfl) (by assumption) ?_ ?_
              rotate_left
              · (intro w hSw; (try dsimp only at hSw); go_simp; try with_reducible rfl)
              go_frame
              refine take_at (i := 2) (v := ?_) rfl (by as_aux_lemma => kernel_rfl) (by as_aux_lemma => kernel_rfl) (by as_aux_lemma => kernel_rfl) (fun _ _ _ h => h) (by as_aux_lemma => kernel_rfl) (by assumption) ?_ ?_
              rotate_left
              · (intro w hSw; (try dsimp only at hSw); go_simp; try with_reducible rfl)
              go_frame
              refine take_at (i := 3) (v := ?_) rfl (by as_aux_lemma => kernel_rfl) (by as_aux_lemma => kernel_rfl) (by as_aux_lemma => kernel_rfl) (fun _ _ _ h => h) (by as_aux_lemma => kernel_rfl) (by assumption) ?_ ?_
              rotate_left
              · (intro w hSw; (try dsimp only at hSw); go_simp; try with_reducible rfl)
              go_frame
              refine take_at (i := 4) (v := ?_) rfl (by as_aux_lemma => kernel_rfl) (by as_aux_lemma => kernel_rfl) (by as_aux_lemma => kernel_rfl) (fun _ _ _ h => h) (by as_aux_lemma => kernel_rfl) (by assumption) ?_ ?_
              rotate_left
              · (intro w hSw; (try dsimp only at hSw); go_simp; try with_reducible rfl)
              go_frame
              refine take_at (i := 5) (v := ?_) rfl (by as_aux_lemma => kernel_rfl) (by as_aux_lemma => kernel_rfl) (by as_aux_lemma => kernel_rfl) (fun _ _ _ h => h) (by as_aux_lemma => kernel_rfl) (by assumption) ?_ ?_
              rotate_left
              · (intro w hSw; (try dsimp only at hSw); go_simp; try with_reducible rfl)
              go_frame
              refine take_at (i := 6) (v := ?_) rfl (by as_aux_lemma => kernel_rfl) (by as_aux_lemma => kernel_rfl) (by as_aux_lemma => kernel_rfl) (fun _ _ _ h => h) (by as_aux_lemma => kernel_rfl) (by assumption) ?_ ?_
              rotate_left
              · (intro w hSw; (try dsimp only at hSw); go_simp; try with_reducible rfl)
              go_frame
              refine take_at (i := 7) (v := ?_) rfl (by as_aux_lemma => kernel_rfl) (by as_aux_lemma => kernel_rfl) (by as_aux_lemma => kernel_rfl) (fun _ _ _ h => h) (by as_aux_lemma => kernel_rfl) (by assumption) ?_ ?_
              rotate_left
              · (intro w hSw; (try dsimp only at hSw); go_simp; try with_reducible rfl)
              go_frame
              refine take_at (i := 8) (v := ?_) rfl (by as_aux_lemma => kernel_rfl) (by as_aux_lemma => kernel_rfl) (by as_aux_lemma => kernel_rfl) (fun _ _ _ h => h) (by as_aux_lemma => kernel_rfl) (by assumption) ?_ ?_
              rotate_left
              · (intro w hSw; (try dsimp only at hSw); go_simp; try with_reducible rfl)
              go_frame
              refine take_at (i := 9) (v := ?_) rfl (by as_aux_lemma => kernel_rfl) (by as_aux_lemma => kernel_rfl) (by as_aux_lemma => kernel_rfl) (fun _ _ _ h => h) (by as_aux_lemma => kernel_rfl) (by assumption) ?_ ?_
              rotate_left
              · (intro w hSw; (try dsimp only at hSw); go_simp; try with_reducible rfl)
              go_frame
              refine take_at (i := 10) (v := ?_) rfl (by as_aux_lemma => kernel_rfl) (by as_aux_lemma => kernel_rfl) (by as_aux_lemma => kernel_rfl) (fun _ _ _ h => h) (by as_aux_lemma => kernel_rfl) (by assumption) ?_ ?_
              rotate_left
              · (intro w hSw; (try dsimp only at hSw); go_simp; try with_reducible rfl)
              go_frame
              refine take_at (i := 11) (v := ?_) rfl (by as_aux_lemma => kernel_rfl) (by as_aux_lemma => kernel_rfl) (by as_aux_lemma => kernel_rfl) (fun _ _ _ h => h) (by as_aux_lemma => kernel_rfl) (by assumption) ?_ ?_
              rotate_left
              · (intro w hSw; (try dsimp only at hSw); go_simp; try with_reducible rfl)
              go_frame
              refine take_at (i := 12) (v := ?_) rfl (by as_aux_lemma => kernel_rfl) (by as_aux_lemma => kernel_rfl) (by as_aux_lemma => kernel_rfl) (fun _ _ _ h => h) (by as_aux_lemma => kernel_rfl) (by assumption) ?_ ?_
              rotate_left
              · (intro w hSw; (try dsimp only at hSw); go_simp; try with_reducible rfl)
              go_frame
              refine take_at (i := 13) (v := ?_) rfl (by as_aux_lemma => kernel_rfl) (by as_aux_lemma => kernel_rfl) (by as_aux_lemma => kernel_rfl) (fun _ _ _ h => h) (by as_aux_lemma => kernel_rfl) (by assumption) ?_ ?_
              rotate_left
              · (intro w hSw; (try dsimp only at hSw); go_simp; try with_reducible rfl)
              go_frame
              refine take_at (i := 14) (v := ?_) rfl (by as_aux_lemma => kernel_rfl) (by as_aux_lemma => kernel_rfl) (by as_aux_lemma => kernel_rfl) (fun _ _ _ h => h) (by as_aux_lemma => kernel_rfl) (by assumption) ?_ ?_
              rotate_left
              · (intro w hSw; (try dsimp only at hSw); go_simp; try with_reducible rfl)
              go_frame
              refine take_at (i := 15) (v := ?_) rfl (by as_aux_lemma => kernel_rfl) (by as_aux_lemma => kernel_rfl) (by as_aux_lemma => kernel_rfl) (fun _ _ _ h => h) (by as_aux_lemma => kernel_rfl) (by assumption) ?_ ?_
              rotate_left
              · (intro w hSw; (try dsimp only at hSw); go_simp; try with_reducible rfl)
              go_frame
              refine take_at (i := 16) (v := ?_) rfl (by as_aux_lemma => kernel_rfl) (by as_aux_lemma => kernel_rfl) (by as_aux_lemma => kernel_rfl) (fun _ _ _ h => h) (by as_aux_lemma => kernel_rfl) (by assumption) ?_ ?_
              rotate_left
              · (intro w hSw; (try dsimp only at hSw); go_simp; try with_reducible rfl)
              go_frame
              refine take_at (i := 17) (v := ?_) rfl (by as_aux_lemma => kernel_rfl) (by as_aux_lemma => kernel_rfl) (by as_aux_lemma => kernel_rfl) (fun _ _ _ h => h) (by as_aux_lemma => kernel_rfl) (by assumption) ?_ ?_
              rotate_left
              · (intro w hSw; (try dsimp only at hSw); go_simp; try with_reducible rfl)
              go_frame
              refine take_at (i := 18) (v := ?_) rfl (by as_aux_lemma => kernel_rfl) (by as_aux_lemma => kernel_rfl) (by as_aux_lemma => kernel_rfl) (fun _ _ _ h => h) (by as_aux_lemma => kernel_rfl) (by assumption) ?_ ?_
              rotate_left
              · (intro w hSw; (try dsimp only at hSw); go_simp; try with_reducible rfl)
              go_frame
              refine take_at (i := 19) (v := ?_) rfl (by as_aux_lemma => kernel_rfl) (by as_aux_lemma => kernel_rfl) (by as_aux_lemma => kernel_rfl) (fun _ _ _ h => h) (by as_aux_lemma => kernel_rfl) (by assumption) ?_ ?_
              rotate_left
              · (intro w hSw; (try dsimp only at hSw); go_simp; try with_reducible rfl)
              go_frame
              refine take_at (i := 20) (v := ?_) rfl (by as_aux_lemma => kernel_rfl) (by as_aux_lemma => kernel_rfl) (by as_aux_lemma => kernel_rfl) (fun _ _ _ h => h) (by as_aux_lemma => kernel_rfl) (by assumption) ?_ ?_
              rotate_left
              · (intro w hSw; (try dsimp only at hSw); go_simp; try with_reducible rfl)
              go_frame
              refine take_at (i := 21) (v := ?_) rfl (by as_aux_lemma => kernel_rfl) (by as_aux_lemma => kernel_rfl) (by as_aux_lemma => kernel_rfl) (fun _ _ _ h => h) (by as_aux_lemma => kernel_rfl) (by assumption) ?_ ?_
              rotate_left
              · (intro w hSw; (try dsimp only at hSw); go_simp; try with_reducible rfl)
              go_frame
              refine take_at (i := 22) (v := ?_) rfl (by as_aux_lemma => kernel_rfl) (by as_aux_lemma => kernel_rfl) (by as_aux_lemma => kernel_rfl) (fun _ _ _ h => h) (by as_aux_lemma => kernel_rfl) (by assumption) ?_ ?_
              rotate_left
              · (intro w hSw; (try dsimp only at hSw); go_simp; try with_reducible rfl)
              go_frame
              refine take_at (i := 23) (v := ?_) rfl (by as_aux_lemma => kernel_rfl) (by as_aux_lemma => kernel_rfl) (by as_aux_lemma => kernel_rfl) (fun _ _ _ h => h) (by as_aux_lemma => kernel_rfl) (by assumption) ?_ ?_
              rotate_left
              · (intro w hSw; (try dsimp only at hSw); go_simp; try with_reducible rfl)
              go_frame
              refine do_at (i := 24) rfl (by as_aux_lemma => kernel_rfl) (by as_aux_lemma => kernel_rfl) (fun K hK => ?_)
              go_simp
              refine (CP.out _ HX.out).mono ?_
              rintro e w9 ⟨r9, rfl, R9, _, bb⟩
              have HX2 := Lib.hid (HX.out.trans (bb.mono HX.out.size))
              have HRN := Lib.hid (R9.lower (Nat.le_trans HB8.out.size HX.out.size))
              clear bb R9 HX
              go_wp2_with fail
              refine hK.out _ _ ?_ (fun hHeld => ?_)
              · exact HKEEP.out _ HX2.out
              clear hK K
              try go_frame
              refine take_at (i := 25) (v := ?_) rfl (by as_aux_lemma => kernel_rfl) (by as_aux_lemma => kernel_rfl) (by as_aux_lemma => kernel_rfl) (fun _ _ _ h => h) (by as_aux_lemma => kernel_rfl) (by assumption) ?_ ?_
              rotate_left
              · (intro w hSw; (try dsimp only at hSw); go_simp; try with_reducible rfl)
              go_frame
              refine wpAnyH_done (by as_aux_lemma => kernel_rfl) ?_ _
              have HBN := Lib.hid (HB8.out.trans (HX2.out.mono HB8.out.size))
              clear HX2 hHeld HKEEP CP HR8 HB8 HD8 HY8
              go_wp2
              go_roundg (k - j1)
              case rel => exact ⟨j1, rfl, by have := HJ1.out; omega, Nat.le_refl _, .inr hmp, by rw [HJ1.out, HE.out]; exact HRN, HBN⟩
              case measure => have := HJ1.out; omega
            · have p1 : (l1 == lj) = false := by simp [hq1]
              have HQ1 := Lib.hid p1
              clear hq1
              have HKEEP := Lib.hid (show ∀ W, Below w8.heap.size w8 W → (fun w' => w'.cell? ⟨y, 0, none⟩ = some (.int .i32 cx.ru) ∧ w'.cell? ⟨y, 1, none⟩ = some (.int .i32 cx.m0) ∧ w'.cell? ⟨y, 2, none⟩ = some (.int .i32 cx.m1) ∧ w'.cell? ⟨y, 3, none⟩ = some (.int .u8 cx.k) ∧ w'.cell? ⟨y, 4, none⟩ = some (.int .u8 cx.a.fg.k) ∧ w'.cell? ⟨y, 5, none⟩ = some (.int .u8 cx.a.fg.r) ∧ w'.cell? ⟨y, 6, none⟩ = some (.int .u8 cx.a.fg.g) ∧ w'.cell? ⟨y, 7, none⟩ = some (.int .u8 cx.a.fg.b) ∧ w'.cell? ⟨y, 8, none⟩ = some (.int .u8 cx.a.bg.k) ∧ w'.cell? ⟨y, 9, none⟩ = some (.int .u8 cx.a.bg.r) ∧ w'.cell? ⟨y, 10, none⟩ = some (.int .u8 cx.a.bg.g) ∧ w'.cell? ⟨y, 11, none⟩ = some (.int .u8 cx.a.bg.b) ∧ w'.cell? ⟨y, 12, none⟩ = some (.int .u16 (cx.a.fl : Nat)) ∧ w'.cell? ⟨y, 13, none⟩ = some (.int .u8 cx.l) ∧ w'.cell? ⟨z, 3, none⟩ = some (.bool true) ∧ w'.cell? ⟨gl, j, none⟩ = some (.int .u8 lj) ∧ w'.cell? ⟨gl, j1, none⟩ = some (.int .u8 l1)) W from fun W hb => by
                obtain ⟨k0, k1, k2, k3, k4, k5, k6, k7, k8, k9, k10, k11, k12, k13⟩ := (HY8.out.below hb).2.1
                exact ⟨k0, k1, k2, k3, k4, k5, k6, k7, k8, k9, k10, k11, k12, k13, by have := (HD8.out.below hb).1.2.2.2.2.1; rw [← HWD.out] at this; exact this, by rw [HLJ.out]; exact HLC.out j hlt W (HB8.out.trans (hb.mono HB8.out.size)), by rw [HL1.out]; exact HLC.out j1 hmo W (HB8.out.trans (hb.mono HB8.out.size))⟩)
              dsimp only at HKEEP
              have HE := Lib.hid (show fillK labs L O (j + 1) = putM R0 (j : Int) cx false by
                have hw : wideAt labs d j = false := by simp only [wideAt, ← HWD.out, ← HN.out, ← HJ1.out, ← HLJ.out, ← HL1.out]; rw [decide_eq_true hmo, HQ1.out]; rfl
                rw [HGO.out, hw, HCX.out, HLJ.out])
              have hfit : j + (if false = true then 2 else 1) ≤ R0.length := by rw [HI.out.1, ← HN.out]; have := HJ1.out; simp; omega
              have CP := Lib.hid (show ∀ W, Below w8.heap.size w8 W → Calls Try.prog 56 #[.slice (some ⟨g, 0, none⟩) k xc, .int .i64 (j : Nat), celV cx, .bool false] W (OwnOut W (putM R0 (j : Int) cx false)) from fun W hb => rput_in W _ R0 j cx false (HR8.out.below hb).row HI.out.2.1 hfit (by rw [HI.out.1, ← HN.out]; omega))
              clear hfit HGO
              refine wp_region_held_drew (S := fun w' => w'.cell? ⟨y, 0, none⟩ = some (.int .i32 cx.ru) ∧ w'.cell? ⟨y, 1, none⟩ = some (.int .i32 cx.m0) ∧ w'.cell? ⟨y, 2, none⟩ = some (.int .i32 cx.m1) ∧ w'.cell? ⟨y, 3, none⟩ = some (.int .u8 cx.k) ∧ w'.cell? ⟨y, 4, none⟩ = some (.int .u8 cx.a.fg.k) ∧ w'.cell? ⟨y, 5, none⟩ = some (.int .u8 cx.a.fg.r) ∧ w'.cell? ⟨y, 6, none⟩ = some (.int .u8 cx.a.fg.g) ∧ w'.cell? ⟨y, 7, none⟩ = some (.int .u8 cx.a.fg.b) ∧ w'.cell? ⟨y, 8, none⟩ = some (.int .u8 cx.a.bg.k) ∧ w'.cell? ⟨y, 9, none⟩ = some (.int .u8 cx.a.bg.r) ∧ w'.cell? ⟨y, 10, none⟩ = some (.int .u8 cx.a.bg.g) ∧ w'.cell? ⟨y, 11, none⟩ = some (.int .u8 cx.a.bg.b) ∧ w'.cell? ⟨y, 12, none⟩ = some (.int .u16 (cx.a.fl : Nat)) ∧ w'.cell? ⟨y, 13, none⟩ = some (.int .u8 cx.l) ∧ w'.cell? ⟨z, 3, none⟩ = some (.bool true) ∧ w'.cell? ⟨gl, j, none⟩ = some (.int .u8 lj) ∧ w'.cell? ⟨gl, j1, none⟩ = some (.int .u8 l1)) (by as_aux_lemma => kernel_rfl) ?_ (fun hHeld => ?_)
              · exact HKEEP.out _ (⟨rfl, rfl, rfl, Nat.le_refl _, fun _ _ => rfl⟩)
              obtain ⟨u0, hu0⟩ : ∃ u0, u0 = w8.drew := ⟨_, rfl⟩
              have HX := Lib.hid (show Below w8.heap.size w8 u0 by rw [hu0]; exact ⟨rfl, rfl, rfl, Nat.le_refl _, fun _ _ => rfl⟩)
              replace hHeld := HKEEP.out _ HX.out
              rw [← hu0]
              clear hu0
              refine take_at (i := 0) (v := ?_) rfl (by as_aux_lemma => kernel_rfl) (by as_aux_lemma => kernel_rfl) (by as_aux_lemma => kernel_rfl) (fun _ _ _ h => h) (by as_aux_lemma => kernel_rfl) (by assumption) ?_ ?_
              rotate_left
              · (intro w hSw; (try dsimp only at hSw); go_simp; try with_reducible rfl)
              go_frame
              refine take_at (i := 1) (v := ?_) rfl (by as_aux_lemma => kernel_rfl) (by as_aux_lemma => kernel_rfl) (by as_aux_lemma => kernel_rfl) (fun _ _ _ h => h) (by as_aux_lemma => kernel_rfl) (by assumption) ?_ ?_
              rotate_left
              · (intro w hSw; (try dsimp only at hSw); go_simp; try with_reducible rfl)
              go_frame
              refine take_at (i := 2) (v := ?_) rfl (by as_aux_lemma => kernel_rfl) (by as_aux_lemma => kernel_rfl) (by as_aux_lemma => kernel_rfl) (fun _ _ _ h => h) (by as_aux_lemma => kernel_rfl) (by assumption) ?_ ?_
              rotate_left
              · (intro w hSw; (try dsimp only at hSw); go_simp; try with_reducible rfl)
              go_frame
              refine take_at (i := 3) (v := ?_) rfl (by as_aux_lemma => kernel_rfl) (by as_aux_lemma => kernel_rfl) (by as_aux_lemma => kernel_rfl) (fun _ _ _ h => h) (by as_aux_lemma => kernel_rfl) (by assumption) ?_ ?_
              rotate_left
              · (intro w hSw; (try dsimp only at hSw); go_simp; try with_reducible rfl)
              go_frame
              refine take_at (i := 4) (v := ?_) rfl (by as_aux_lemma => kernel_rfl) (by as_aux_lemma => kernel_rfl) (by as_aux_lemma => kernel_rfl) (fun _ _ _ h => h) (by as_aux_lemma => kernel_rfl) (by assumption) ?_ ?_
              rotate_left
              · (intro w hSw; (try dsimp only at hSw); go_simp; try with_reducible rfl)
              go_frame
              refine take_at (i := 5) (v := ?_) rfl (by as_aux_lemma => kernel_rfl) (by as_aux_lemma => kernel_rfl) (by as_aux_lemma => kernel_rfl) (fun _ _ _ h => h) (by as_aux_lemma => kernel_rfl) (by assumption) ?_ ?_
              rotate_left
              · (intro w hSw; (try dsimp only at hSw); go_simp; try with_reducible rfl)
              go_frame
              refine take_at (i := 6) (v := ?_) rfl (by as_aux_lemma => kernel_rfl) (by as_aux_lemma => kernel_rfl) (by as_aux_lemma => kernel_rfl) (fun _ _ _ h => h) (by as_aux_lemma => kernel_rfl) (by assumption) ?_ ?_
              rotate_left
              · (intro w hSw; (try dsimp only at hSw); go_simp; try with_reducible rfl)
              go_frame
              refine take_at (i := 7) (v := ?_) rfl (by as_aux_lemma => kernel_rfl) (by as_aux_lemma => kernel_rfl) (by as_aux_lemma => kernel_rfl) (fun _ _ _ h => h) (by as_aux_lemma => kernel_rfl) (by assumption) ?_ ?_
              rotate_left
              · (intro w hSw; (try dsimp only at hSw); go_simp; try with_reducible rfl)
              go_frame
              refine take_at (i := 8) (v := ?_) rfl (by as_aux_lemma => kernel_rfl) (by as_aux_lemma => kernel_rfl) (by as_aux_lemma => kernel_rfl) (fun _ _ _ h => h) (by as_aux_lemma => kernel_rfl) (by assumption) ?_ ?_
              rotate_left
              · (intro w hSw; (try dsimp only at hSw); go_simp; try with_reducible rfl)
              go_frame
              refine take_at (i := 9) (v := ?_) rfl (by as_aux_lemma => kernel_rfl) (by as_aux_lemma => kernel_rfl) (by as_aux_lemma => kernel_rfl) (fun _ _ _ h => h) (by as_aux_lemma => kernel_rfl) (by assumption) ?_ ?_
              rotate_left
              · (intro w hSw; (try dsimp only at hSw); go_simp; try with_reducible rfl)
              go_frame
              refine take_at (i := 10) (v := ?_) rfl (by as_aux_lemma => kernel_rfl) (by as_aux_lemma => kernel_rfl) (by as_aux_lemma => kernel_rfl) (fun _ _ _ h => h) (by as_aux_lemma => kernel_rfl) (by assumption) ?_ ?_
              rotate_left
              · (intro w hSw; (try dsimp only at hSw); go_simp; try with_reducible rfl)
              go_frame
              refine take_at (i := 11) (v := ?_) rfl (by as_aux_lemma => kernel_rfl) (by as_aux_lemma => kernel_rfl) (by as_aux_lemma => kernel_rfl) (fun _ _ _ h => h) (by as_aux_lemma => kernel_rfl) (by assumption) ?_ ?_
              rotate_left
              · (intro w hSw; (try dsimp only at hSw); go_simp; try with_reducible rfl)
              go_frame
              refine take_at (i := 12) (v := ?_) rfl (by as_aux_lemma => kernel_rfl) (by as_aux_lemma => kernel_rfl) (by as_aux_lemma => kernel_rfl) (fun _ _ _ h => h) (by as_aux_lemma => kernel_rfl) (by assumption) ?_ ?_
              rotate_left
              · (intro w hSw; (try dsimp only at hSw); go_simp; try with_reducible rfl)
              go_frame
              refine take_at (i := 13) (v := ?_) rfl (by as_aux_lemma => kernel_rfl) (by as_aux_lemma => kernel_rfl) (by as_aux_lemma => kernel_rfl) (fun _ _ _ h => h) (by as_aux_lemma => kernel_rfl) (by assumption) ?_ ?_
              rotate_left
              · (intro w hSw; (try dsimp only at hSw); go_simp; try with_reducible rfl)
              go_frame
              refine take_at (i := 14) (v := ?_) rfl (by as_aux_lemma => kernel_rfl) (by as_aux_lemma => kernel_rfl) (by as_aux_lemma => kernel_rfl) (fun _ _ _ h => h) (by as_aux_lemma => kernel_rfl) (by assumption) ?_ ?_
              rotate_left
              · (intro w hSw; (try dsimp only at hSw); go_simp; try with_reducible rfl)
              go_frame
              refine take_at (i := 15) (v := ?_) rfl (by as_aux_lemma => kernel_rfl) (by as_aux_lemma => kernel_rfl) (by as_aux_lemma => kernel_rfl) (fun _ _ _ h => h) (by as_aux_lemma => kernel_rfl) (by assumption) ?_ ?_
              rotate_left
              · (intro w hSw; (try dsimp only at hSw); go_simp; try with_reducible rfl)
              go_frame
              refine take_at (i := 16) (v := ?_) rfl (by as_aux_lemma => kernel_rfl) (by as_aux_lemma => kernel_rfl) (by as_aux_lemma => kernel_rfl) (fun _ _ _ h => h) (by as_aux_lemma => kernel_rfl) (by assumption) ?_ ?_
              rotate_left
              · (intro w hSw; (try dsimp only at hSw); go_simp; try with_reducible rfl)
              go_frame
              refine take_at (i := 17) (v := ?_) rfl (by as_aux_lemma => kernel_rfl) (by as_aux_lemma => kernel_rfl) (by as_aux_lemma => kernel_rfl) (fun _ _ _ h => h) (by as_aux_lemma => kernel_rfl) (by assumption) ?_ ?_
              rotate_left
              · (intro w hSw; (try dsimp only at hSw); go_simp; try with_reducible rfl)
              go_frame
              refine take_at (i := 18) (v := ?_) rfl (by as_aux_lemma => kernel_rfl) (by as_aux_lemma => kernel_rfl) (by as_aux_lemma => kernel_rfl) (fun _ _ _ h => h) (by as_aux_lemma => kernel_rfl) (by assumption) ?_ ?_
              rotate_left
              · (intro w hSw; (try dsimp only at hSw); go_simp; try with_reducible rfl)
              go_frame
              refine take_at (i := 19) (v := ?_) rfl (by as_aux_lemma => kernel_rfl) (by as_aux_lemma => kernel_rfl) (by as_aux_lemma => kernel_rfl) (fun _ _ _ h => h) (by as_aux_lemma => kernel_rfl) (by assumption) ?_ ?_
              rotate_left
              · (intro w hSw; (try dsimp only at hSw); go_simp; try with_reducible rfl)
              go_frame
              refine take_at (i := 20) (v := ?_) rfl (by as_aux_lemma => kernel_rfl) (by as_aux_lemma => kernel_rfl) (by as_aux_lemma => kernel_rfl) (fun _ _ _ h => h) (by as_aux_lemma => kernel_rfl) (by assumption) ?_ ?_
              rotate_left
              · (intro w hSw; (try dsimp only at hSw); go_simp; try with_reducible rfl)
              go_frame
              refine take_at (i := 21) (v := ?_) rfl (by as_aux_lemma => kernel_rfl) (by as_aux_lemma => kernel_rfl) (by as_aux_lemma => kernel_rfl) (fun _ _ _ h => h) (by as_aux_lemma => kernel_rfl) (by assumption) ?_ ?_
              rotate_left
              · (intro w hSw; (try dsimp only at hSw); go_simp; try with_reducible rfl)
              go_frame
              refine take_at (i := 22) (v := ?_) rfl (by as_aux_lemma => kernel_rfl) (by as_aux_lemma => kernel_rfl) (by as_aux_lemma => kernel_rfl) (fun _ _ _ h => h) (by as_aux_lemma => kernel_rfl) (by assumption) ?_ ?_
              rotate_left
              · (intro w hSw; (try dsimp only at hSw); go_simp; try with_reducible rfl)
              go_frame
              refine take_at (i := 23) (v := ?_) rfl (by as_aux_lemma => kernel_rfl) (by as_aux_lemma => kernel_rfl) (by as_aux_lemma => kernel_rfl) (fun _ _ _ h => h) (by as_aux_lemma => kernel_rfl) (by assumption) ?_ ?_
              rotate_left
              · (intro w hSw; (try dsimp only at hSw); go_simp; try with_reducible rfl)
              go_frame
              refine do_at (i := 24) rfl (by as_aux_lemma => kernel_rfl) (by as_aux_lemma => kernel_rfl) (fun K hK => ?_)
              go_simp
              refine (CP.out _ HX.out).mono ?_
              rintro e w9 ⟨r9, rfl, R9, _, bb⟩
              have HX2 := Lib.hid (HX.out.trans (bb.mono HX.out.size))
              have HRN := Lib.hid (R9.lower (Nat.le_trans HB8.out.size HX.out.size))
              clear bb R9 HX
              go_wp2_with fail
              refine hK.out _ _ ?_ (fun hHeld => ?_)
              · exact HKEEP.out _ HX2.out
              clear hK K
              try go_frame
              refine take_at (i := 25) (v := ?_) rfl (by as_aux_lemma => kernel_rfl) (by as_aux_lemma => kernel_rfl) (by as_aux_lemma => kernel_rfl) (fun _ _ _ h => h) (by as_aux_lemma => kernel_rfl) (by assumption) ?_ ?_
              rotate_left
              · (intro w hSw; (try dsimp only at hSw); go_simp; try with_reducible rfl)
              go_frame
              refine wpAnyH_done (by as_aux_lemma => kernel_rfl) ?_ _
              have HBN := Lib.hid (HB8.out.trans (HX2.out.mono HB8.out.size))
              clear HX2 hHeld HKEEP CP HR8 HB8 HD8 HY8
              go_wp2
              go_roundg (k - j1)
              case rel => exact ⟨j1, rfl, by have := HJ1.out; omega, Nat.le_refl _, .inr hmp, by rw [HJ1.out, HE.out]; exact HRN, HBN⟩
              case measure => have := HJ1.out; omega
end Go.Proofs.Ytnefamgjlhdffaa.Lab
