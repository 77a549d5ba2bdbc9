/- The reference's rows of parameters, as they are drawn. -/
import Derived.Test.YtlmhnebgkginkaaDoorAtRowD
import Derived.Deep.CutBlock
import Derived.Deep.DeepCutAuto
namespace Go.Proofs.YtlmhnebgkginkaaDoor.Lab
open Go Go.RowKit

def saidL : List Int := [0, 1, 2, 3, 4, 5, 7, 8, 9, 21, 22, 23, 24, 25, 27, 28, 29, 31, 38, 38, 38, 48, 48, 39, 49, 90, 97, 107, 2, 5, 5, -1]
theorem said_bd (k : Nat) (h : k < 32) : -1 ≤ saidL.getD k 0 ∧ saidL.getD k 0 ≤ 107 := by
  have key : ∀ k : Fin 32, -1 ≤ saidL.getD k.val 0 ∧ saidL.getD k.val 0 ≤ 107 := by decide
  exact key ⟨k, h⟩
theorem wrap_i16x (n : Int) : IntKind.i16.wrap n = (n + 32768) % 65536 - 32768 := by
  unfold IntKind.wrap
  simp [IntKind.bits, IntKind.signed]
  omega
theorem tmod_bd (x : Int) (m : Int) (hm : 0 < m) : -m < x.tmod m ∧ x.tmod m < m := by
  constructor
  · rcases Int.le_total 0 x with h | h
    · have := Int.tmod_nonneg m h
      omega
    · have := Int.tmod_lt_of_pos (-x) hm
      rw [Int.neg_tmod] at this
      omega
  · exact Int.tmod_lt_of_pos x hm
theorem tdiv8_bd (x : Int) (h0 : -32768 ≤ x) (h1 : x ≤ 32767) : -4096 ≤ x.tdiv 8 ∧ x.tdiv 8 ≤ 4096 := by
  have := Int.tmod_add_mul_tdiv x 8
  have := tmod_bd x 8 (by decide)
  omega
def RowOut (w : World) (e : Ending) (w' : World) : Prop := ∃ v R, e = .returned v ∧ RowsAt w' w.heap.size v R ∧ RowOk R ∧ Below w.heap.size w w'
set_option maxHeartbeats 2000000 in
set_option maxRecDepth 100000 in
theorem row_any (w : World) (v : Value) (l : List Int) (h : S16 w v l) : Calls Tryd.prog 11 #[v] w (RowOut w) := by
  obtain ⟨w0, hw0⟩ : ∃ w0, w0 = w.alloc (.cells (intsV saidL).toArray 3) := ⟨_, rfl⟩
  have b0 : Below w.heap.size w w0 := by rw [hw0]; exact (Below.refl _ _).alloc (Nat.le_refl _) _
  have hsz : w0.heap.size = w.heap.size + 1 := by rw [hw0]; simp
  have HT := Lib.hid (show ∀ k, k < 32 → w0.cell? ⟨w.heap.size, k, none⟩ = some (.int .i64 (saidL.getD k 0)) from fun k hk => by
    rw [hw0, World.cell?_alloc_at _ _ _ _ rfl, List.getElem?_toArray, List.getElem?_map, List.getElem?_eq_getElem (show k < saidL.length from hk), List.getD_eq_getElem?_getD, List.getElem?_eq_getElem (show k < saidL.length from hk)]
    rfl)
  have HS := Lib.hid (h.below b0)
  have HB := Lib.hid b0
  obtain ⟨ad, c, rfl⟩ : ∃ a c, v = .slice a l.length c := by
    obtain ⟨a, c, e, _⟩ := h
    exact ⟨a, c, e⟩
  have hmx : l.length ≤ maxLen := by
    obtain ⟨a, c, e, hm, _⟩ := h
    exact hm
  unfold maxLen at hmx
  obtain ⟨n, hn⟩ : ∃ n, n = l.length := ⟨_, rfl⟩
  have HN := Lib.hid hn
  rw [← hn] at HS hmx ⊢
  obtain ⟨ib, hi, hz0, hz1, hz2⟩ := info_parts infoInt
  obtain ⟨jb, ji, jz0, jz1, jz2⟩ := info_parts infoRow
  have HR0 := Lib.hid (RowsD.nil w0 (w.heap.size + 1))
  have HW0 := Lib.hid (show Below (w.heap.size + 1) w0 w0 from Below.refl _ _)
  have HSZ := Lib.hid (show w.heap.size + 1 ≤ w0.heap.size by omega)
  clear hn h b0
  go_enter Tryd.func11, Tryd.ntmps11
  go_upto_region 2 with (fail)
  have hw0' : w0 = w.alloc (.cells #[.int .i64 0, .int .i64 1, .int .i64 2, .int .i64 3, .int .i64 4, .int .i64 5, .int .i64 7, .int .i64 8, .int .i64 9, .int .i64 21, .int .i64 22, .int .i64 23, .int .i64 24, .int .i64 25, .int .i64 27, .int .i64 28, .int .i64 29, .int .i64 31, .int .i64 38, .int .i64 38, .int .i64 38, .int .i64 48, .int .i64 48, .int .i64 39, .int .i64 49, .int .i64 90, .int .i64 97, .int .i64 107, .int .i64 2, .int .i64 5, .int .i64 5, .int .i64 (-1)] 3) := hw0
  rw [← hw0']
  clear hw0 hw0'
  go_wp2
  obtain ⟨wq, rfl⟩ : ∃ wq : World, wq = w0 := ⟨_, rfl⟩
  go_loopg [4, 5] 41 (fun gq o i wr => ∃ (k : Nat) (R : Rws), gq + k = 41 ∧ k ≤ n ∧ k ≤ 40 ∧ i = .int .i64 k ∧ R.length ≤ k ∧ Hid (∀ r ∈ R, okI r) ∧ Hid (RowsD wr (w.heap.size + 1) o R) ∧ Hid (Below (w.heap.size + 1) wq wr) ∧ Hid (w.heap.size + 1 ≤ wr.heap.size))
  case atStart => exact ⟨0, [], rfl, Nat.zero_le _, by decide, rfl, Nat.le_refl _, Lib.hid (by simp), HR0, HW0, HSZ⟩
  case round =>
    obtain ⟨k, R, hgk, hkn, hk40, rfl, hRk, HOK, HR, HW, HZ⟩ := hrel
    clear HR0 HW0 HSZ
    obtain ⟨wo, rfl⟩ : ∃ wo : World, wo = wr := ⟨_, rfl⟩
    obtain ⟨oa, oc, rfl⟩ := HR.out.shape
    obtain ⟨rl, hrl⟩ : ∃ rl, rl = R.length := ⟨_, rfl⟩
    have HRL := Lib.hid hrl
    rw [← hrl] at HR hRk ⊢
    clear hrl
    by_cases hlt : k < n ∧ k < 40
    · obtain ⟨hl1, hl2⟩ := hlt
      have hl2i : (k : Int) < 40 := by omega
      have hl1i : (k : Int) < n := by omega
      obtain ⟨x, hx⟩ : ∃ x, x = l.getD k 0 := ⟨_, rfl⟩
      obtain ⟨_, _, e2, _, hxb, hcell⟩ := HS.out
      have hkl : k < l.length := by rw [← HN.out]; exact hl1
      obtain ⟨g, o, ea, hg, hc⟩ := hcell (by omega)
      injection e2 with e2 e3 e4
      subst e2 ea
      have hxb' := hxb x (by rw [hx]; exact getD_mem 0 hkl)
      have a1 : wo.cell? ⟨g, o + k, none⟩ = some (.int .i16 x) := by
        rw [hx]
        refine (HW.out.cell (p := ⟨g, o + k, none⟩) ?_).trans (hc k hkl)
        show g < w.heap.size + 1
        omega
      obtain ⟨x0, x1⟩ := hxb'
      have ex : IntKind.i64.wrap x = x := by rw [IntKind.wrap_i64]; omega
      obtain ⟨q, hq⟩ : ∃ q, x.tdiv 8 = q := ⟨_, rfl⟩
      have hqb := tdiv8_bd x x0 x1
      rw [hq] at hqb
      have eq1 : IntKind.i64.wrap q = q := by rw [IntKind.wrap_i64]; omega
      obtain ⟨r, hr⟩ : ∃ r, x.tmod 8 = r := ⟨_, rfl⟩
      have hrb := tmod_bd x 8 (by decide)
      rw [hr] at hrb
      have er1 : IntKind.i16.wrap r = r := by rw [wrap_i16x]; omega
      obtain ⟨q0, q1⟩ := hqb
      clear e3 e4 hcell hc hxb hx
      go_upto_if 30 with (fail)
      go_cut [6] (fun v wc => ∃ m : Int, v = .int .i64 m ∧ (-5000 ≤ m ∧ m ≤ 5000) ∧ Hid (wc = wo))
      case first =>
        by_cases h5 : r < 5
        · have d5 : decide (r < 5) = true := by simp; omega
          obtain ⟨k1, hk1⟩ : ∃ k1, q.tmod 32 = k1 := ⟨_, rfl⟩
          have hk1b := tmod_bd q 32 (by decide)
          rw [hk1] at hk1b
          obtain ⟨k2, hk2⟩ : ∃ k2 : Nat, (k1 + 32).tmod 32 = k2 := ⟨((k1 + 32).tmod 32).toNat, (Int.toNat_of_nonneg (Int.tmod_nonneg 32 (by omega))).symm⟩
          have hk2b : k2 < 32 := by
            have := tmod_bd (k1 + 32) 32 (by decide)
            omega
          have w1 : IntKind.i64.wrap k1 = k1 := by rw [IntKind.wrap_i64]; omega
          have w2 : IntKind.i64.wrap (k1 + 32) = k1 + 32 := by rw [IntKind.wrap_i64]; omega
          have w3 : IntKind.i64.wrap (k2 : Int) = k2 := by rw [IntKind.wrap_i64]; omega
          have hsb := said_bd k2 hk2b
          have c1 : wo.cell? ⟨w.heap.size, k2, none⟩ = some (.int .i64 (saidL.getD k2 0)) := (HW.out.cell (p := ⟨w.heap.size, k2, none⟩) (Nat.lt_succ_self _)).trans (HT.out k2 hk2b)
          obtain ⟨sv, hsv⟩ : ∃ sv, saidL.getD k2 0 = sv := ⟨_, rfl⟩
          rw [hsv] at c1 hsb
          have hk2i : (k2 : Int) < 32 := by omega
          have HBD := Lib.hid (show -5000 ≤ sv ∧ sv ≤ 5000 by omega)
          clear hsv hsb hk1b
          go_wp2
          go_meet
          case rel => exact ⟨sv, rfl, HBD.out, Lib.hid rfl⟩
        · have d5 : decide (r < 5) = false := by simp; omega
          have HBD := Lib.hid (show -5000 ≤ q ∧ q ≤ 5000 by omega)
          have h5' : 5 ≤ r := by omega
          go_wp2
          go_meet
          case rel => exact ⟨q, rfl, HBD.out, Lib.hid rfl⟩
      case rest =>
        obtain ⟨m, rfl, hmb, HWC⟩ := hcut
        have hwc : wc = wo := HWC.out
        subst hwc
        clear HWC
        obtain ⟨m0, m1⟩ := hmb
        obtain ⟨n1, hn1⟩ : ∃ n1, min m 4000 = n1 := ⟨_, rfl⟩
        obtain ⟨n2, hn2⟩ : ∃ n2, max (-1) n1 = n2 := ⟨_, rfl⟩
        have hn2b : -1 ≤ n2 ∧ n2 ≤ 4000 := by omega
        by_cases h7 : r = 7
        · have d7 : (r == 7) = true := by simp; omega
          by_cases h0 : rl = 0
          · subst h0
            obtain ⟨us, hown, hus, hdis⟩ := HR.out
            rw [← HRL.out] at hown
            have HUS := Lib.hid hus
            have HDIS := Lib.hid hdis
            clear hus hdis
            obtain ⟨W1, hW1⟩ : ∃ W1, W1 = (wc.alloc (.cells #[.int .i64 n2] 3)).alloc (.cells #[.slice (some ⟨wc.heap.size, 0, none⟩) 1 1] 50) := ⟨_, rfl⟩
            have bW : Below wc.heap.size wc W1 := by rw [hW1]; exact ((Below.refl _ _).alloc (Nat.le_refl _) _).alloc (by simp) _
            have hownW : W1.ownsRow (w.heap.size + 1) 50 1 (.slice oa 0 oc) 0 us := own_below hown bW
            have hsW : wc.heap.size ≤ W1.heap.size := bW.size
            have hnew : IntsAt W1 (w.heap.size + 1) (.slice (some ⟨wc.heap.size, 0, none⟩) 1 1) [n2] := by
              rw [hW1]
              exact IntsAt.below (IntsAt.litA wc (w.heap.size + 1) 1 wc.heap.size [n2] rfl rfl HZ.out (by simp [maxLen])) ((Below.refl _ _).alloc (Nat.le_refl _) _)
            have hcW : ∀ j u, ([.slice (some ⟨wc.heap.size, 0, none⟩) 1 1] : List Value)[j]? = some u → W1.cell? ((⟨wc.heap.size + 1, 0, none⟩ : Addr).add j) = some u := by
              rw [hW1]
              exact new_cells _ [.slice (some ⟨wc.heap.size, 0, none⟩) 1 1] 50 _ (by simp)
            have HNEW := Lib.hid hnew
            have hz1 := HZ.out
            clear hnew hown HR
            go_wp2_with (at_builtin; rw [← hW1]; clear hW1; refine wpList_append_own _ rfl (.tmp 76) (.tmp 79) 27 rfl (w.heap.size + 1) 50 jb (.slice none 0 0) 1 24 Tryd.underlying27 ji jz0 jz1 jz2 rfl (by decide) (.slice oa 0 oc) 0 us rfl hownW ⟨wc.heap.size + 1, 0, none⟩ 1 1 [.slice (some ⟨wc.heap.size, 0, none⟩) 1 1] rfl rfl hcW ?c2 ?c3 ?c4 ?c5 ?_)
            case c2 => simp [Value.oneCell']
            case c3 => unfold maxLen; omega
            case c4 => omega
            case c5 => omega
            intro v' w7 own2 grow2 _
            have b7 : Below (w.heap.size + 1) wq w7 := (HW.out.trans (bW.mono hz1)).grown grow2 (by have := HW.out.size; omega) (fun j hj => (hownW.lt j hj).1)
            have HR2 := Lib.hid (show RowsD w7 (w.heap.size + 1) v' (R ++ [[n2]]) from
              RowsD.snoc (w := W1) (us := us) (v := .slice oa 0 oc) (u := .slice (some ⟨wc.heap.size, 0, none⟩) 1 1) (by rw [← HRL.out]; exact hownW) (fun i hi => (HUS.out i hi).below bW) HDIS.out HNEW.out
                (fun i hi e => by have := ((HUS.out i hi).1.lt _ (show _ = some wc.heap.size from e)).2; omega) (by rw [← HRL.out]; exact own2) grow2)
            have HW2 := Lib.hid b7
            have HZ2 := Lib.hid (Nat.le_trans hz1 (Nat.le_trans hsW grow2.size))
            have HOK2 := Lib.hid (show ∀ r ∈ R ++ [[n2]], okI r from fun r hr => by
              rcases List.mem_append.1 hr with hr | hr
              · exact HOK.out r hr
              · rw [List.mem_singleton.1 hr]
                refine ⟨by simp, by simp, fun x hx => ?_⟩
                rw [List.mem_singleton.1 hx]
                exact hn2b)
            have hlen2 : (R ++ [[n2]]).length ≤ k + 1 := by rw [List.length_append, List.length_singleton, ← HRL.out]; omega
            clear own2 grow2 b7 bW hownW hcW HNEW HUS HDIS hsW
            go_wp2
            go_roundg (gk - 1)
            case rel => exact ⟨k + 1, R ++ [[n2]], by omega, by omega, by omega, by go_num, hlen2, HOK2, HR2, HW2, HZ2⟩
            case measure => omega
          · have h0i : (0 : Int) < (rl : Int) := by omega
            have h0n : 0 < rl := by omega
            obtain ⟨D, qr, hD⟩ : ∃ D qr, R = D ++ [qr] := by
              rcases List.eq_nil_or_concat R with e | ⟨D, qr, e⟩
              · exact absurd (by rw [HRL.out, e]; rfl) h0
              · exact ⟨D, qr, by simpa using e⟩
            subst hD
            obtain ⟨dl, hdl⟩ : ∃ dl, dl = D.length := ⟨_, rfl⟩
            have HDL := Lib.hid hdl
            have hrd : rl = dl + 1 := by rw [HRL.out, hdl]; simp
            have w3 : IntKind.i64.wrap ((rl : Int) - 1) = (dl : Int) := by rw [IntKind.wrap_i64]; omega
            have hdr : (dl : Int) < rl := by omega
            have hdr' : dl < rl := by omega
            have HRD := Lib.hid hrd
            clear hrd
            obtain ⟨us, hown, hus, hdis⟩ := HR.out
            rw [← HRL.out] at hown
            obtain ⟨g2, rfl⟩ : ∃ g2, oa = some ⟨g2, 0, none⟩ := by
              rcases hown.2 with ⟨e, h⟩ | ⟨g', cap, cur, e, _⟩
              · exact absurd h h0
              · injection e with e1
                exact ⟨g', e1⟩
            have HUS := Lib.hid hus
            have HDIS := Lib.hid hdis
            have hiu := hus dl (by rw [List.length_append, ← hdl]; exact Nat.lt_succ_self _)
            have hgd : (D ++ [qr]).getD dl [] = qr := by rw [hdl, getD_snoc_eq]
            rw [hgd] at hiu
            obtain ⟨gu, cu, curu, eu, _, _, hucap, _, _, _⟩ := hiu.open
            obtain ⟨ql, hql⟩ : ∃ ql, ql = qr.length := ⟨_, rfl⟩
            have HQL := Lib.hid hql
            rw [← hql] at eu
            have HLAST := Lib.hid (show us.getD dl undef = .slice (some ⟨gu, 0, none⟩) ql cu from eu)
            have HIU := Lib.hid (show IntsAt wc (w.heap.size + 1) (.slice (some ⟨gu, 0, none⟩) ql cu) qr by rw [← eu]; exact hiu)
            have a2 : wc.cell? ⟨g2, dl, none⟩ = some (.slice (some ⟨gu, 0, none⟩) ql cu) := by
              rw [hown.cellAt dl (by omega)]
              have hul : us.length = rl := by simpa using hown.1
              rw [List.getElem?_eq_getElem (show dl < us.length by omega)]
              have e9 := HLAST.out
              rw [List.getD_eq_getElem?_getD, List.getElem?_eq_getElem (show dl < us.length by omega)] at e9
              exact congrArg some e9
            have hq8 : ql ≤ 8 := by rw [hql]; exact (HOK.out qr (List.mem_append_right _ (List.mem_singleton.2 rfl))).2.1
            clear hdl hus hdis hiu hgd eu hql hucap
            by_cases h8 : ql < 8
            · clear HR
              have hql8 : (ql : Int) < 8 := by omega
              have HQ8 := Lib.hid (show qr.length < 8 by rw [← HQL.out]; exact h8)
              obtain ⟨n3, hn3⟩ : ∃ n3, n2.tmod 300 = n3 := ⟨_, rfl⟩
              have hn3b : -1 ≤ n3 ∧ n3 ≤ 4000 := by
                have := tmod_bd n2 300 (by decide)
                rcases Int.lt_or_le n2 0 with hneg | hpos
                · have e : n2 = -1 := by omega
                  rw [e] at hn3
                  have e2 : (-1 : Int).tmod 300 = -1 := by decide
                  omega
                · have := Int.tmod_nonneg 300 hpos
                  omega
              have w4 : IntKind.i64.wrap n3 = n3 := by rw [IntKind.wrap_i64]; omega
              obtain ⟨W1, hW1⟩ : ∃ W1, W1 = wc.alloc (.cells #[.int .i64 n3] 3) := ⟨_, rfl⟩
              have bW : Below wc.heap.size wc W1 := by rw [hW1]; exact (Below.refl _ _).alloc (Nat.le_refl _) _
              have hIW := HIU.out.below bW
              have hownW : W1.ownsRow (w.heap.size + 1) 3 1 (.slice (some ⟨gu, 0, none⟩) ql cu) ql (intsV qr) := by rw [HQL.out] at hIW ⊢; exact hIW.1
              have houtW : W1.ownsRow (w.heap.size + 1) 50 1 (.slice (some ⟨g2, 0, none⟩) rl oc) rl us := own_below hown bW
              have hsW : wc.heap.size ≤ W1.heap.size := bW.size
              have hcW : ∀ j u, ([.int .i64 n3] : List Value)[j]? = some u → W1.cell? ((⟨wc.heap.size, 0, none⟩ : Addr).add j) = some u := by
                rw [hW1]
                exact new_cells _ [.int .i64 n3] 3 _ rfl
              have hz1' := HZ.out
              have HUSW := Lib.hid (fun i hi => (HUS.out i hi).below bW)
              clear hIW hown
              go_wp2_with (at_builtin; rw [← hW1]; clear hW1; refine wpList_append_where rfl (.tmp 70) (.tmp 73) 50 rfl (w.heap.size + 1) 3 ib (.int .i64 0) 1 8 Tryd.underlying50 hi hz0 hz1 hz2 rfl (by decide) (.slice (some ⟨gu, 0, none⟩) ql cu) ql (intsV qr) rfl hownW ⟨wc.heap.size, 0, none⟩ 1 1 [.int .i64 n3] (by decide) rfl rfl hcW ?c2 ?c3 ?c4 ?c5 ?_)
              case c2 => simp [Value.oneCell']
              case c3 => unfold maxLen; omega
              case c4 => omega
              case c5 => omega
              intro v' w7 own2 grow2 whr
              obtain ⟨va, vc, rfl⟩ : ∃ a c, v' = .slice (some a) (ql + 1) c := by
                rcases own2.2 with ⟨_, h0⟩ | ⟨g', cap, cur, rfl, _⟩
                · omega
                · exact ⟨_, cap, rfl⟩
              have hgg : g2 ≠ gu := by
                rcases houtW.2 with ⟨e, _⟩ | ⟨g', cap, cur, e, _, hc1, _⟩
                · simp at e
                · rcases hownW.2 with ⟨e', _⟩ | ⟨g'', cap', cur', e', _, hc2, _⟩
                  · simp at e'
                  · rintro rfl
                    simp at e e'
                    obtain ⟨rfl, _⟩ := e
                    obtain ⟨rfl, _⟩ := e'
                    rw [hc1] at hc2
                    simp at hc2
              have hout7 : w7.ownsRow (w.heap.size + 1) 50 1 (.slice (some ⟨g2, 0, none⟩) rl oc) rl us := houtW.kept grow2 (.inr (by simp [Value.ownBlock]; exact hgg))
              have c7 : w7.cell? ⟨g2, dl, none⟩ = some (.slice (some ⟨gu, 0, none⟩) ql cu) := by
                rw [hout7.cellAt dl (by omega)]
                have hul : us.length = rl := by simpa using hout7.1
                rw [List.getElem?_eq_getElem (show dl < us.length by omega)]
                have := HLAST.out
                rw [List.getD_eq_getElem?_getD, List.getElem?_eq_getElem (show dl < us.length by omega)] at this
                exact congrArg some this
              have f7 : w7.frozen? ⟨g2, dl, none⟩ = false := hout7.frozenAt dl
              have hnewI : IntsAt w7 (w.heap.size + 1) (.slice (some va) (ql + 1) vc) (qr ++ [n3]) := by
                refine ⟨?_, by simp⟩
                have e : (qr ++ [n3]).length = ql + 1 := by rw [List.length_append, HQL.out]; rfl
                rw [e]
                simpa [intsV] using own2
              have HR2 := Lib.hid (show RowsD (w7.setCell ⟨g2, dl, none⟩ (.slice (some va) (ql + 1) vc)) (w.heap.size + 1) (.slice (some ⟨g2, 0, none⟩) rl oc) (D ++ [qr ++ [n3]]) by
                rw [HDL.out]
                exact RowsD.grow (w := W1) (us := us) (u := .slice (some ⟨gu, 0, none⟩) ql cu) (r := qr) (by rw [← HDL.out]; exact HRD.out) houtW (fun i hi => HUSW.out i (by rw [List.length_append]; exact hi)) (fun i j hi hj => HDIS.out i j (by rw [List.length_append]; exact hi) (by rw [List.length_append]; exact hj)) (by rw [← HDL.out]; exact HLAST.out) grow2 hnewI whr)
              have b7 : Below (w.heap.size + 1) wq w7 := (HW.out.trans (bW.mono hz1')).grown grow2 (by have := HW.out.size; omega) (fun j hj => (hownW.lt j hj).1)
              have HW2 := Lib.hid (b7.setCell (p := ⟨g2, dl, none⟩) (houtW.lt g2 rfl).1 (.slice (some va) (ql + 1) vc))
              have HZ2 := Lib.hid (show w.heap.size + 1 ≤ (w7.setCell ⟨g2, dl, none⟩ (.slice (some va) (ql + 1) vc)).heap.size by have := grow2.size; simp; omega)
              have HOK2 := Lib.hid (show ∀ r ∈ D ++ [qr ++ [n3]], okI r from fun r hr => by
                rcases List.mem_append.1 hr with hr | hr
                · exact HOK.out r (List.mem_append_left _ hr)
                · rw [List.mem_singleton.1 hr]
                  have hq := HOK.out qr (List.mem_append_right _ (List.mem_singleton.2 rfl))
                  have h88 := HQ8.out
                  refine ⟨by simp, by simp; omega, fun x hx => ?_⟩
                  rcases List.mem_append.1 hx with hx | hx
                  · exact hq.2.2 x hx
                  · rw [List.mem_singleton.1 hx]
                    exact hn3b)
              have hlen2 : (D ++ [qr ++ [n3]]).length ≤ k + 1 := by
                rw [List.length_append, List.length_singleton, ← HDL.out]
                have := HRD.out
                omega
              clear own2 b7 bW hownW houtW hout7 hcW HUS HUSW HDIS hsW hnewI grow2 whr
              go_wp2
              go_roundg (gk - 1)
              case rel => exact ⟨k + 1, D ++ [qr ++ [n3]], by omega, by omega, by omega, by go_num, hlen2, HOK2, HR2, HW2, HZ2⟩
              case measure => omega
            · have hql8 : (8 : Int) ≤ (ql : Int) := by omega
              have HRR := Lib.hid HR.out
              clear hown HUS HDIS HIU HLAST HQL HDL
              obtain ⟨us', hown, hus, hdis⟩ := HR.out
              rw [← HRL.out] at hown
              have HUS := Lib.hid hus
              have HDIS := Lib.hid hdis
              clear hus hdis
              obtain ⟨W1, hW1⟩ : ∃ W1, W1 = (wc.alloc (.cells #[.int .i64 n2] 3)).alloc (.cells #[.slice (some ⟨wc.heap.size, 0, none⟩) 1 1] 50) := ⟨_, rfl⟩
              have bW : Below wc.heap.size wc W1 := by rw [hW1]; exact ((Below.refl _ _).alloc (Nat.le_refl _) _).alloc (by simp) _
              have hownW : W1.ownsRow (w.heap.size + 1) 50 1 (.slice (some ⟨g2, 0, none⟩) rl oc) rl us' := own_below hown bW
              have hsW : wc.heap.size ≤ W1.heap.size := bW.size
              have hnew : IntsAt W1 (w.heap.size + 1) (.slice (some ⟨wc.heap.size, 0, none⟩) 1 1) [n2] := by
                rw [hW1]
                exact IntsAt.below (IntsAt.litA wc (w.heap.size + 1) 1 wc.heap.size [n2] rfl rfl HZ.out (by simp [maxLen])) ((Below.refl _ _).alloc (Nat.le_refl _) _)
              have hcW : ∀ j u, ([.slice (some ⟨wc.heap.size, 0, none⟩) 1 1] : List Value)[j]? = some u → W1.cell? ((⟨wc.heap.size + 1, 0, none⟩ : Addr).add j) = some u := by
                rw [hW1]
                exact new_cells _ [.slice (some ⟨wc.heap.size, 0, none⟩) 1 1] 50 _ (by simp)
              have HNEW := Lib.hid hnew
              have hz1 := HZ.out
              clear hnew hown HR
              go_wp2_with (at_builtin; rw [← hW1]; clear hW1; refine wpList_append_own _ rfl (.tmp 76) (.tmp 79) 27 rfl (w.heap.size + 1) 50 jb (.slice none 0 0) 1 24 Tryd.underlying27 ji jz0 jz1 jz2 rfl (by decide) (.slice (some ⟨g2, 0, none⟩) rl oc) rl us' rfl hownW ⟨wc.heap.size + 1, 0, none⟩ 1 1 [.slice (some ⟨wc.heap.size, 0, none⟩) 1 1] rfl rfl hcW ?c2 ?c3 ?c4 ?c5 ?_)
              case c2 => simp [Value.oneCell']
              case c3 => unfold maxLen; omega
              case c4 => omega
              case c5 => omega
              intro v' w7 own2 grow2 _
              have b7 : Below (w.heap.size + 1) wq w7 := (HW.out.trans (bW.mono hz1)).grown grow2 (by have := HW.out.size; omega) (fun j hj => (hownW.lt j hj).1)
              have HR2 := Lib.hid (show RowsD w7 (w.heap.size + 1) v' (D ++ [qr] ++ [[n2]]) from
                RowsD.snoc (w := W1) (us := us') (v := .slice (some ⟨g2, 0, none⟩) rl oc) (u := .slice (some ⟨wc.heap.size, 0, none⟩) 1 1) (by rw [← HRL.out]; exact hownW) (fun i hi => (HUS.out i hi).below bW) HDIS.out HNEW.out
                  (fun i hi e => by have := ((HUS.out i hi).1.lt _ (show _ = some wc.heap.size from e)).2; omega) (by rw [← HRL.out]; exact own2) grow2)
              have HW2 := Lib.hid b7
              have HZ2 := Lib.hid (Nat.le_trans hz1 (Nat.le_trans hsW grow2.size))
              have HOK2 := Lib.hid (show ∀ r ∈ D ++ [qr] ++ [[n2]], okI r from fun r hr => by
                rcases List.mem_append.1 hr with hr | hr
                · exact HOK.out r hr
                · rw [List.mem_singleton.1 hr]
                  refine ⟨by simp, by simp, fun x hx => ?_⟩
                  rw [List.mem_singleton.1 hx]
                  exact hn2b)
              have hlen2 : (D ++ [qr] ++ [[n2]]).length ≤ k + 1 := by rw [List.length_append, List.length_singleton, ← HRL.out]; omega
              clear own2 grow2 b7 bW hownW hcW HNEW HUS HDIS hsW
              go_wp2
              go_roundg (gk - 1)
              case rel => exact ⟨k + 1, D ++ [qr] ++ [[n2]], by omega, by omega, by omega, by go_num, hlen2, HOK2, HR2, HW2, HZ2⟩
              case measure => omega
        · have d7 : (r == 7) = false := by simp; omega
          clear h7
          obtain ⟨us, hown, hus, hdis⟩ := HR.out
          rw [← HRL.out] at hown
          have HUS := Lib.hid hus
          have HDIS := Lib.hid hdis
          clear hus hdis
          obtain ⟨W1, hW1⟩ : ∃ W1, W1 = (wc.alloc (.cells #[.int .i64 n2] 3)).alloc (.cells #[.slice (some ⟨wc.heap.size, 0, none⟩) 1 1] 50) := ⟨_, rfl⟩
          have bW : Below wc.heap.size wc W1 := by rw [hW1]; exact ((Below.refl _ _).alloc (Nat.le_refl _) _).alloc (by simp) _
          have hownW : W1.ownsRow (w.heap.size + 1) 50 1 (.slice oa rl oc) rl us := own_below hown bW
          have hsW : wc.heap.size ≤ W1.heap.size := bW.size
          have hnew : IntsAt W1 (w.heap.size + 1) (.slice (some ⟨wc.heap.size, 0, none⟩) 1 1) [n2] := by
            rw [hW1]
            exact IntsAt.below (IntsAt.litA wc (w.heap.size + 1) 1 wc.heap.size [n2] rfl rfl HZ.out (by simp [maxLen])) ((Below.refl _ _).alloc (Nat.le_refl _) _)
          have hcW : ∀ j u, ([.slice (some ⟨wc.heap.size, 0, none⟩) 1 1] : List Value)[j]? = some u → W1.cell? ((⟨wc.heap.size + 1, 0, none⟩ : Addr).add j) = some u := by
            rw [hW1]
            exact new_cells _ [.slice (some ⟨wc.heap.size, 0, none⟩) 1 1] 50 _ (by simp)
          have HNEW := Lib.hid hnew
          have hz1 := HZ.out
          clear hnew hown HR
          go_wp2_with (at_builtin; rw [← hW1]; clear hW1; refine wpList_append_own _ rfl (.tmp 76) (.tmp 79) 27 rfl (w.heap.size + 1) 50 jb (.slice none 0 0) 1 24 Tryd.underlying27 ji jz0 jz1 jz2 rfl (by decide) (.slice oa rl oc) rl us rfl hownW ⟨wc.heap.size + 1, 0, none⟩ 1 1 [.slice (some ⟨wc.heap.size, 0, none⟩) 1 1] rfl rfl hcW ?c2 ?c3 ?c4 ?c5 ?_)
          case c2 => simp [Value.oneCell']
          case c3 => unfold maxLen; omega
          case c4 => omega
          case c5 => omega
          intro v' w7 own2 grow2 _
          have b7 : Below (w.heap.size + 1) wq w7 := (HW.out.trans (bW.mono hz1)).grown grow2 (by have := HW.out.size; omega) (fun j hj => (hownW.lt j hj).1)
          have HR2 := Lib.hid (show RowsD w7 (w.heap.size + 1) v' (R ++ [[n2]]) from
            RowsD.snoc (w := W1) (us := us) (v := .slice oa rl oc) (u := .slice (some ⟨wc.heap.size, 0, none⟩) 1 1) (by rw [← HRL.out]; exact hownW) (fun i hi => (HUS.out i hi).below bW) HDIS.out HNEW.out
              (fun i hi e => by have := ((HUS.out i hi).1.lt _ (show _ = some wc.heap.size from e)).2; omega) (by rw [← HRL.out]; exact own2) grow2)
          have HW2 := Lib.hid b7
          have HZ2 := Lib.hid (Nat.le_trans hz1 (Nat.le_trans hsW grow2.size))
          have HOK2 := Lib.hid (show ∀ r ∈ R ++ [[n2]], okI r from fun r hr => by
            rcases List.mem_append.1 hr with hr | hr
            · exact HOK.out r hr
            · rw [List.mem_singleton.1 hr]
              refine ⟨by simp, by simp, fun x hx => ?_⟩
              rw [List.mem_singleton.1 hx]
              exact hn2b)
          have hlen2 : (R ++ [[n2]]).length ≤ k + 1 := by rw [List.length_append, List.length_singleton, ← HRL.out]; omega
          clear own2 grow2 b7 bW hownW hcW HNEW HUS HDIS hsW
          go_wp2
          go_roundg (gk - 1)
          case rel => exact ⟨k + 1, R ++ [[n2]], by omega, by omega, by omega, by go_num, hlen2, HOK2, HR2, HW2, HZ2⟩
          case measure => omega
    · have hE : (decide ((k : Int) < (n : Int)) && decide ((k : Int) < 40)) = false := by
        simp
        omega
      have hRO := Lib.hid (show RowOk R from ⟨by rw [← HRL.out]; omega, HOK.out⟩)
      have HRW := Lib.hid (HR.out.rows.lower (Nat.le_succ w.heap.size))
      have HBW := Lib.hid (HB.out.trans (HW.out.mono (Nat.le_succ _)))
      by_cases hkn2 : k < n
      · have hkn2i : (k : Int) < n := by omega
        have h40 : (40 : Int) ≤ k := by omega
        go_wp2
        go_ret
        exact ⟨_, R, rfl, HRW.out, hRO.out, HBW.out⟩
      · have hkn2i : (n : Int) ≤ k := by omega
        go_wp2
        go_ret
        exact ⟨_, R, rfl, HRW.out, hRO.out, HBW.out⟩
end Go.Proofs.YtlmhnebgkginkaaDoor.Lab
