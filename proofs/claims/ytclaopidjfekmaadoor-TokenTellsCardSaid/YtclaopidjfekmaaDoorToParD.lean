/- A draft's token: the sequences with a head. -/
import Derived.Test.YtclaopidjfekmaaDoorToInter
namespace Go.Proofs.YtclaopidjfekmaaDoor.Lab
open Go Go.RowKit

theorem grown_set (w : World) (b j : Nat) (v : Value) : w.grownBy (w.setCell ⟨b, j, none⟩ v) (some b) :=
  ⟨rfl, rfl, rfl, by simp, fun i _ hi => Below.heap_setCell _ _ _ _ (fun e => hi (by rw [e]))⟩
theorem grown_put7 (w : World) (b : Nat) (a0 a1 a2 a3 a4 a5 a6 : Value) : w.grownBy (put7 w b a0 a1 a2 a3 a4 a5 a6) (some b) := by
  have h := put7_below (Below.refl b w) (Nat.le_refl b) a0 a1 a2 a3 a4 a5 a6
  exact ⟨h.os, h.tape, h.output, h.size, fun j _ hj => put7_heap w b j _ _ _ _ _ _ _ (fun e => hj (by rw [e]))⟩
theorem own_keep {w w' : World} {lo b : Nat} {e : TypeId} {size n : Nat} {v : Value} {xs : List Value} (h : w.ownsRow lo e size v n xs) (hg : w.grownBy w' (some b)) (hb : b < lo) : w'.ownsRow lo e size v n xs := by
  refine h.kept hg ?_
  by_cases e : v.ownBlock = some b
  · have := (h.lt b e).1
    omega
  · exact .inr e
theorem RRow.keep {w w' : World} {lo b : Nat} {v : Value} {R : Rws} (h : RRow w lo v R) (hg : w.grownBy w' (some b)) (hb : b < lo) : RRow w' lo v R := by
  obtain ⟨us, h, hi⟩ := h
  exact ⟨us, own_keep h hg hb, fun i hl => own_keep (hi i hl) hg hb⟩
theorem RRow.slice {w : World} {lo : Nat} {v : Value} {R : Rws} (h : RRow w lo v R) : ∃ a c, v = .slice a R.length c := by
  obtain ⟨us, h, _⟩ := h
  rcases h.2 with ⟨rfl, h0⟩ | ⟨g, cap, cur, rfl, _⟩
  · exact ⟨none, 0, by rw [h0]⟩
  · exact ⟨_, _, rfl⟩
theorem own_shape {w : World} {base : Nat} {e : TypeId} {size n : Nat} {v : Value} {xs : List Value} (h : w.ownsRow base e size v n xs) : ∃ a c, v = .slice a n c := by
  rcases h.2 with ⟨rfl, h0⟩ | ⟨g, cap, cur, rfl, _⟩
  · exact ⟨none, 0, by rw [h0]⟩
  · exact ⟨_, _, rfl⟩
theorem DS.under {w0 w w' : World} {K p r : Int} {pv iv : Value} {f : Int} {d : ByteArray} {k tr tp : Int} {tv : Value} {ti : ByteArray} {tf : Int} {td : ByteArray} (h : DS w0 w K p r pv iv f d k tr tp tv ti tf td) (hb : Below (w0.heap.size + 3) w w') : DS w0 w' K p r pv iv f d k tr tp tv ti tf td :=
  ⟨h.1.trans (hb.mono (by omega)), h.2.1.same hb.size (hb.block _ (by omega)), h.2.2.1.same hb.size (hb.block _ (by omega)), h.2.2.2.same hb.size (hb.block _ (by omega))⟩
theorem infoInt : (Tryd.prog.info? 3).map (fun i => (i.zero, i.size, i.bytes)) = some (some (.int .i64 0), 1, 8) := by kernel_rfl
abbrev dbl (r : List Int) : List Int := r.map fun x => max (-1) (x * 2)
theorem lone_no1 {R : Rws} (h : R.length ≠ 1) : lone R = false := by
  unfold lone
  split
  · simp at h
  · rfl
theorem lone_no2 {R : Rws} (h : (R.getD 0 []).length ≠ 1) : lone R = false := by
  unfold lone
  split
  · simp at h
  · rfl
theorem lone_x {R : Rws} (h : R.length = 1) (h2 : (R.getD 0 []).length = 1) : lone R = decide ((R.getD 0 []).getD 0 0 < 0) := by
  obtain ⟨r, rfl⟩ := List.length_eq_one_iff.1 h
  obtain ⟨x, e⟩ := List.length_eq_one_iff.1 (show r.length = 1 by simpa using h2)
  subst e
  rfl
theorem rowD_eq (k : Nat) (y : List Int) : rowD k y = if y.length = 0 then [(k : Int)] else dbl (y.take 8) := rfl

set_option maxHeartbeats 16000000 in
set_option maxRecDepth 100000 in
theorem draft35_any (K p r c : Int) (pv iv : Value) (PP : Rws) (I : List Int) (f : Int) (d : ByteArray) (w : World) (h0 : 0 ≤ K) (hp0 : 0 ≤ p) (hf0 : 0 ≤ f) (hc : c = 3 ∨ c = 5) (hk : K % 6 = c) (hI : BytAt w iv I) (hPP : ShortsAt w pv PP) :
    Calls Tryd.prog 17 #[drf K p r pv iv f d] w fun e w' => ∃ va vn vc, e = .returned (tok7 c 0 (privD p) (.slice va vn vc) (strL (intD I)) (64 + f % 63) (datD K d)) ∧ (∃ B, w.heap.size ≤ B ∧ RRow w' B (.slice va vn vc) (matD PP)) ∧ Below w.heap.size w w' := by
  obtain ⟨ia, ic, rfl, hm, hib, hi⟩ := hI
  obtain ⟨m, hmm⟩ : ∃ m, I.length = m := ⟨_, rfl⟩
  rw [hmm] at hm hi ⊢
  obtain ⟨pa, pc, rfl, hpm, hpi⟩ := hPP
  obtain ⟨n, hnn⟩ : ∃ n, PP.length = n := ⟨_, rfl⟩
  rw [hnn] at hpm hpi ⊢
  have HI := Lib.hid hi
  have HIB := Lib.hid hib
  have HN := Lib.hid hmm
  have HPI := Lib.hid hpi
  have HPN := Lib.hid hnn
  unfold maxLen at hm hpm
  have hk2 : K.tmod 6 = c := by rw [Int.tmod_eq_emod_of_nonneg h0]; exact hk
  have HCC := Lib.hid hc
  have HK := Lib.hid hk
  have e0 : (c == 0) = false := by simp; omega
  have e1 : (c == 1) = false := by simp; omega
  have e4 : (c == 4) = false := by simp; omega
  have e2 : (c == 2) = false := by simp; omega
  clear hi hib hmm hc hpi hnn
  have HD0 := ds_new w K p r (.slice pa n pc) (.slice ia m ic) f d c
  go_enter Tryd.func17, Tryd.ntmps17
  go_upto_block 1 with (fail)
  generalize ((w.alloc (.cells #[.int .u8 K, .int .u8 p, .int .i32 r, (.slice pa n pc), .slice ia m ic, .int .u8 f, .string d] 41)).alloc (.cells #[.int .i64 0, .int .i32 0, .int .u8 0, .slice none 0 0, .string ⟨#[]⟩, .int .u8 0, .string ⟨#[]⟩] 27)).alloc (.cells #[.int .i64 c, .int .i32 0, .int .u8 0, .slice none 0 0, .string ⟨#[]⟩, .int .u8 0, .string ⟨#[]⟩] 27) = w3 at HD0 ⊢
  have HD := Lib.hid HD0
  clear HD0
  go_cut [4] (fun _ wc => Hid (DS w wc K p r (.slice pa n pc) (.slice ia m ic) f d c 0 0 (.slice none 0 0) (strL (intD I)) 0 ⟨#[]⟩))
  case first =>
    as_aux_lemma =>
    go_wp2_with fail
    go_loopw [4] (fun i wr => ∃ k : Nat, k ≤ m ∧ k ≤ 2 ∧ i = .int .i64 k ∧ Hid (DS w wr K p r (.slice pa n pc) (.slice ia m ic) f d c 0 0 (.slice none 0 0) (strL ((intD I).take k)) 0 ⟨#[]⟩)) (fun i _ => m - (intOf i).toNat)
    case atStart => exact ⟨0, Nat.zero_le _, Nat.zero_le _, rfl, HD⟩
    case round =>
      obtain ⟨wo, rfl⟩ : ∃ wo : World, wo = wr := ⟨_, rfl⟩
      obtain ⟨k, hk, hk2, rfl, HX⟩ := hrel
      obtain ⟨_, ⟨hl1, ⟨c0, c1, c2, c3, c4, c5, c6⟩, _⟩, _, ⟨hl3, ⟨t0, t1, t2, t3, t4, t5, t6⟩, tf⟩⟩ := HX.out
      by_cases hlt : k < m
      · by_cases h2 : k < 2
        · obtain ⟨g, o, ha, hcell⟩ := HI.out (by omega)
          have ce := Keeps.of HX.out.1 _ _ _ (hcell k hlt)
          have HSN := Lib.hid (intD_snoc I k (by rw [HN.out]; exact hlt) h2)
          obtain ⟨x, hx⟩ : ∃ x, I.getD k 0 = x := ⟨_, rfl⟩
          have HXB := Lib.hid (HIB.out x (hx ▸ getD_mem' 0 (by rw [HN.out]; exact hlt)))
          rw [hx] at ce HSN
          obtain ⟨X, hX⟩ : ∃ X, strL ((intD I).take k) = X := ⟨_, rfl⟩
          have hsX : X.size ≤ 2 := by
            rw [← hX]
            show ((intD I).take k).toArray.size ≤ 2
            simp
            omega
          have nX : ¬ 9223372036854775807 < X.size + 1 := by omega
          have HXX := Lib.hid hX
          rw [hX] at HX t4
          obtain ⟨hx0, hx1⟩ := HXB.out
          have ht16 : x.tmod 16 = x % 16 := Int.tmod_eq_emod_of_nonneg hx0
          clear hcell hx hX
          subst ha
          obtain ⟨y, hy⟩ : ∃ y : Nat, 32 + x % 16 = (y : Int) := ⟨(32 + x % 16).toNat, by omega⟩
          have HY := Lib.hid hy
          have hcv := fun W (h : W.cell? ⟨wo.heap.size, 0, none⟩ = some (.int .u8 (32 + x % 16))) => run_convert_bytes_back (P := Tryd.prog) W 39 9 5 ⟨wo.heap.size, 0, none⟩ 1 [UInt8.ofNat y] Tryd.underlying39 Tryd.underlying5 Tryd.underlying9 (by
            intro j hj
            have hj' : j < 1 := hj
            obtain rfl : j = 0 := by omega
            have e : ((UInt8.ofNat y).toNat : Int) = 32 + x % 16 := by rw [UInt8.toNat_ofNat']; omega
            simp only [List.getElem_cons_zero]
            rw [e]
            exact h)
          have hwr : IntKind.u8.wrap (32 + x % 16) = 32 + x % 16 := by unfold IntKind.wrap; simp [IntKind.bits, IntKind.signed]; omega
          have hcv1 := hcv (wo.alloc (.cells #[.int .u8 (32 + x % 16)] 5)) (by simp)
          have hcv2 := hcv (wo.alloc (.cells #[.int .u8 (32 + x % 16)] 5)).drew (by simp)
          simp only [List.length_singleton] at hcv1 hcv2
          have y4 := tf 4
          clear hcv hy
          go_wp2_with fail
          go_region
          go_wp2
          have HX4 := HX.out.set4 (X ++ strL [UInt8.ofNat y])
          have HX5 := HX4.on (w' := ((wo.setCell ⟨w.heap.size + 2, 4, none⟩ (.string (X ++ strL [UInt8.ofNat y]))).alloc (.cells #[.int .u8 (32 + x % 16)] 5)).drew) ((Below.refl _ _).alloc (Nat.le_refl _) _).drew
          have eX : X ++ strL [UInt8.ofNat y] = strL ((intD I).take (k + 1)) := by
            apply bl_inj
            have := HY.out
            have e9 : 32 + x.toNat % 16 = y := by omega
            rw [bl_cat, bl_str, bl_str, HSN.out, ← HXX.out, bl_str, e9]
          rw [eX] at HX5
          have HX6 := Lib.hid HX5
          have EX := Lib.hid eX
          clear HX4 HX5 eX hcv1 hcv2
          go_roundw
          case rel => exact ⟨k + 1, by omega, by omega, by go_num, by rw [show (⟨#[UInt8.ofNat y]⟩ : ByteArray) = strL [UInt8.ofNat y] from rfl, EX.out]; exact HX6⟩
          case measure => simp [intOf]; omega
        · have HTK := Lib.hid (show (intD I).take k = intD I from List.take_of_length_le (by simp [intD]; omega))
          rw [HTK.out] at HX
          have f2 : decide ((k : Int) < 2) = false := by simp; omega
          go_wp2
          go_meet
          case rel => exact HX
      · have HTK := Lib.hid (show (intD I).take k = intD I from List.take_of_length_le (by have := HN.out; simp [intD]; omega))
        rw [HTK.out] at HX
        go_wp2
        go_meet
        case rel => exact HX
  case rest =>
    have HD := hcut
    clear hcut
    obtain ⟨w4, hw4⟩ : ∃ w4 : World, w4 = wc := ⟨_, rfl⟩
    rw [← hw4] at HD ⊢
    clear hw4
    have ht63 : f.tmod 63 = f % 63 := Int.tmod_eq_emod_of_nonneg hf0
    have ht8 : p.tmod 8 = p % 8 := Int.tmod_eq_emod_of_nonneg hp0
    obtain ⟨_, ⟨hl1, ⟨c0, c1, c2, c3, c4, c5, c6⟩, _⟩, ⟨hl2, ⟨z0, z1, z2, z3, z4, z5, z6⟩, zf⟩, ⟨hl3, ⟨t0, t1, t2, t3, t4, t5, t6⟩, tf⟩⟩ := HD.out
    have y5 := tf 5
    have HD5 := Lib.hid (HD.out.set5 (64 + f % 63))
    clear zf
    go_upto_if 119 with (fail)
    obtain ⟨w5, hw5⟩ : ∃ w5 : World, w5 = w4.setCell ⟨w.heap.size + 2, 5, none⟩ (.int .u8 (64 + f % 63)) := ⟨_, rfl⟩
    change Code.wp _ _ _ _ (w4.setCell ⟨w.heap.size + 2, 5, none⟩ (.int .u8 (64 + f % 63)))
    rw [← hw5] at HD5 ⊢
    clear c0 c1 c2 c3 c4 c5 c6 z0 z1 z2 z3 z4 z5 z6 t0 t1 t2 t3 t4 t5 t6 hl1 hl2 hl3 tf y5 hw5 HD
    go_cut [] (fun wc => Hid (DS w wc K p r (.slice pa n pc) (.slice ia m ic) f d c 0 (privD p) (.slice none 0 0) (strL (intD I)) (64 + f % 63) ⟨#[]⟩))
    case first =>
      obtain ⟨_, ⟨hl1, ⟨c0, c1, c2, c3, c4, c5, c6⟩, _⟩, ⟨hl2, ⟨z0, z1, z2, z3, z4, z5, z6⟩, zf⟩, ⟨hl3, ⟨t0, t1, t2, t3, t4, t5, t6⟩, tf⟩⟩ := HD5.out
      have y2 := tf 2
      by_cases h8 : p % 8 < 4
      · have HV := Lib.hid (show privD p = 60 + p % 8 by rw [privD, if_pos h8])
        go_wp2
        go_meet
        case rel => exact Lib.hid (by rw [HV.out]; exact HD5.out.set2 _)
      · have HV := Lib.hid (show privD p = 0 by rw [privD, if_neg h8])
        go_wp2
        go_meet
        case rel => exact Lib.hid (by rw [HV.out]; exact HD5.out)
    case rest =>
      have HD6 := hcut
      clear hcut
      obtain ⟨w6, hw6⟩ : ∃ w6 : World, w6 = wc := ⟨_, rfl⟩
      rw [← hw6] at HD6 ⊢
      clear hw6
      go_upto_block 3 with (fail)
      go_cut [5, 6, 7] (fun _ _ _ wc => ∃ tv, Hid (DS w wc K p r (.slice pa n pc) (.slice ia m ic) f d c 0 (privD p) tv (strL (intD I)) (64 + f % 63) ⟨#[]⟩) ∧ Hid (RRow wc (w.heap.size + 3) tv (rowsD 0 (PP.take 32))))
      case first =>
        as_aux_lemma =>
        obtain ⟨ib, hi, hz0, hz1, hz2⟩ := info_parts infoI
        obtain ⟨ib2, hi2, hy0, hy1, hy2⟩ := info_parts infoInt
        go_wp2_with fail
        go_loopw [5, 6, 7] (fun i _ _ wr => ∃ (k : Nat) (tv : Value), k ≤ n ∧ k ≤ 32 ∧ i = .int .i64 k ∧ Hid (DS w wr K p r (.slice pa n pc) (.slice ia m ic) f d c 0 (privD p) tv (strL (intD I)) (64 + f % 63) ⟨#[]⟩) ∧ Hid (RRow wr (w.heap.size + 3) tv (rowsD 0 (PP.take k)))) (fun i _ _ _ => n - (intOf i).toNat)
        case atStart => exact ⟨0, _, Nat.zero_le _, Nat.zero_le _, rfl, HD6, Lib.hid (RRow.nil _ _)⟩
        case round =>
          obtain ⟨wo, rfl⟩ : ∃ wo : World, wo = wr := ⟨_, rfl⟩
          obtain ⟨k, tv, hk, hk32, rfl, HX, HR⟩ := hrel
          obtain ⟨_, ⟨hl1, ⟨c0, c1, c2, c3, c4, c5, c6⟩, _⟩, ⟨hl2, ⟨z0, z1, z2, z3, z4, z5, z6⟩, zf⟩, ⟨hl3, ⟨t0, t1, t2, t3, t4, t5, t6⟩, tf⟩⟩ := HX.out
          by_cases hlt : k < n
          · by_cases h32 : k < 32
            · obtain ⟨g, o, ha, hcell⟩ := HPI.out (by omega)
              obtain ⟨u, cu0, hu0⟩ := hcell k hlt
              have cu := Keeps.of HX.out.1 _ _ _ cu0
              have hu := hu0.on (Keeps.of HX.out.1)
              have HTK := Lib.hid (take_at' PP [] (k := k) (by rw [HPN.out]; exact hlt))
              obtain ⟨y, hy⟩ : ∃ y, PP.getD k [] = y := ⟨_, rfl⟩
              rw [hy] at HTK hu
              obtain ⟨ua, uc, rfl, hym, hyb, hyc⟩ := hu
              obtain ⟨q, hq⟩ : ∃ q, y.length = q := ⟨_, rfl⟩
              rw [hq] at hym hyc cu
              have HYB := Lib.hid hyb
              have HYC := Lib.hid hyc
              have HQ := Lib.hid hq
              unfold maxLen at hym
              clear hcell cu0 hu0 hy hyb hyc hq
              subst ha
              have f32 : decide ((k : Int) < 32) = true := by simp; omega
              go_upto_block 5 with (fail)
              try rw [f32]
              obtain ⟨wi, hwi⟩ : ∃ wi, wi = wo.alloc (.cells #[] 3) := ⟨_, rfl⟩
              rw [← hwi]
              have HBI := Lib.hid (show Below wo.heap.size wo wi by rw [hwi]; exact (Below.refl _ _).alloc (Nat.le_refl _) _)
              have HP0 := Lib.hid (show NRow wi wo.heap.size (.slice (some ⟨wo.heap.size, 0, none⟩) 0 0) (dbl (y.take 0)) by rw [hwi]; exact nrow_lit wo wo.heap.size 0 wo.heap.size [] rfl rfl (Nat.le_refl _) (by simp))
              clear hwi
              go_cut [6, 7] (fun vp _ wc => Hid (NRow wc wo.heap.size vp (dbl (y.take 8))) ∧ Hid (Below wo.heap.size wo wc))
              case first =>
                go_wp2_with fail
                go_loopw [6, 7] (fun vp j wr => ∃ l : Nat, l ≤ q ∧ l ≤ 8 ∧ j = .int .i64 l ∧ Hid (NRow wr wo.heap.size vp (dbl (y.take l))) ∧ Hid (Below wo.heap.size wo wr)) (fun _ j _ => q - (intOf j).toNat)
                case atStart => exact ⟨0, Nat.zero_le _, Nat.zero_le _, rfl, HP0, HBI⟩
                case round =>
                  obtain ⟨wn, rfl⟩ : ∃ wn : World, wn = wr := ⟨_, rfl⟩
                  obtain ⟨l, hl, hl8, rfl, HNR, HBN⟩ := hrel
                  have cun := Keeps.of HBN.out _ _ _ cu
                  have c3n := Keeps.of HBN.out _ _ _ c3
                  by_cases hlq : l < q
                  · by_cases h8 : l < 8
                    · obtain ⟨g2, o2, ha2, hc2⟩ := HYC.out (by omega)
                      have cx := Keeps.of HBN.out _ _ _ (hc2 l hlq)
                      have HXT := Lib.hid (take_at' y 0 (k := l) (by rw [HQ.out]; exact hlq))
                      have hxb := HYB.out _ (getD_mem' (l := y) 0 (k := l) (by rw [HQ.out]; exact hlq))
                      obtain ⟨x, hx⟩ : ∃ x, y.getD l 0 = x := ⟨_, rfl⟩
                      rw [hx] at HXT hxb cx
                      obtain ⟨hx0, hx1⟩ := hxb
                      have HLL := Lib.hid (show (dbl (y.take l)).length = l by rw [List.length_map, List.length_take, HQ.out]; omega)
                      have ho : wn.ownsRow wo.heap.size 3 1 _ (dbl (y.take l)).length (intsV (dbl (y.take l))) := HNR.out
                      rw [HLL.out] at ho
                      have hsz := HBN.out.size
                      clear hc2 hx
                      subst ha2
                      go_wp2_with (at_builtin; refine wpList_append_own _ rfl (.tmp 151) (.tmp 163) 47 rfl wo.heap.size 3 ib2 (.int .i64 0) 1 8 Tryd.underlying47 hi2 hy0 hy1 hy2 rfl (by decide) _ l _ rfl (ho.alloc _) ⟨wn.heap.size, 0, none⟩ 1 1 [.int .i64 (max (-1) (x * 2))] rfl rfl ?c1 ?c2 ?c3 ?c4 ?c5 ?_)
                      case c1 => exact new_cells wn [.int .i64 (max (-1) (x * 2))] 3 _ rfl
                      case c2 => simp [Value.oneCell']
                      case c3 => unfold maxLen; omega
                      case c4 => omega
                      case c5 => simp; omega
                      intro v' w3' own3 grow3 _
                      have HB3 := Lib.hid ((HBN.out.alloc hsz _).grown grow3 (by simp; omega) (fun j hj => (ho.lt j hj).1))
                      have HO3 := Lib.hid (show NRow w3' wo.heap.size v' (dbl (y.take (l + 1))) by
                        have e9 : (dbl (y.take (l + 1))).length = l + 1 := by rw [List.length_map, List.length_take, HQ.out]; omega
                        show w3'.ownsRow _ _ _ _ _ _
                        rw [e9, HXT.out]
                        simpa using own3)
                      clear own3 grow3 ho
                      go_wp2
                      go_roundw
                      case rel => first | exact ⟨l + 1, by omega, by omega, by go_num, HO3, HB3⟩ | ((repeat apply Exists.intro); exact ⟨⟨l + 1, by omega, by omega, by go_num, HO3, HB3⟩, rfl⟩)
                      case measure => simp [intOf]; omega
                    · have f8 : decide ((l : Int) < 8) = false := by simp; omega
                      have HNR' := Lib.hid (show NRow wn wo.heap.size _ (dbl (y.take 8)) by have h := HNR.out; rwa [show l = 8 by omega] at h)
                      go_wp2
                      go_meet
                      case rel => exact ⟨HNR', HBN⟩
                  · have HNR' := Lib.hid (show NRow wn wo.heap.size _ (dbl (y.take 8)) by
                      have h := HNR.out
                      rwa [List.take_of_length_le (by rw [HQ.out]; omega), ← List.take_of_length_le (show y.length ≤ 8 by rw [HQ.out]; omega)] at h)
                    go_wp2
                    go_meet
                    case rel => exact ⟨HNR', HBN⟩
              case rest =>
                obtain ⟨HNR, HBN⟩ := hcut
                obtain ⟨w7, hw7⟩ : ∃ w7 : World, w7 = wc := ⟨_, rfl⟩
                rw [← hw7] at HNR HBN ⊢
                clear hw7
                obtain ⟨va, vc, hv⟩ := own_shape HNR.out
                obtain ⟨e, he⟩ : ∃ e, (dbl (y.take 8)).length = e := ⟨_, rfl⟩
                rw [he] at hv
                subst hv
                have HE := Lib.hid (show e = min 8 q by rw [← he, List.length_map, List.length_take, HQ.out])
                have HEE := Lib.hid he
                have hb7 := HBN.out.size
                clear he
                go_upto_if 167 with (fail)
                go_cut [6] (fun vp wc => Hid (NRow wc wo.heap.size vp (rowD k y)) ∧ Hid (Below wo.heap.size wo wc))
                case first =>
                  by_cases h0e : e = 0
                  · have HRD := Lib.hid (show rowD k y = [(k : Int)] by rw [rowD_eq, if_pos (by have := HE.out; have := HQ.out; omega)])
                    subst h0e
                    go_wp2
                    go_meet
                    case rel => exact ⟨Lib.hid (by rw [HRD.out]; exact nrow_lit w7 wo.heap.size 1 w7.heap.size [(k : Int)] rfl rfl hb7 (by simp [maxLen])), Lib.hid (HBN.out.alloc hb7 _)⟩
                  · have HRD := Lib.hid (show rowD k y = dbl (y.take 8) by rw [rowD_eq, if_neg (by have := HE.out; have := HQ.out; omega)])
                    have f1 : ((e : Int) == 0) = false := by simp; omega
                    have f2 : (e == 0) = false := by simpa using h0e
                    go_wp2
                    go_meet
                    case rel => exact ⟨Lib.hid (by rw [HRD.out]; exact HNR.out), HBN⟩
                case rest =>
                  obtain ⟨HN2, HB2⟩ := hcut
                  obtain ⟨w8, hw8⟩ : ∃ w8 : World, w8 = wc := ⟨_, rfl⟩
                  rw [← hw8] at HN2 HB2 ⊢
                  clear hw8 HNR HBN
                  obtain ⟨pa6, pn6, pc6, rfl⟩ := own_slice HN2.out
                  have HX8 := Lib.hid (HX.out.on HB2.out)
                  have HLK := Lib.hid (show (rowsD 0 (PP.take k)).length = k by rw [rowsD_len, List.length_take, HPN.out]; omega)
                  obtain ⟨us, ho8, hrow8⟩ := HR.out.below HB2.out
                  rw [HLK.out] at ho8
                  have hlo : w.heap.size + 3 ≤ w8.heap.size := by
                    have := HX8.out.2.2.2.1
                    omega
                  have hlo0 : w.heap.size + 3 ≤ wo.heap.size := by omega
                  have b9 : Below w8.heap.size w8 (w8.alloc (.cells #[.slice pa6 pn6 pc6] 47)) := (Below.refl _ _).alloc (Nat.le_refl _) _
                  have ho9 := row_below ho8 b9
                  have HRW9 := Lib.hid (fun i (hi : i < (rowsD 0 (PP.take k)).length) => row_below (hrow8 i hi) b9)
                  have HU9 := Lib.hid (row_below (own_lower HN2.out hlo0) b9)
                  obtain ⟨_, ⟨hm1, ⟨d0, d1, d2, d3, d4, d5, d6⟩, _⟩, ⟨hm2, _⟩, ⟨hm3, ⟨s0, s1, s2, s3, s4, s5, s6⟩, sf⟩⟩ := HX8.out
                  clear hrow8 ho8 b9
                  go_wp2_with (at_builtin; refine wpList_append_own _ rfl (.tmp 171) (.tmp 173) 25 rfl (w.heap.size + 3) 47 ib (.slice none 0 0) 1 24 Tryd.underlying25 hi hz0 hz1 hz2 rfl (by decide) tv k us rfl ho9 ⟨w8.heap.size, 0, none⟩ 1 1 [.slice pa6 pn6 pc6] rfl rfl ?c1 ?c2 ?c3 ?c4 ?c5 ?_)
                  case c1 => exact new_cells w8 [.slice pa6 pn6 pc6] 47 _ rfl
                  case c2 => simp [Value.oneCell']
                  case c3 => unfold maxLen; omega
                  case c4 => omega
                  case c5 => simp; omega
                  intro v' w9 own9 grow9 _
                  have B9 : Below (w.heap.size + 3) w8 w9 := (((Below.refl _ _).alloc hlo _).grown grow9 (by simp; omega) (fun j hj => (ho9.lt j hj).1))
                  have HX9 := Lib.hid (HX8.out.under B9)
                  have HR9 := Lib.hid (show RRow w9 (w.heap.size + 3) v' (rowsD 0 (PP.take (k + 1))) by
                    rw [HTK.out, rowsD_snoc, show 0 + (PP.take k).length = k by rw [List.length_take, HPN.out]; omega]
                    exact RRow.snoc (us := us) (by rw [HLK.out]; exact ho9) HRW9.out HU9.out (by rw [HLK.out]; exact own9) grow9)
                  obtain ⟨av', cv', rfl⟩ := HR9.out.slice
                  generalize (rowsD 0 (PP.take (k + 1))).length = nv at *
                  have u3 : w9.cell? ⟨w.heap.size + 2, 3, none⟩ = some tv := HX9.out.2.2.2.2.1.2.2.2.1
                  have v3 : w9.frozen? ⟨w.heap.size + 2, 3, none⟩ = false := HX9.out.2.2.2.2.2 3
                  have HX10 := Lib.hid (HX9.out.set3 (.slice av' nv cv'))
                  have HR10 := Lib.hid (HR9.out.keep (grown_set w9 (w.heap.size + 2) 3 (.slice av' nv cv')) (by omega))
                  clear own9 grow9 ho9 HRW9 HU9 B9 HX9 HR9 d0 d1 d2 d3 d4 d5 d6 s0 s1 s2 s3 s4 s5 s6
                  go_wp2
                  go_roundw
                  case rel => first | exact ⟨k + 1, _, by omega, by omega, by go_num, HX10, HR10⟩ | ((repeat apply Exists.intro); exact ⟨⟨k + 1, _, by omega, by omega, by go_num, HX10, HR10⟩, rfl⟩)
                  case measure => simp [intOf]; omega
            · have f2 : decide ((k : Int) < 32) = false := by simp; omega
              have HR' := Lib.hid (show RRow wo (w.heap.size + 3) tv (rowsD 0 (PP.take 32)) by have h := HR.out; rwa [show k = 32 by omega] at h)
              go_wp2
              go_meet
              case rel => exact ⟨tv, HX, HR'⟩
          · have HR' := Lib.hid (show RRow wo (w.heap.size + 3) tv (rowsD 0 (PP.take 32)) by
              have h := HR.out
              rwa [List.take_of_length_le (by rw [HPN.out]; omega), ← List.take_of_length_le (show PP.length ≤ 32 by rw [HPN.out]; omega)] at h)
            go_wp2
            go_meet
            case rel => exact ⟨tv, HX, HR'⟩
      case rest =>
        obtain ⟨tv, HD7, HR7⟩ := hcut
        obtain ⟨w7, hw7⟩ : ∃ w7 : World, w7 = wc := ⟨_, rfl⟩
        rw [← hw7] at HD7 HR7 ⊢
        clear hw7
        obtain ⟨ra, rc, hrs⟩ := HR7.out.slice
        obtain ⟨R, hR⟩ : ∃ R, rowsD 0 (PP.take 32) = R := ⟨_, rfl⟩
        rw [hR] at HR7 hrs
        have HRM := Lib.hid (show matD PP = if lone R then [] else R by rw [← hR]; rfl)
        obtain ⟨L, hL⟩ : ∃ L, R.length = L := ⟨_, rfl⟩
        rw [hL] at hrs
        subst hrs
        have HM := Lib.hid HR7.out.mat
        have HLL := Lib.hid hL
        clear hR hL
        obtain ⟨_, ⟨hl1, ⟨c0, c1, c2, c3, c4, c5, c6⟩, _⟩, ⟨hl2, ⟨z0, z1, z2, z3, z4, z5, z6⟩, zf⟩, ⟨hl3, ⟨t0, t1, t2, t3, t4, t5, t6⟩, tf⟩⟩ := HD7.out
        go_upto_region 39 with (fail)
        go_cut [196] (fun x wc => x = .bool (lone R) ∧ wc = w7)
        case first =>
          by_cases h1 : L = 1
          · subst h1
            obtain ⟨_, _, hea, _, hcm⟩ := HM.out
            injection hea with hea he1 he2
            clear he1 he2
            obtain ⟨g, o, ha, hcell⟩ := hcm (by rw [HLL.out]; omega)
            obtain ⟨u, cu, hu⟩ := hcell 0 (by rw [HLL.out]; omega)
            obtain ⟨ua, uc, rfl, hum, huc⟩ := hu
            obtain ⟨q, hq⟩ : ∃ q, (R.getD 0 []).length = q := ⟨_, rfl⟩
            rw [hq] at cu hum huc
            rw [← hea] at ha
            subst ha
            rw [Nat.add_zero] at cu
            clear hcell hcm hea
            by_cases h2 : q = 1
            · subst h2
              obtain ⟨g2, o2, ha2, hc2⟩ := huc (by omega)
              have cx := hc2 0 (by omega)
              rw [Nat.add_zero] at cx
              subst ha2
              have HLO := Lib.hid (lone_x HLL.out hq)
              obtain ⟨x, hx⟩ : ∃ x, (R.getD 0 []).getD 0 0 = x := ⟨_, rfl⟩
              rw [hx] at cx HLO
              clear huc hc2 hx hq
              go_wp2
              go_meet
              case rel => exact ⟨by rw [HLO.out], rfl⟩
            · have HLO := Lib.hid (lone_no2 (R := R) (by rw [hq]; exact h2))
              have f1 : ((q : Int) == 1) = false := by simp; omega
              have f2 : (q == 1) = false := by simpa using h2
              clear huc hq
              go_wp2
              go_meet
              case rel => exact ⟨by rw [HLO.out], rfl⟩
          · have HLO := Lib.hid (lone_no1 (R := R) (by rw [HLL.out]; exact h1))
            have f1 : ((L : Int) == 1) = false := by simp; omega
            have f2 : (L == 1) = false := by simpa using h1
            go_wp2
            go_meet
            case rel => exact ⟨by rw [HLO.out], rfl⟩
        case rest =>
          obtain ⟨rfl, rfl⟩ := hcut
          obtain ⟨b, hb⟩ : ∃ b, lone R = b := ⟨_, rfl⟩
          have HB := Lib.hid hb
          rw [hb]
          clear hb
          have y3 := tf 3
          clear zf
          go_upto_if 196 with (fail)
          go_cut [] (fun wc => ∃ tv, Hid (DS w wc K p r (.slice pa n pc) (.slice ia m ic) f d c 0 (privD p) tv (strL (intD I)) (64 + f % 63) ⟨#[]⟩) ∧ Hid (RRow wc (w.heap.size + 3) tv (matD PP)))
          case first =>
            cases b
            · have HEM := Lib.hid (show matD PP = R by rw [HRM.out, HB.out]; rfl)
              go_wp2
              go_meet
              case rel => exact ⟨_, HD7, Lib.hid (by rw [HEM.out]; exact HR7.out)⟩
            · have HEM := Lib.hid (show matD PP = [] by rw [HRM.out, HB.out]; rfl)
              go_wp2
              go_meet
              case rel => exact ⟨_, Lib.hid (HD7.out.set3 (.slice none 0 0)), Lib.hid (by rw [HEM.out]; exact RRow.nil _ _)⟩
          case rest =>
            obtain ⟨tv, HD8, HR8⟩ := hcut
            obtain ⟨w8, hw8⟩ : ∃ w8 : World, w8 = wc := ⟨_, rfl⟩
            rw [← hw8] at HD8 HR8 ⊢
            clear hw8 c0 c1 c2 c3 c4 c5 c6 z0 z1 z2 z3 z4 z5 z6 t0 t1 t2 t3 t4 t5 t6 hl1 hl2 hl3 tf HD7 HR7 HM y3
            obtain ⟨va, vc, hvs⟩ := HR8.out.slice
            obtain ⟨mn, hmn⟩ : ∃ mn, (matD PP).length = mn := ⟨_, rfl⟩
            rw [hmn] at hvs
            subst hvs
            clear hmn
            rcases HCC.out with hc3 | hc5
            · subst hc3
              have HDD := Lib.hid (show datD K d = ⟨#[]⟩ by unfold datD; rw [if_neg (by have := HK.out; omega)])
              obtain ⟨_, ⟨hl1, ⟨c0, c1, c2, c3, c4, c5, c6⟩, _⟩, ⟨hl2, ⟨z0, z1, z2, z3, z4, z5, z6⟩, zf⟩, ⟨hl3, ⟨t0, t1, t2, t3, t4, t5, t6⟩, tf⟩⟩ := HD8.out
              have x0 := zf 0
              have x1 := zf 1
              have x2 := zf 2
              have x3 := zf 3
              have x4 := zf 4
              have x5 := zf 5
              have x6 := zf 6
              have HRZ0 := HR8.out.keep (grown_put7 w8 (w.heap.size + 1) (.int .i64 3) (.int .i32 0) (.int .u8 (privD p)) (.slice va mn vc) (.string (strL (intD I))) (.int .u8 (64 + f % 63)) (.string ⟨#[]⟩)) (by omega)
              obtain ⟨HE1, HE2⟩ := ds_end HD8.out
              have HRZ := Lib.hid HRZ0
              have HE := Lib.hid HE1
              have HEB := Lib.hid HE2
              clear HRZ0 HE1 HE2
              go_wp2
              change bodyPost _ _ _ _ _ (put7 w8 (w.heap.size + 1) (.int .i64 3) (.int .i32 0) (.int .u8 (privD p)) (.slice va mn vc) (.string (strL (intD I))) (.int .u8 (64 + f % 63)) (.string ⟨#[]⟩))
              generalize put7 w8 (w.heap.size + 1) (.int .i64 3) (.int .i32 0) (.int .u8 (privD p)) (.slice va mn vc) (.string (strL (intD I))) (.int .u8 (64 + f % 63)) (.string ⟨#[]⟩) = wz at HE HEB HRZ ⊢
              obtain ⟨_, ⟨r0, r1, r2, r3, r4, r5, r6⟩, _⟩ := HE.out
              exact bodyPost_ret (v := tok7 3 0 (privD p) (.slice va mn vc) (strL (intD I)) (64 + f % 63) ⟨#[]⟩) (by simp [results, Tryd.results17, go_sem, r0, r1, r2, r3, r4, r5, r6]) rfl ⟨va, mn, vc, by rw [HDD.out], ⟨w.heap.size + 3, by omega, HRZ.out⟩, HEB.out⟩
            · subst hc5
              have HDD := Lib.hid (show datD K d = strL (bytesD d) by unfold datD; rw [if_pos HK.out])
              obtain ⟨_, ⟨hl1, ⟨c0, c1, c2, c3, c4, c5, c6⟩, _⟩, ⟨hl2, ⟨z0, z1, z2, z3, z4, z5, z6⟩, zf⟩, ⟨hl3, ⟨t0, t1, t2, t3, t4, t5, t6⟩, tf⟩⟩ := HD8.out
              have y6 := tf 6
              clear zf
              go_wp2_with fail
              refine (rbytes_any d w8).mono ?_
              rintro e w9 ⟨rfl, b9⟩
              have HD9 := Lib.hid (HD8.out.on b9)
              have HR9 := Lib.hid ((HR8.out.below b9).keep (grown_set w9 (w.heap.size + 2) 6 (.string (strL (bytesD d)))) (by omega))
              have HDZ := Lib.hid (HD9.out.set6 (strL (bytesD d)))
              clear b9 c0 c1 c2 c3 c4 c5 c6 z0 z1 z2 z3 z4 z5 z6 t0 t1 t2 t3 t4 t5 t6 hl1 hl2 hl3 tf y6 HD8 HR8
              obtain ⟨_, ⟨hl1, ⟨c0, c1, c2, c3, c4, c5, c6⟩, _⟩, ⟨hl2, ⟨z0, z1, z2, z3, z4, z5, z6⟩, zf⟩, ⟨hl3, ⟨t0, t1, t2, t3, t4, t5, t6⟩, tf⟩⟩ := HD9.out
              have y6 := tf 6
              have x0 := zf 0
              have x1 := zf 1
              have x2 := zf 2
              have x3 := zf 3
              have x4 := zf 4
              have x5 := zf 5
              have x6 := zf 6
              have HRZ0 := HR9.out.keep (grown_put7 (w9.setCell ⟨w.heap.size + 2, 6, none⟩ (.string (strL (bytesD d)))) (w.heap.size + 1) (.int .i64 5) (.int .i32 0) (.int .u8 (privD p)) (.slice va mn vc) (.string (strL (intD I))) (.int .u8 (64 + f % 63)) (.string (strL (bytesD d)))) (by omega)
              obtain ⟨HE1, HE2⟩ := ds_end HDZ.out
              have HRZ := Lib.hid HRZ0
              have HE := Lib.hid HE1
              have HEB := Lib.hid HE2
              clear HRZ0 HE1 HE2
              go_wp2
              change bodyPost _ _ _ _ _ (put7 (w9.setCell ⟨w.heap.size + 2, 6, none⟩ (.string (strL (bytesD d)))) (w.heap.size + 1) (.int .i64 5) (.int .i32 0) (.int .u8 (privD p)) (.slice va mn vc) (.string (strL (intD I))) (.int .u8 (64 + f % 63)) (.string (strL (bytesD d))))
              generalize put7 (w9.setCell ⟨w.heap.size + 2, 6, none⟩ (.string (strL (bytesD d)))) (w.heap.size + 1) (.int .i64 5) (.int .i32 0) (.int .u8 (privD p)) (.slice va mn vc) (.string (strL (intD I))) (.int .u8 (64 + f % 63)) (.string (strL (bytesD d))) = wz at HE HEB HRZ ⊢
              obtain ⟨_, ⟨r0, r1, r2, r3, r4, r5, r6⟩, _⟩ := HE.out
              exact bodyPost_ret (v := tok7 5 0 (privD p) (.slice va mn vc) (strL (intD I)) (64 + f % 63) (strL (bytesD d))) (by simp [results, Tryd.results17, go_sem, r0, r1, r2, r3, r4, r5, r6]) rfl ⟨va, mn, vc, by rw [HDD.out], ⟨w.heap.size + 3, by omega, HRZ.out⟩, HEB.out⟩
end Go.Proofs.YtclaopidjfekmaaDoor.Lab
