/- A draft's token: what is between; the sequences without a head. -/
import Derived.Test.YtclaopidjfekmaaDoorToDraft
import Derived.Deep.DeepCutAuto
import Derived.Deep.CutBlock
import Derived.BigRegion
namespace Go.Proofs.YtclaopidjfekmaaDoor.Lab
open Go Go.RowKit

theorem intD_snoc (I : List Int) (k : Nat) (hk : k < I.length) (h2 : k < 2) : (intD I).take (k + 1) = (intD I).take k ++ [UInt8.ofNat (32 + (I.getD k 0).toNat % 16)] := by
  have hl : k < (intD I).length := by simp [intD]; omega
  rw [List.take_succ_eq_append_getElem hl]
  simp only [intD, List.getElem_map, List.getElem_take]
  rw [List.getD_eq_getElem?_getD, List.getElem?_eq_getElem hk]
  rfl

set_option maxHeartbeats 8000000 in
set_option maxRecDepth 100000 in
theorem draft2_any (K p r c : Int) (pv iv : Value) (I : List Int) (f : Int) (d : ByteArray) (w : World) (h0 : 0 ≤ K) (hf0 : 0 ≤ f) (_hf1 : f ≤ 255) (hc : c = 2) (hk : K % 6 = c) (hI : BytAt w iv I) :
    Calls Tryd.prog 17 #[drf K p r pv iv f d] w fun e w' => e = .returned (tok7 2 0 0 (.slice none 0 0) (strL (intD I)) (escD I f) ⟨#[]⟩) ∧ Below w.heap.size w w' := by
  obtain ⟨ia, ic, rfl, hm, hib, hi⟩ := hI
  obtain ⟨m, hmm⟩ : ∃ m, I.length = m := ⟨_, rfl⟩
  rw [hmm] at hm hi ⊢
  have HI := Lib.hid hi
  have HIB := Lib.hid hib
  have HN := Lib.hid hmm
  unfold maxLen at hm
  have hk2 : K.tmod 6 = c := by rw [Int.tmod_eq_emod_of_nonneg h0]; exact hk
  have HCC := Lib.hid hc
  have e0 : (c == 0) = false := by simp; omega
  have e1 : (c == 1) = false := by simp; omega
  have e4 : (c == 4) = false := by simp; omega
  clear hi hib hmm hc
  have HD0 := ds_new w K p r pv (.slice ia m ic) f d c
  go_enter Tryd.func17, Tryd.ntmps17
  go_upto_block 1 with (fail)
  generalize ((w.alloc (.cells #[.int .u8 K, .int .u8 p, .int .i32 r, pv, .slice ia m ic, .int .u8 f, .string d] 41)).alloc (.cells #[.int .i64 0, .int .i32 0, .int .u8 0, .slice none 0 0, .string ⟨#[]⟩, .int .u8 0, .string ⟨#[]⟩] 27)).alloc (.cells #[.int .i64 c, .int .i32 0, .int .u8 0, .slice none 0 0, .string ⟨#[]⟩, .int .u8 0, .string ⟨#[]⟩] 27) = w3 at HD0 ⊢
  have HD := Lib.hid HD0
  clear HD0
  go_cut [4] (fun _ wc => Hid (DS w wc K p r pv (.slice ia m ic) f d c 0 0 (.slice none 0 0) (strL (intD I)) 0 ⟨#[]⟩))
  case first =>
    as_aux_lemma =>
    go_wp2_with fail
    go_loopw [4] (fun i wr => ∃ k : Nat, k ≤ m ∧ k ≤ 2 ∧ i = .int .i64 k ∧ Hid (DS w wr K p r pv (.slice ia m ic) f d c 0 0 (.slice none 0 0) (strL ((intD I).take k)) 0 ⟨#[]⟩)) (fun i _ => m - (intOf i).toNat)
    case atStart => exact ⟨0, Nat.zero_le _, Nat.zero_le _, rfl, HD⟩
    case round =>
      obtain ⟨wo, rfl⟩ : ∃ wo : World, wo = wr := ⟨_, rfl⟩
      obtain ⟨k, hk, hk2, rfl, HX⟩ := hrel
      obtain ⟨_, ⟨hl1, ⟨c0, c1, c2, c3, c4, c5, c6⟩, _⟩, _, ⟨hl3, ⟨t0, t1, t2, t3, t4, t5, t6⟩, tf⟩⟩ := HX.out
      by_cases hlt : k < m
      · by_cases h2 : k < 2
        · obtain ⟨g, o, ha, hcell⟩ := HI.out (by omega)
          have ce := Keeps.of HX.out.1 _ _ _ (hcell k hlt)
          have HSN := Lib.hid (intD_snoc I k (by rw [HN.out]; exact hlt) h2)
          obtain ⟨x, hx⟩ : ∃ x, I.getD k 0 = x := ⟨_, rfl⟩
          have HXB := Lib.hid (HIB.out x (hx ▸ getD_mem' 0 (by rw [HN.out]; exact hlt)))
          rw [hx] at ce HSN
          obtain ⟨X, hX⟩ : ∃ X, strL ((intD I).take k) = X := ⟨_, rfl⟩
          have hsX : X.size ≤ 2 := by
            rw [← hX]
            show ((intD I).take k).toArray.size ≤ 2
            simp
            omega
          have nX : ¬ 9223372036854775807 < X.size + 1 := by omega
          have HXX := Lib.hid hX
          rw [hX] at HX t4
          obtain ⟨hx0, hx1⟩ := HXB.out
          have ht16 : x.tmod 16 = x % 16 := Int.tmod_eq_emod_of_nonneg hx0
          clear hcell hx hX
          subst ha
          obtain ⟨y, hy⟩ : ∃ y : Nat, 32 + x % 16 = (y : Int) := ⟨(32 + x % 16).toNat, by omega⟩
          have HY := Lib.hid hy
          have hcv := fun W (h : W.cell? ⟨wo.heap.size, 0, none⟩ = some (.int .u8 (32 + x % 16))) => run_convert_bytes_back (P := Tryd.prog) W 39 9 5 ⟨wo.heap.size, 0, none⟩ 1 [UInt8.ofNat y] Tryd.underlying39 Tryd.underlying5 Tryd.underlying9 (by
            intro j hj
            have hj' : j < 1 := hj
            obtain rfl : j = 0 := by omega
            have e : ((UInt8.ofNat y).toNat : Int) = 32 + x % 16 := by rw [UInt8.toNat_ofNat']; omega
            simp only [List.getElem_cons_zero]
            rw [e]
            exact h)
          have hwr : IntKind.u8.wrap (32 + x % 16) = 32 + x % 16 := by unfold IntKind.wrap; simp [IntKind.bits, IntKind.signed]; omega
          have hcv1 := hcv (wo.alloc (.cells #[.int .u8 (32 + x % 16)] 5)) (by simp)
          have hcv2 := hcv (wo.alloc (.cells #[.int .u8 (32 + x % 16)] 5)).drew (by simp)
          simp only [List.length_singleton] at hcv1 hcv2
          have y4 := tf 4
          clear hcv hy
          go_wp2_with fail
          go_region
          go_wp2
          have HX4 := HX.out.set4 (X ++ strL [UInt8.ofNat y])
          have HX5 := HX4.on (w' := ((wo.setCell ⟨w.heap.size + 2, 4, none⟩ (.string (X ++ strL [UInt8.ofNat y]))).alloc (.cells #[.int .u8 (32 + x % 16)] 5)).drew) ((Below.refl _ _).alloc (Nat.le_refl _) _).drew
          have eX : X ++ strL [UInt8.ofNat y] = strL ((intD I).take (k + 1)) := by
            apply bl_inj
            have := HY.out
            have e9 : 32 + x.toNat % 16 = y := by omega
            rw [bl_cat, bl_str, bl_str, HSN.out, ← HXX.out, bl_str, e9]
          rw [eX] at HX5
          have HX6 := Lib.hid HX5
          have EX := Lib.hid eX
          clear HX4 HX5 eX hcv1 hcv2
          go_roundw
          case rel => exact ⟨k + 1, by omega, by omega, by go_num, by rw [show (⟨#[UInt8.ofNat y]⟩ : ByteArray) = strL [UInt8.ofNat y] from rfl, EX.out]; exact HX6⟩
          case measure => simp [intOf]; omega
        · have HTK := Lib.hid (show (intD I).take k = intD I from List.take_of_length_le (by simp [intD]; omega))
          rw [HTK.out] at HX
          have f2 : decide ((k : Int) < 2) = false := by simp; omega
          go_wp2
          go_meet
          case rel => exact HX
      · have HTK := Lib.hid (show (intD I).take k = intD I from List.take_of_length_le (by have := HN.out; simp [intD]; omega))
        rw [HTK.out] at HX
        go_wp2
        go_meet
        case rel => exact HX
  case rest =>
    have HD := hcut
    clear hcut
    obtain ⟨w4, hw4⟩ : ∃ w4 : World, w4 = wc := ⟨_, rfl⟩
    rw [← hw4] at HD ⊢
    clear hw4
    have hc2 := HCC.out
    subst hc2
    have ht79 : f.tmod 79 = f % 79 := Int.tmod_eq_emod_of_nonneg hf0
    have HES0 := Lib.hid (show escD I f = if rightB ⟨2, 0, 0, [], strL (intD I), 48 + f % 79, none0⟩ then 48 + f % 79 else 99 from rfl)
    obtain ⟨_, ⟨hl1, ⟨c0, c1, c2, c3, c4, c5, c6⟩, _⟩, ⟨hl2, ⟨z0, z1, z2, z3, z4, z5, z6⟩, zf⟩, ⟨hl3, ⟨t0, t1, t2, t3, t4, t5, t6⟩, tf⟩⟩ := HD.out
    have y5 := tf 5
    have HD5 := Lib.hid (HD.out.set5 (48 + f % 79))
    clear zf tf
    obtain ⟨q, hq⟩ : ∃ q, rightB ⟨2, 0, 0, [], strL (intD I), 48 + f % 79, none0⟩ = q := ⟨_, rfl⟩
    have HQ := Lib.hid hq
    clear hq
    go_wp2_with fail
    refine (rright_any 2 0 0 (48 + f % 79) (.slice none 0 0) [] (strL (intD I)) ⟨#[]⟩ _ (MatAt.nil _) ?hs (Nat.zero_le _) ⟨by omega, by omega⟩).mono ?_
    case hs =>
      have := (intD_ok I).1
      unfold maxLen
      omega
    rintro e w6 ⟨rfl, b6⟩
    rw [HQ.out]
    have HD6 := Lib.hid (HD5.out.on b6)
    clear b6 c0 c1 c2 c3 c4 c5 c6 z0 z1 z2 z3 z4 z5 z6 t0 t1 t2 t3 t4 t5 t6 y5 hl1 hl2 hl3 HD5 HD
    cases q
    · have HDZ := Lib.hid (HD6.out.set5 99)
      obtain ⟨_, ⟨hl1, ⟨c0, c1, c2, c3, c4, c5, c6⟩, _⟩, ⟨hl2, ⟨z0, z1, z2, z3, z4, z5, z6⟩, zf⟩, ⟨hl3, ⟨t0, t1, t2, t3, t4, t5, t6⟩, tf⟩⟩ := HD6.out
      have y5 := tf 5
      have x0 := zf 0
      have x1 := zf 1
      have x2 := zf 2
      have x3 := zf 3
      have x4 := zf 4
      have x5 := zf 5
      have x6 := zf 6
      have HES : escD I f = 99 := by rw [HES0.out, HQ.out]; rfl
      go_wp2
      obtain ⟨HE1, HE2⟩ := ds_end HDZ.out
      change bodyPost _ _ _ _ _ (put7 (w6.setCell ⟨w.heap.size + 2, 5, none⟩ (.int .u8 99)) (w.heap.size + 1) (.int .i64 2) (.int .i32 0) (.int .u8 0) (.slice none 0 0) (.string (strL (intD I))) (.int .u8 (99)) (.string ⟨#[]⟩))
      generalize put7 (w6.setCell ⟨w.heap.size + 2, 5, none⟩ (.int .u8 99)) (w.heap.size + 1) (.int .i64 2) (.int .i32 0) (.int .u8 0) (.slice none 0 0) (.string (strL (intD I))) (.int .u8 (99)) (.string ⟨#[]⟩) = wz at HE1 HE2 ⊢
      obtain ⟨_, ⟨r0, r1, r2, r3, r4, r5, r6⟩, _⟩ := HE1
      exact bodyPost_ret (v := tok7 2 0 0 (.slice none 0 0) (strL (intD I)) (99) ⟨#[]⟩) (by simp [results, Tryd.results17, go_sem, r0, r1, r2, r3, r4, r5, r6]) rfl ⟨by rw [HES], HE2⟩
    · have HDZ := HD6
      obtain ⟨_, ⟨hl1, ⟨c0, c1, c2, c3, c4, c5, c6⟩, _⟩, ⟨hl2, ⟨z0, z1, z2, z3, z4, z5, z6⟩, zf⟩, ⟨hl3, ⟨t0, t1, t2, t3, t4, t5, t6⟩, tf⟩⟩ := HD6.out
      have x0 := zf 0
      have x1 := zf 1
      have x2 := zf 2
      have x3 := zf 3
      have x4 := zf 4
      have x5 := zf 5
      have x6 := zf 6
      have HES : escD I f = 48 + f % 79 := by rw [HES0.out, HQ.out]; rfl
      go_wp2
      obtain ⟨HE1, HE2⟩ := ds_end HDZ.out
      change bodyPost _ _ _ _ _ (put7 (w6) (w.heap.size + 1) (.int .i64 2) (.int .i32 0) (.int .u8 0) (.slice none 0 0) (.string (strL (intD I))) (.int .u8 (48 + f % 79)) (.string ⟨#[]⟩))
      generalize put7 (w6) (w.heap.size + 1) (.int .i64 2) (.int .i32 0) (.int .u8 0) (.slice none 0 0) (.string (strL (intD I))) (.int .u8 (48 + f % 79)) (.string ⟨#[]⟩) = wz at HE1 HE2 ⊢
      obtain ⟨_, ⟨r0, r1, r2, r3, r4, r5, r6⟩, _⟩ := HE1
      exact bodyPost_ret (v := tok7 2 0 0 (.slice none 0 0) (strL (intD I)) (48 + f % 79) ⟨#[]⟩) (by simp [results, Tryd.results17, go_sem, r0, r1, r2, r3, r4, r5, r6]) rfl ⟨by rw [HES], HE2⟩
end Go.Proofs.YtclaopidjfekmaaDoor.Lab
