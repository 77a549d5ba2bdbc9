/- What the document's answer for Default is, of any number. -/
import Derived.Test.YthcncghhjlaicaaDefault
import Derived.Test.YthcncghhjlaicaaRParse
namespace Go.Proofs.Ythcncghhjlaicaa.Lab
open Go.RowKit

def names16 : List ByteArray := [⟨#[35, 48, 48, 48, 48, 48, 48]⟩, ⟨#[35, 99, 100, 48, 48, 48, 48]⟩, ⟨#[35, 48, 48, 99, 100, 48, 48]⟩, ⟨#[35, 99, 100, 99, 100, 48, 48]⟩, ⟨#[35, 48, 48, 48, 48, 101, 101]⟩, ⟨#[35, 99, 100, 48, 48, 99, 100]⟩, ⟨#[35, 48, 48, 99, 100, 99, 100]⟩, ⟨#[35, 101, 53, 101, 53, 101, 53]⟩, ⟨#[35, 55, 102, 55, 102, 55, 102]⟩, ⟨#[35, 102, 102, 48, 48, 48, 48]⟩, ⟨#[35, 48, 48, 102, 102, 48, 48]⟩, ⟨#[35, 102, 102, 102, 102, 48, 48]⟩, ⟨#[35, 53, 99, 53, 99, 102, 102]⟩, ⟨#[35, 102, 102, 48, 48, 102, 102]⟩, ⟨#[35, 48, 48, 102, 102, 102, 102]⟩, ⟨#[35, 102, 102, 102, 102, 102, 102]⟩]

theorem name_ok (k : Nat) (hk : k < 16) : ∃ s : ByteArray, names16[k]? = some s ∧ s.size ≤ 4096 ∧ parseB s.data.toList = true ∧ parseV s.data.toList = basicV k := by
  obtain rfl | rfl | rfl | rfl | rfl | rfl | rfl | rfl | rfl | rfl | rfl | rfl | rfl | rfl | rfl | rfl : k = 0 ∨ k = 1 ∨ k = 2 ∨ k = 3 ∨ k = 4 ∨ k = 5 ∨ k = 6 ∨ k = 7 ∨ k = 8 ∨ k = 9 ∨ k = 10 ∨ k = 11 ∨ k = 12 ∨ k = 13 ∨ k = 14 ∨ k = 15 := by omega
  all_goals exact ⟨_, rfl, by decide +kernel, by decide +kernel, by decide +kernel⟩

theorem step_ok (a : Nat) (ha : a < 6) : (#[.int .i64 0, .int .i64 95, .int .i64 135, .int .i64 175, .int .i64 215, .int .i64 255] : Array Value)[a]? = some (.int .i64 (step6 a : Nat)) := by
  obtain rfl | rfl | rfl | rfl | rfl | rfl : a = 0 ∨ a = 1 ∨ a = 2 ∨ a = 3 ∨ a = 4 ∨ a = 5 := by omega
  all_goals rfl

theorem rof_of {i j k : Int} (a b c : Nat) (ha : a < 256) (hb : b < 256) (hc : c < 256) (e1 : i = a) (e2 : j = b) (e3 : k = c) (w : World) :
    Calls Try.prog 23 #[.int .i64 i, .int .i64 j, .int .i64 k] w (ValPost (257 * a, 257 * b, 257 * c) w) := by
  subst e1 e2 e3
  exact rof_any a b c ha hb hc w

theorem rparse_name (s : ByteArray) (hs : s.size ≤ 4096) {v : Nat × Nat × Nat} (h1 : parseB s.data.toList = true) (h2 : parseV s.data.toList = v) (w : World) :
    Calls Try.prog 19 #[.string s] w fun e w' => e = .returned (.tuple #[valT v, .bool true]) ∧ Below w.heap.size w w' :=
  (rparse_any s hs w).mono fun e w' ⟨he, hw⟩ => ⟨by rw [he, h1, h2], hw⟩

set_option maxRecDepth 100000 in
set_option maxHeartbeats 4000000 in
theorem rdefault_any (n : Int) (w : World) : Calls Try.prog 9 #[.int .i64 n] w (FormPost (defV n) (defB n) w) := by
  by_cases h0 : n < 0
  · go_enter Try.func9, Try.ntmps9
    go_wp2
    refine bodyPost_ret (v := .tuple #[valT (0, 0, 0), .bool false]) (by simp [results, Try.results9, go_sem]) rfl (def_end (by unfold defV; rw [if_pos h0]) (by unfold defB; rw [decide_eq_false (by omega)]) rfl ?_)
    exact (Below.refl _ _).alloc (Nat.le_refl _) _
  · by_cases h1 : 255 < n
    · go_enter Try.func9, Try.ntmps9
      go_wp2
      refine bodyPost_ret (v := .tuple #[valT (0, 0, 0), .bool false]) (by simp [results, Try.results9, go_sem]) rfl (def_end (by unfold defV; rw [if_neg (by omega), if_neg (by omega), if_neg (by omega), if_neg (by omega)]) (by unfold defB; rw [decide_eq_false (by omega)]) rfl ?_)
      exact (Below.refl _ _).alloc (Nat.le_refl _) _
    · have hb : defB n = true := by unfold defB; rw [decide_eq_true (by omega)]
      have HB := Lib.hid hb
      clear hb
      by_cases h2 : n < 16
      · obtain ⟨k, rfl⟩ := Int.eq_ofNat_of_zero_le (show 0 ≤ n by omega)
        have hk : k < 16 := by omega
        have hv : defV (k : Int) = basicV k := by unfold defV; rw [if_neg h0, if_pos h2]; rfl
        have HV := Lib.hid hv
        clear hv
        obtain ⟨s, hs1, hs2, hs3, hs4⟩ := name_ok k hk
        have hc : ((w.alloc (.cells #[.int .u16 0, .int .u16 0, .int .u16 0] 30)).alloc (.cells #[.string ⟨#[35, 48, 48, 48, 48, 48, 48]⟩, .string ⟨#[35, 99, 100, 48, 48, 48, 48]⟩, .string ⟨#[35, 48, 48, 99, 100, 48, 48]⟩, .string ⟨#[35, 99, 100, 99, 100, 48, 48]⟩, .string ⟨#[35, 48, 48, 48, 48, 101, 101]⟩, .string ⟨#[35, 99, 100, 48, 48, 99, 100]⟩, .string ⟨#[35, 48, 48, 99, 100, 99, 100]⟩, .string ⟨#[35, 101, 53, 101, 53, 101, 53]⟩, .string ⟨#[35, 55, 102, 55, 102, 55, 102]⟩, .string ⟨#[35, 102, 102, 48, 48, 48, 48]⟩, .string ⟨#[35, 48, 48, 102, 102, 48, 48]⟩, .string ⟨#[35, 102, 102, 102, 102, 48, 48]⟩, .string ⟨#[35, 53, 99, 53, 99, 102, 102]⟩, .string ⟨#[35, 102, 102, 48, 48, 102, 102]⟩, .string ⟨#[35, 48, 48, 102, 102, 102, 102]⟩, .string ⟨#[35, 102, 102, 102, 102, 102, 102]⟩] 9)).cell? ⟨w.heap.size + 1, k, none⟩ = some (.string s) := by
          rw [World.cell?_alloc_at _ _ _ _ (by simp)]
          show (names16.map Value.string).toArray[k]? = _
          rw [List.getElem?_toArray, List.getElem?_map, hs1]
          rfl
        have HS3 := Lib.hid hs3
        have HS4 := Lib.hid hs4
        have l1 : (k : Int) < 16 := by omega
        clear hs1 hs3 hs4
        go_enter Try.func9, Try.ntmps9
        go_wp2_with fail
        refine (rparse_name s hs2 HS3.out HS4.out _).mono ?_
        rintro e w5 ⟨rfl, hb5⟩
        obtain ⟨⟨s2, s3, s4⟩, s5, s6, s7⟩ := (V3.below ((V3.newAt w w.heap.size rfl 0 0 0 30).past _) hb5).s
        generalize basicV k = v at *
        go_wp2
        refine bodyPost_ret (v := .tuple #[valT v, .bool true]) (by simp [results, Try.results9, go_sem, s2, s3, s4]) rfl (def_end HV.out HB.out rfl ?_)
        exact (((bstep (((Below.refl _ _).alloc (Nat.le_refl _) _).alloc (by simp) _) hb5).setCell (by simp) _).setCell (by simp) _).setCell (by simp) _
      · by_cases h3 : n < 232
        · have hv : defV n = cubeV (n.toNat - 16) := by unfold defV; rw [if_neg h0, if_neg h2, if_pos h3]
          have hm : (n - 16).toNat = n.toNat - 16 := by omega
          obtain ⟨a, qa⟩ : ∃ a : Nat, a = (n.toNat - 16) / 36 := ⟨_, rfl⟩
          obtain ⟨b, qb⟩ : ∃ b : Nat, b = (n.toNat - 16) / 6 % 6 := ⟨_, rfl⟩
          obtain ⟨c, qc⟩ : ∃ c : Nat, c = (n.toNat - 16) % 6 := ⟨_, rfl⟩
          obtain ⟨d6, q6⟩ : ∃ d : Nat, d = (n.toNat - 16) / 6 := ⟨_, rfl⟩
          have ea : (n - 16).tdiv 36 = (a : Int) := by rw [Int.tdiv_eq_ediv_of_nonneg (by omega)]; omega
          have e6 : (n - 16).tdiv 6 = (d6 : Int) := by rw [Int.tdiv_eq_ediv_of_nonneg (by omega)]; omega
          have eb : (d6 : Int).tmod 6 = (b : Int) := by rw [Int.tmod_eq_emod_of_nonneg (by omega)]; omega
          have ec : (n - 16).tmod 6 = (c : Int) := by rw [Int.tmod_eq_emod_of_nonneg (by omega)]; omega
          have la : (a : Int) < 6 := by omega
          have lb : (b : Int) < 6 := by omega
          have lc : (c : Int) < 6 := by omega
          have wr : ∀ i : Int, 0 ≤ i → i < 100000 → IntKind.i64.wrap i = i := fun i h0 h1 => IntWalk.i64_in _ (by omega)
          have w1 : IntKind.i64.wrap (n - 16) = n - 16 := wr _ (by omega) (by omega)
          have w2 : IntKind.i64.wrap (a : Int) = a := wr _ (by omega) (by omega)
          have w3 : IntKind.i64.wrap (d6 : Int) = d6 := wr _ (by omega) (by omega)
          clear wr
          have hv2 : cubeV (n.toNat - 16) = (257 * step6 a, 257 * step6 b, 257 * step6 c) := by unfold cubeV; rw [qa, qb, qc]
          have HV := Lib.hid (hv.trans hv2)
          have ba := step6_lt a (by omega)
          have bb := step6_lt b (by omega)
          have bc := step6_lt c (by omega)
          have hh : ∀ j, j < 6 → (((w.alloc (.cells #[.int .u16 0, .int .u16 0, .int .u16 0] 30)).alloc (.cells #[.int .i64 0, .int .i64 95, .int .i64 135, .int .i64 175, .int .i64 215, .int .i64 255] 3))).drew.cell? ⟨w.heap.size + 1, j, none⟩ = some (.int .i64 (step6 j : Nat)) := by
            intro j hj
            show (((w.alloc (.cells #[.int .u16 0, .int .u16 0, .int .u16 0] 30)).alloc (.cells #[.int .i64 0, .int .i64 95, .int .i64 135, .int .i64 175, .int .i64 215, .int .i64 255] 3))).cell? ⟨w.heap.size + 1, j, none⟩ = _
            rw [World.cell?_alloc_at _ _ _ _ (by simp)]
            exact step_ok j hj
          have g0 := hh a (by omega)
          have g1 := hh b (by omega)
          have g2 := hh c (by omega)
          have hg : w.heap.size + 1 < (((w.alloc (.cells #[.int .u16 0, .int .u16 0, .int .u16 0] 30)).alloc (.cells #[.int .i64 0, .int .i64 95, .int .i64 135, .int .i64 175, .int .i64 215, .int .i64 255] 3))).drew.heap.size := by show _ < ((w.alloc _).alloc _).heap.size; simp
          have RQ : Below w.heap.size w (((w.alloc (.cells #[.int .u16 0, .int .u16 0, .int .u16 0] 30)).alloc (.cells #[.int .i64 0, .int .i64 95, .int .i64 135, .int .i64 175, .int .i64 215, .int .i64 255] 3))).drew ∧ V3 (((w.alloc (.cells #[.int .u16 0, .int .u16 0, .int .u16 0] 30)).alloc (.cells #[.int .i64 0, .int .i64 95, .int .i64 135, .int .i64 175, .int .i64 215, .int .i64 255] 3))).drew w.heap.size 0 0 0 :=
            ⟨(((Below.refl _ _).alloc (Nat.le_refl _) _).alloc (by simp) _).drew, ((V3.newAt w w.heap.size rfl 0 0 0 _).past _).drew⟩
          have ne : ¬ w.heap.size + 1 = w.heap.size := by omega
          clear hv hv2 hh qa qb qc q6 hm
          generalize step6 a = sa at *
          generalize step6 b = sb at *
          generalize step6 c = sc at *
          have H0 := Lib.hid h0
          go_enter Try.func9, Try.ntmps9
          go_upto_region 9 with (fail)
          refine wp_region_held_drew (S := fun w' => w'.cell? ⟨w.heap.size + 1, a, none⟩ = some (.int .i64 sa) ∧ w'.cell? ⟨w.heap.size + 1, b, none⟩ = some (.int .i64 sb) ∧ w'.cell? ⟨w.heap.size + 1, c, none⟩ = some (.int .i64 sc)) (by kernel_rfl) ?_ (fun hHeld => ?_)
          · exact ⟨g0, g1, g2⟩
          refine take_at (i := 0) (v := ?_) rfl (by kernel_rfl) (by kernel_rfl) (by kernel_rfl) (fun _ _ _ h => h) (by kernel_rfl) (by assumption) ?_ ?_
          rotate_left
          · (intro w hSw; (try dsimp only at hSw); go_simp; try with_reducible rfl)
          simp only [Act.put, List.setIfInBounds_toArray, List.set_cons_zero, List.set_cons_succ]
          refine take_at (i := 1) (v := ?_) rfl (by kernel_rfl) (by kernel_rfl) (by kernel_rfl) (fun _ _ _ h => h) (by kernel_rfl) (by assumption) ?_ ?_
          rotate_left
          · (intro w hSw; (try dsimp only at hSw); go_simp; try with_reducible rfl)
          simp only [Act.put, List.setIfInBounds_toArray, List.set_cons_zero, List.set_cons_succ]
          refine take_at (i := 2) (v := ?_) rfl (by kernel_rfl) (by kernel_rfl) (by kernel_rfl) (fun _ _ _ h => h) (by kernel_rfl) (by assumption) ?_ ?_
          rotate_left
          · (intro w hSw; (try dsimp only at hSw); go_simp; try with_reducible rfl)
          simp only [Act.put, List.setIfInBounds_toArray, List.set_cons_zero, List.set_cons_succ]
          refine take_at (i := 3) (v := ?_) rfl (by kernel_rfl) (by kernel_rfl) (by kernel_rfl) (fun _ _ _ h => h) (by kernel_rfl) (by assumption) ?_ ?_
          rotate_left
          · (intro w hSw; (try dsimp only at hSw); go_simp; try with_reducible rfl)
          simp only [Act.put, List.setIfInBounds_toArray, List.set_cons_zero, List.set_cons_succ]
          refine take_at (i := 4) (v := ?_) rfl (by kernel_rfl) (by kernel_rfl) (by kernel_rfl) (fun _ _ _ h => h) (by kernel_rfl) (by assumption) ?_ ?_
          rotate_left
          · (intro w hSw; (try dsimp only at hSw); go_simp; try with_reducible rfl)
          simp only [Act.put, List.setIfInBounds_toArray, List.set_cons_zero, List.set_cons_succ]
          refine take_at (i := 5) (v := ?_) rfl (by kernel_rfl) (by kernel_rfl) (by kernel_rfl) (fun _ _ _ h => h) (by kernel_rfl) (by assumption) ?_ ?_
          rotate_left
          · (intro w hSw; (try dsimp only at hSw); go_simp; try with_reducible rfl)
          simp only [Act.put, List.setIfInBounds_toArray, List.set_cons_zero, List.set_cons_succ]
          refine take_at (i := 6) (v := ?_) rfl (by kernel_rfl) (by kernel_rfl) (by kernel_rfl) (fun _ _ _ h => h) (by kernel_rfl) (by assumption) ?_ ?_
          rotate_left
          · (intro w hSw; (try dsimp only at hSw); go_simp; try with_reducible rfl)
          simp only [Act.put, List.setIfInBounds_toArray, List.set_cons_zero, List.set_cons_succ]
          refine take_at (i := 7) (v := ?_) rfl (by kernel_rfl) (by kernel_rfl) (by kernel_rfl) (fun _ _ _ h => h) (by kernel_rfl) (by assumption) ?_ ?_
          rotate_left
          · (intro w hSw; (try dsimp only at hSw); go_simp; try with_reducible rfl)
          simp only [Act.put, List.setIfInBounds_toArray, List.set_cons_zero, List.set_cons_succ]
          refine take_at (i := 8) (v := ?_) rfl (by kernel_rfl) (by kernel_rfl) (by kernel_rfl) (fun _ _ _ h => h) (by kernel_rfl) (by assumption) ?_ ?_
          rotate_left
          · (intro w hSw; (try dsimp only at hSw); go_simp; try with_reducible rfl)
          simp only [Act.put, List.setIfInBounds_toArray, List.set_cons_zero, List.set_cons_succ]
          refine take_at (i := 9) (v := ?_) rfl (by kernel_rfl) (by kernel_rfl) (by kernel_rfl) (fun _ _ _ h => h) (by kernel_rfl) (by assumption) ?_ ?_
          rotate_left
          · (intro w hSw; (try dsimp only at hSw); go_simp; try with_reducible rfl)
          simp only [Act.put, List.setIfInBounds_toArray, List.set_cons_zero, List.set_cons_succ]
          refine take_at (i := 10) (v := ?_) rfl (by kernel_rfl) (by kernel_rfl) (by kernel_rfl) (fun _ _ _ h => h) (by kernel_rfl) (by assumption) ?_ ?_
          rotate_left
          · (intro w hSw; (try dsimp only at hSw); go_simp; try with_reducible rfl)
          simp only [Act.put, List.setIfInBounds_toArray, List.set_cons_zero, List.set_cons_succ]
          refine take_at (i := 11) (v := ?_) rfl (by kernel_rfl) (by kernel_rfl) (by kernel_rfl) (fun _ _ _ h => h) (by kernel_rfl) (by assumption) ?_ ?_
          rotate_left
          · (intro w hSw; (try dsimp only at hSw); go_simp; try with_reducible rfl)
          simp only [Act.put, List.setIfInBounds_toArray, List.set_cons_zero, List.set_cons_succ]
          refine take_at (i := 12) (v := ?_) rfl (by kernel_rfl) (by kernel_rfl) (by kernel_rfl) (fun _ _ _ h => h) (by kernel_rfl) (by assumption) ?_ ?_
          rotate_left
          · (intro w hSw; (try dsimp only at hSw); go_simp; try with_reducible rfl)
          simp only [Act.put, List.setIfInBounds_toArray, List.set_cons_zero, List.set_cons_succ]
          refine take_at (i := 13) (v := ?_) rfl (by kernel_rfl) (by kernel_rfl) (by kernel_rfl) (fun _ _ _ h => h) (by kernel_rfl) (by assumption) ?_ ?_
          rotate_left
          · (intro w hSw; (try dsimp only at hSw); go_simp; try with_reducible rfl)
          simp only [Act.put, List.setIfInBounds_toArray, List.set_cons_zero, List.set_cons_succ]
          refine take_at (i := 14) (v := ?_) rfl (by kernel_rfl) (by kernel_rfl) (by kernel_rfl) (fun _ _ _ h => h) (by kernel_rfl) (by assumption) ?_ ?_
          rotate_left
          · (intro w hSw; (try dsimp only at hSw); go_simp; try with_reducible rfl)
          simp only [Act.put, List.setIfInBounds_toArray, List.set_cons_zero, List.set_cons_succ]
          refine take_at (i := 15) (v := ?_) rfl (by kernel_rfl) (by kernel_rfl) (by kernel_rfl) (fun _ _ _ h => h) (by kernel_rfl) (by assumption) ?_ ?_
          rotate_left
          · (intro w hSw; (try dsimp only at hSw); go_simp; try with_reducible rfl)
          simp only [Act.put, List.setIfInBounds_toArray, List.set_cons_zero, List.set_cons_succ]
          refine do_at (i := 16) rfl (by kernel_rfl) (by kernel_rfl) (fun K hK => ?_)
          go_simp
          refine (rof_any sa sb sc ba bb bc _).mono ?_
          rintro e w6 ⟨rfl, hb6⟩
          have RQ' := And.intro (bstep RQ.1 hb6) (RQ.2.below hb6)
          have g0' := (hb6.cell (p := ⟨w.heap.size + 1, a, none⟩) hg).trans g0
          have g1' := (hb6.cell (p := ⟨w.heap.size + 1, b, none⟩) hg).trans g1
          have g2' := (hb6.cell (p := ⟨w.heap.size + 1, c, none⟩) hg).trans g2
          clear RQ g0 g1 g2
          have RQ := RQ'
          clear RQ'
          obtain ⟨⟨s2, s3, s4⟩, s5, s6, s7⟩ := RQ.2.s
          go_wp2_with fail
          refine hK.out _ _ ?_ (fun hHeld => ?_)
          · exact ⟨g0', g1', g2'⟩
          clear hK K
          try simp only [Act.put, List.setIfInBounds_toArray, List.set_cons_zero, List.set_cons_succ]
          refine do_at (i := 17) rfl (by kernel_rfl) (by kernel_rfl) (fun K hK => ?_)
          go_simp
          refine hK.out _ _ ?_ (fun hHeld => ?_)
          · exact ⟨(set3_far ne a _ _ _).trans g0', (set3_far ne b _ _ _).trans g1', (set3_far ne c _ _ _).trans g2'⟩
          clear hK K
          try simp only [Act.put, List.setIfInBounds_toArray, List.set_cons_zero, List.set_cons_succ]
          refine take_at (i := 18) (v := ?_) rfl (by kernel_rfl) (by kernel_rfl) (by kernel_rfl) (fun _ _ _ h => h) (by kernel_rfl) (by assumption) ?_ ?_
          rotate_left
          · (intro w hSw; (try dsimp only at hSw); go_simp; try with_reducible rfl)
          simp only [Act.put, List.setIfInBounds_toArray, List.set_cons_zero, List.set_cons_succ]
          refine wpAnyH_done (by kernel_rfl) ?_ _
          go_wp2
          refine bodyPost_ret (v := .tuple #[valT (257 * sa, 257 * sb, 257 * sc), .bool true]) (by simp [results, Try.results9, go_sem, s2, s3, s4]) rfl (def_end HV.out HB.out rfl ?_)
          exact ((RQ.1.setCell (by simp) _).setCell (by simp) _).setCell (by simp) _
        · have hv : defV n = greyV (n.toNat - 232) := by unfold defV; rw [if_neg h0, if_neg h2, if_neg h3, if_pos (by omega)]
          have HV := Lib.hid hv
          clear hv
          go_enter Try.func9, Try.ntmps9
          go_wp2_with fail
          refine (rof_of (8 + 10 * (n.toNat - 232)) (8 + 10 * (n.toNat - 232)) (8 + 10 * (n.toNat - 232)) (by omega) (by omega) (by omega) (by omega) (by omega) (by omega) _).mono ?_
          rintro e w5 ⟨rfl, hb5⟩
          obtain ⟨⟨s2, s3, s4⟩, s5, s6, s7⟩ := (V3.below (V3.newAt w w.heap.size rfl 0 0 0 30) hb5).s
          obtain ⟨m, hm⟩ : ∃ m, 8 + 10 * (n.toNat - 232) = m := ⟨_, rfl⟩
          rw [hm]
          have HM := Lib.hid hm
          clear hm
          go_wp2
          refine bodyPost_ret (v := .tuple #[valT (257 * m, 257 * m, 257 * m), .bool true]) (by simp [results, Try.results9, go_sem, s2, s3, s4]) rfl (def_end (by rw [HV.out]; unfold greyV; rw [HM.out]) HB.out rfl ?_)
          exact (((bstep ((Below.refl _ _).alloc (Nat.le_refl _) _) hb5).setCell (by simp) _).setCell (by simp) _).setCell (by simp) _
end Go.Proofs.Ythcncghhjlaicaa.Lab
