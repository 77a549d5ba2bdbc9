/- RowBlind: two rows that are alike to Low are so again behind the same acts. -/
import Derived.Test.YthildghpgajgoaaRqLow
import Derived.Test.YthildghpgajgoaaRqWorks
import Derived.Test.YthildghpgajgoaaRqOpen
import Derived.Test.YthildghpgajgoaaRoRow
namespace Go.Proofs.Ythildghpgajgoaa.Lab
open Go Go.RowKit Go.ChangeShapes Go.WideShapes Go.ChangeAt

/-- What is known of a row between two acts. -/
def RowOk (w : World) (v : Value) (R : Cls) : Prop := RowIn w v R ∧ Wh R ∧ Lv R ∧ R.length ≤ 40
theorem RowOk.below {w w' : World} {v : Value} {R : Cls} (h : RowOk w v R) (hb : Below w.heap.size w w') : RowOk w' v R := ⟨h.1.below hb, h.2⟩
theorem RowOk.act {w : World} {v : Value} {R : Cls} (h : RowOk w v R) (a : Ac) (ha : a.ok) : Calls Try.prog 9 #[acV a, v] w fun e w' => ∃ v', e = .returned v' ∧ RowOk w' v' (doesM a R) ∧ Below w.heap.size w w' :=
  (does_any doC w a v R ha ⟨h.1, h.2.1, h.2.2.1, by have := h.2.2.2; omega⟩ h.2.2.2).mono fun e w' ⟨v', e1, h1, h2⟩ => ⟨v', e1, ⟨h1, does_wh h.2.1 a, does_lv h.2.2.1 a, does_len a h.2.2.2⟩, h2⟩
theorem AcsIn.at {w : World} {a : Option Addr} {len : Nat} {T : Nat → Ac} (h : AcsIn w a len T) {i : Nat} (hi : i < len) : ∃ b off, a = some ⟨b, off, none⟩ ∧ Ac9 w b (off + i * 9) (T i) ∧ (T i).ok := by
  obtain ⟨b, off, e, _, hc⟩ := h.2.2 (by omega)
  exact ⟨b, off, e, hc i hi, h.2.1 i hi⟩
set_option maxHeartbeats 8000000 in
set_option maxRecDepth 100000 in
theorem blind_core (W : World) (cols : Nat) (u u2 : Value) (L O : List Dc) (aa : Option Addr) (len cap : Nat) (A : Nat → Ac) (hc : cols < 256) (hL : DsIn W u L) (hO : DsIn W u2 O) (hA : AcsIn W aa len A) :
    Calls Try.prog 5 #[.agg #[.int .u8 (cols : Nat), u], u2, .slice aa len cap] W fun e w' => e = .returned (.bool true) ∧ Below W.heap.size W w' := by
  have HLD := Lib.hid hL
  have HOD := Lib.hid hO
  have HAC := Lib.hid hA
  obtain ⟨la, lc, rfl⟩ := hL.shape
  obtain ⟨ln, hln⟩ : ∃ n, n = L.length := ⟨_, rfl⟩
  obtain ⟨oa, oc, rfl⟩ := hO.shape
  obtain ⟨om, hom⟩ : ∃ n, n = O.length := ⟨_, rfl⟩
  rw [← hln] at HLD
  rw [← hom] at HOD
  rw [← hln, ← hom]
  obtain ⟨w0, hw0⟩ : ∃ y, y = W.alloc (.cells #[.int .u8 (cols : Nat), .slice la ln lc] 24) := ⟨_, rfl⟩
  obtain ⟨z, hz⟩ : ∃ y, y = W.heap.size := ⟨_, rfl⟩
  have b0 : Below W.heap.size W w0 := by rw [hw0]; exact (Below.refl _ _).alloc (Nat.le_refl _) _
  have HZ0 := Lib.hid (show LnAt w0 z cols (.slice la ln lc) by rw [hw0]; exact LnAt.newAt W z hz cols _ _)
  have HB0 := Lib.hid b0
  have HCO := Lib.hid hc
  clear hL hO hA b0 hln hom hc
  go_enter Try.func5, Try.ntmps5
  go_upto_region 1 with (fail)
  rw [← hw0, ← hz]
  clear hw0 hz
  go_wp2_with fail
  refine (works_any w0).mono ?_
  rintro e w1 ⟨rfl, b1⟩
  have HZ1 := Lib.hid (HZ0.out.below b1)
  have HB1 := Lib.hid (HB0.out.trans (b1.mono HB0.out.size))
  clear b1 HZ0 HB0
  go_upto_region 3 with (fail)
  refine wp_region_held_drew (S := fun w' => w'.cell? ⟨z, 0, none⟩ = some (.int .u8 (cols : Nat)) ∧ w'.cell? ⟨z, 1, none⟩ = some (.slice la ln lc)) (by kernel_rfl) ?_ (fun hHeld => ?_)
  · exact HZ1.out.2
  obtain ⟨u0, hu0⟩ : ∃ y, y = w1.drew := ⟨_, rfl⟩
  have bd : Below w1.heap.size w1 u0 := by rw [hu0]; exact ⟨rfl, rfl, rfl, Nat.le_refl _, fun _ _ => rfl⟩
  have HZu := Lib.hid (HZ1.out.below bd)
  have HBu := Lib.hid (HB1.out.trans (bd.mono HB1.out.size))
  replace hHeld := HZu.out.2
  rw [← hu0]
  clear hu0 bd HZ1 HB1
  refine take_at (i := 0) (v := ?_) rfl (by kernel_rfl) (by kernel_rfl) (by kernel_rfl) (fun _ _ _ h => h) (by kernel_rfl) (by assumption) ?_ ?_
  rotate_left
  · (intro w hSw; (try dsimp only at hSw); go_simp; try with_reducible rfl)
  simp only [Act.put, List.setIfInBounds_toArray, List.set_cons_zero, List.set_cons_succ]
  refine take_at (i := 2) (v := ?_) rfl (by kernel_rfl) (by kernel_rfl) (by kernel_rfl) (fun _ _ _ h => h) (by kernel_rfl) (by assumption) ?_ ?_
  rotate_left
  · (intro w hSw; (try dsimp only at hSw); go_simp; try with_reducible rfl)
  simp only [Act.put, List.setIfInBounds_toArray, List.set_cons_zero, List.set_cons_succ]
  refine take_at (i := 3) (v := ?_) rfl (by kernel_rfl) (by kernel_rfl) (by kernel_rfl) (fun _ _ _ h => h) (by kernel_rfl) (by assumption) ?_ ?_
  rotate_left
  · (intro w hSw; (try dsimp only at hSw); go_simp; try with_reducible rfl)
  simp only [Act.put, List.setIfInBounds_toArray, List.set_cons_zero, List.set_cons_succ]
  refine do_at (i := 1) rfl (by kernel_rfl) (by kernel_rfl) (fun K hK => ?_)
  go_wp2_with fail
  refine (rrow_any _ cols _ L HCO.out (HLD.out.below HBu.out)).mono ?_
  rintro e w2 ⟨r, rfl, r2, b2⟩
  have HR2 := Lib.hid (show RowOk w2 r (rowM cols L) from ⟨r2.row, (rowM_whole cols L).1, (rowM_whole cols L).2.1, by rw [(rowM_whole cols L).2.2]; omega⟩)
  have HZ2 := Lib.hid (HZu.out.below b2)
  have HB2 := Lib.hid (HBu.out.trans (b2.mono HBu.out.size))
  clear r2 b2 HZu HBu
  go_wp2_with fail
  refine hK.out _ _ ?_ (fun hHeld => ?_)
  · exact HZ2.out.2
  clear hK K
  try simp only [Act.put, List.setIfInBounds_toArray, List.set_cons_zero, List.set_cons_succ]
  refine do_at (i := 4) rfl (by kernel_rfl) (by kernel_rfl) (fun K hK => ?_)
  go_wp2_with fail
  refine (rother_any _ cols _ _ L O HCO.out (HLD.out.below HB2.out) (HOD.out.below HB2.out)).mono ?_
  rintro e w3 ⟨s, rfl, r3, b3⟩
  have HW3 := Lib.hid (otherM_whole cols L O)
  have HR3 := Lib.hid (HR2.out.below b3)
  have HS3 := Lib.hid (show RowOk w3 s (otherM cols L O) from ⟨r3.row, HW3.out.1, fun i hi => by
    rw [← (HW3.out.2.2 i (by rw [HW3.out.2.1]; exact hi)).1]
    exact (rowM_whole cols L).2.1 i (by rw [HW3.out.2.1]; exact hi), by rw [← HW3.out.2.1, (rowM_whole cols L).2.2]; omega⟩)
  have HZ3 := Lib.hid (HZ2.out.below b3)
  have HB3 := Lib.hid (HB2.out.trans (b3.mono HB2.out.size))
  clear r3 b3 HZ2 HB2 HR2
  go_wp2_with fail
  refine hK.out _ _ ?_ (fun hHeld => ?_)
  · exact HZ3.out.2
  clear hK K
  try simp only [Act.put, List.setIfInBounds_toArray, List.set_cons_zero, List.set_cons_succ]
  refine take_at (i := 5) (v := ?_) rfl (by kernel_rfl) (by kernel_rfl) (by kernel_rfl) (fun _ _ _ h => h) (by kernel_rfl) (by assumption) ?_ ?_
  rotate_left
  · (intro w hSw; (try dsimp only at hSw); go_simp; try with_reducible rfl)
  simp only [Act.put, List.setIfInBounds_toArray, List.set_cons_zero, List.set_cons_succ]
  refine take_at (i := 6) (v := ?_) rfl (by kernel_rfl) (by kernel_rfl) (by kernel_rfl) (fun _ _ _ h => h) (by kernel_rfl) (by assumption) ?_ ?_
  rotate_left
  · (intro w hSw; (try dsimp only at hSw); go_simp; try with_reducible rfl)
  simp only [Act.put, List.setIfInBounds_toArray, List.set_cons_zero, List.set_cons_succ]
  refine wpAnyH_done (by kernel_rfl) ?_ _
  clear hHeld HZ3 HOD HLD
  have HX := Lib.hid (show ∃ R S, RowOk w3 r R ∧ RowOk w3 s S ∧ LowE R S from ⟨_, _, HR3.out, HS3.out, HW3.out.2⟩)
  clear HR3 HS3 HW3
  obtain ⟨m, hm⟩ : ∃ m, m = min len 40 := ⟨_, rfl⟩
  have HMM := Lib.hid hm
  clear hm
  go_wp2
  go_loopg [7, 8, 9] m (fun G r s i wr => ∃ k : Nat, i = .int .i64 k ∧ k ≤ m ∧ m - k ≤ G ∧ Hid (∃ R S, RowOk wr r R ∧ RowOk wr s S ∧ LowE R S) ∧ Hid (Below W.heap.size W wr))
  case atStart => exact ⟨0, rfl, Nat.zero_le _, Nat.sub_le _ _, HX, HB3⟩
  case round =>
    obtain ⟨i, rfl, him, hgk, HX, HB⟩ := hrel
    obtain ⟨R, S, hR, hS, hE⟩ := HX.out
    have HR := Lib.hid hR
    have HS := Lib.hid hS
    have HE := Lib.hid hE
    clear HX hR hS hE HB3
    by_cases hlt : i < m
    · have hil : i < len := by have := HMM.out; omega
      have hi4 : (i : Int) < 40 := by have := HMM.out; omega
      obtain ⟨b, off, rfl, hac, hok⟩ := HAC.out.at hil
      obtain ⟨a, ha⟩ : ∃ a, a = A i := ⟨_, rfl⟩
      rw [← ha] at hac hok
      have HOK := Lib.hid hok
      have HAE := Lib.hid ha
      have HLT := Lib.hid hil
      clear hac hok ha
      go_wp2_with fail
      refine (low_any wr _ _ R S HR.out.1 HS.out.1 HE.out (by have := HR.out.2.2.2; omega)).mono ?_
      rintro e v1 ⟨rfl, b1⟩
      have HR1 := Lib.hid (HR.out.below b1)
      have HS1 := Lib.hid (HS.out.below b1)
      have HB1 := Lib.hid (HB.out.trans (b1.mono HB.out.size))
      clear b1 HR HS HB
      obtain ⟨b2, off2, e2, hac, _⟩ := (HAC.out.below HB1.out).at HLT.out
      injection e2 with e2
      injection e2 with e2 e3
      subst e2 e3
      rw [← HAE.out] at hac
      obtain ⟨a0, a1, a2, a3, a4, a5, a6, a7, a8⟩ := hac
      go_wp2_with fail
      refine (HR1.out.act a HOK.out).mono ?_
      rintro e v2 ⟨r', rfl, r2, b2⟩
      have HR2 := Lib.hid r2
      have HS2 := Lib.hid (HS1.out.below b2)
      have HB2 := Lib.hid (HB1.out.trans (b2.mono HB1.out.size))
      clear r2 b2 HB1 a0 a1 a2 a3 a4 a5 a6 a7 a8
      obtain ⟨b2, off2, e2, hac, _⟩ := (HAC.out.below HB2.out).at HLT.out
      injection e2 with e2
      injection e2 with e2 e3
      subst e2 e3
      rw [← HAE.out] at hac
      obtain ⟨a0, a1, a2, a3, a4, a5, a6, a7, a8⟩ := hac
      go_wp2_with fail
      refine (HS2.out.act a HOK.out).mono ?_
      rintro e v3 ⟨s', rfl, s3, b3⟩
      have HX3 := Lib.hid (show ∃ R S, RowOk v3 r' R ∧ RowOk v3 s' S ∧ LowE R S from ⟨_, _, HR2.out.below b3, s3, does_low HE.out HR1.out.2.1 HS1.out.2.1 HR1.out.2.2.1 a⟩)
      have HB3 := Lib.hid (HB2.out.trans (b3.mono HB2.out.size))
      clear s3 b3 HR2 HS2 HB2 HR1 HS1 a0 a1 a2 a3 a4 a5 a6 a7 a8 HAE
      go_wp2
      go_roundg (m - (i + 1))
      case rel => exact ⟨i + 1, by go_num, by omega, Nat.le_refl _, HX3, HB3⟩
      case measure => omega
    · by_cases hil : i < len
      · have hi4 : ¬ (i : Int) < 40 := by have := HMM.out; omega
        go_wp2_with fail
        refine (low_any wr _ _ R S HR.out.1 HS.out.1 HE.out (by have := HR.out.2.2.2; omega)).mono ?_
        rintro e v1 ⟨rfl, b1⟩
        have HB1 := Lib.hid (HB.out.trans (b1.mono HB.out.size))
        clear b1 HB
        go_wp2
        go_ret
        exact ⟨rfl, HB1.out⟩
      · have hlen : ¬ (i : Int) < (len : Int) := by omega
        go_wp2_with fail
        refine (low_any wr _ _ R S HR.out.1 HS.out.1 HE.out (by have := HR.out.2.2.2; omega)).mono ?_
        rintro e v1 ⟨rfl, b1⟩
        have HB1 := Lib.hid (HB.out.trans (b1.mono HB.out.size))
        clear b1 HB
        go_wp2
        go_ret
        exact ⟨rfl, HB1.out⟩
theorem rowBlind_walk {H : Type} (enc : TypeId × Value → H) (base : Nat) (W : World)
    (v0 : Value) (d0 : DataW H) (p0 : List MemPlace) (ok0 : Value.okWide Try.prog W .any base 24 v0) (k0 : DataW.Trod enc Try.prog W 0 (fun _ => true) true 24 v0 d0 p0)
    (v1 : Value) (d1 : DataW H) (p1 : List MemPlace) (ok1 : Value.okWide Try.prog W .any base 22 v1) (k1 : DataW.Trod enc Try.prog W 0 (fun _ => true) true 22 v1 d1 p1)
    (v2 : Value) (d2 : DataW H) (p2 : List MemPlace) (ok2 : Value.okWide Try.prog W .any base 25 v2) (k2 : DataW.Trod enc Try.prog W 0 (fun _ => true) true 25 v2 d2 p2) :
    Calls Try.prog 5 #[v0, v1, v2] W fun e w' => e = .returned (.bool true) ∧ Below W.heap.size W w' := by
  obtain ⟨cols, u, L, rfl, hc, hL⟩ := open_line enc base W ok0 k0
  obtain ⟨O, hO⟩ := open_dss enc base W ok1 k1
  obtain ⟨a, len, cap, T, rfl, hT⟩ := open_acs enc base W ok2 k2
  exact blind_core W cols u v1 L O a len cap T hc hL hO hT
end Go.Proofs.Ythildghpgajgoaa.Lab
