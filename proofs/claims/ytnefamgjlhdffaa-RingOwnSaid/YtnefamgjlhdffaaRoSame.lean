/- What == tells of two cells; the reference's Same. -/
import Derived.Test.YtnefamgjlhdffaaRoRef
import Derived.ChangeKeysEq
import Derived.Laws.StructEq
import Derived.Test.YtnefamgjlhdffaaAtMem
namespace Go.Proofs.Ytnefamgjlhdffaa.Lab
open Go Go.RowKit

def eqC (c d : Cl) : Bool := c.k == d.k && (c.r == d.r && (c.g == d.g && c.b == d.b))
theorem eqC_iff (c d : Cl) : eqC c d = true ↔ c = d := by
  obtain ⟨a, b, e, f⟩ := c
  obtain ⟨a', b', e', f'⟩ := d
  simp [eqC]
theorem fieldsC : (Try.prog.fieldsOf 42).toList = [{ name := "Kind", type := 5, offset := 0, embedded := false, tag := "", pkgPath := "", byteOffset := 0 }, { name := "R", type := 5, offset := 1, embedded := false, tag := "", pkgPath := "", byteOffset := 1 }, { name := "G", type := 5, offset := 2, embedded := false, tag := "", pkgPath := "", byteOffset := 2 }, { name := "B", type := 5, offset := 3, embedded := false, tag := "", pkgPath := "", byteOffset := 3 }] := by kernel_rfl
theorem fieldsA : (Try.prog.fieldsOf 45).toList = [{ name := "Fg", type := 42, offset := 0, embedded := false, tag := "", pkgPath := "", byteOffset := 0 }, { name := "Bg", type := 42, offset := 4, embedded := false, tag := "", pkgPath := "", byteOffset := 4 }, { name := "Flags", type := 43, offset := 8, embedded := false, tag := "", pkgPath := "", byteOffset := 8 }] := by kernel_rfl
theorem eqCol (m : Nat) (w : World) (c d : Cl) : (Op.equalIn (m + 1 + 1) 42 (colV c) (colV d)).run Try.prog w = .ok (eqC c d) w := by
  obtain ⟨a, b, e, f⟩ := c
  obtain ⟨a', b', e', f'⟩ := d
  rw [show m + 1 + 1 = (m + 1) + 1 from rfl, run_equalIn_struct w (m + 1) _ _ _ (by kernel_rfl) Try.stoodInHeld42, fieldsC]
  simp only [Op.eqFields]
  go_simp
  by_cases h1 : a = a' <;> by_cases h2 : b = b' <;> by_cases h3 : e = e' <;> by_cases h4 : f = f' <;> simp [eqC, h1, h2, h3, h4]
def eqA (a b : At) : Bool := eqC a.fg b.fg && (eqC a.bg b.bg && a.fl == b.fl)
theorem eqA_iff (a b : At) : eqA a b = true ↔ a = b := by
  obtain ⟨c, d, f⟩ := a
  obtain ⟨c', d', f'⟩ := b
  simp [eqA, eqC_iff]
theorem eqA_self (a : At) : eqA a a = true := (eqA_iff a a).2 rfl
theorem eqA_dec (a b : At) : eqA a b = decide (a = b) := by
  by_cases h : a = b
  · rw [decide_eq_true h]; exact (eqA_iff a b).2 h
  · rw [decide_eq_false h]
    cases he : eqA a b with
    | false => rfl
    | true => exact absurd ((eqA_iff a b).1 he) h
theorem eqAttN (m : Nat) (w : World) (a b : At) : (Op.equalIn (m + 3) 45 (attV a) (attV b)).run Try.prog w = .ok (eqA a b) w := by
  obtain ⟨c, d, f⟩ := a
  obtain ⟨c', d', f'⟩ := b
  have h1 := eqCol m w c c'
  have h2 := eqCol m w d d'
  rw [show m + 3 = (m + 2) + 1 from rfl, run_equalIn_struct w (m + 2) _ _ _ (by kernel_rfl) Try.stoodInHeld45, fieldsA]
  simp only [Op.eqFields]
  go_simp
  by_cases e0 : c.k = c'.k
  case neg => simp [eqA, eqC, e0]
  by_cases e1 : c.r = c'.r
  case neg => simp [eqA, eqC, e0, e1]
  by_cases e2 : c.g = c'.g
  case neg => simp [eqA, eqC, e0, e1, e2]
  by_cases e3 : c.b = c'.b
  case neg => simp [eqA, eqC, e0, e1, e2, e3]
  by_cases e4 : d.k = d'.k
  case neg => simp [eqA, eqC, e0, e1, e2, e3, e4]
  by_cases e5 : d.r = d'.r
  case neg => simp [eqA, eqC, e0, e1, e2, e3, e4, e5]
  by_cases e6 : d.g = d'.g
  case neg => simp [eqA, eqC, e0, e1, e2, e3, e4, e5, e6]
  by_cases e7 : d.b = d'.b
  case neg => simp [eqA, eqC, e0, e1, e2, e3, e4, e5, e6, e7]
  by_cases e8 : f = f'
  case neg =>
    have e9 : ¬ ((f : Int) = (f' : Int)) := by omega
    simp [eqA, eqC, e0, e1, e2, e3, e4, e5, e6, e7, e8, e9]
  subst e8
  simp [eqA, eqC, e0, e1, e2, e3, e4, e5, e6, e7]

/-- Is an attribute right? -/

theorem fieldsK : (Try.prog.fieldsOf 47).toList = [{ name := "Rune", type := 21, offset := 0, embedded := false, tag := "", pkgPath := "", byteOffset := 0 }, { name := "Marks", type := 40, offset := 1, embedded := false, tag := "", pkgPath := "", byteOffset := 4 }, { name := "Kind", type := 5, offset := 3, embedded := false, tag := "", pkgPath := "", byteOffset := 12 }, { name := "Attr", type := 45, offset := 4, embedded := false, tag := "", pkgPath := "", byteOffset := 14 }, { name := "Label", type := 25, offset := 13, embedded := false, tag := "", pkgPath := "", byteOffset := 24 }] := by kernel_rfl
theorem infoI32 : (Try.prog.info? 21).map (fun i => (i.zero, i.size, i.bytes)) = some (some (.int .i32 0), 1, 4) := by kernel_rfl
theorem eqMarks (m : Nat) (w : World) (a b a' b' : Int) : (Op.equalIn (m + 2) 40 (.agg #[.int .i32 a, .int .i32 b]) (.agg #[.int .i32 a', .int .i32 b'])).run Try.prog w = .ok (a == a' && b == b') w := by
  obtain ⟨ib, hi, _⟩ := info_parts infoI32
  have hc : Try.prog.cellsOf 21 = 1 := by kernel_rfl
  rw [show m + 2 = (m + 1) + 1 from rfl, run_equalIn_array w (m + 1) _ _ Try.underlying40 hi, hc]
  simp only [show List.range 2 = [0, 1] from rfl, Op.eqItems]
  go_simp
  by_cases h1 : a = a' <;> by_cases h2 : b = b' <;> simp [h1, h2]
theorem eqCel (w : World) (c d : Cel) : (Op.equalIn 10000 47 (celV c) (celV d)).run Try.prog w = .ok (decide (c = d)) w := by
  obtain ⟨r, x, y, k, a, l⟩ := c
  obtain ⟨r', x', y', k', a', l'⟩ := d
  obtain ⟨⟨a0, a1, a2, a3⟩, ⟨b0, b1, b2, b3⟩, f⟩ := a
  obtain ⟨⟨a0', a1', a2', a3'⟩, ⟨b0', b1', b2', b3'⟩, f'⟩ := a'
  have h1 := eqMarks 9997 w x y x' y'
  rw [show (10000 : Nat) = 9999 + 1 from rfl, run_equalIn_struct w 9999 _ _ _ (by kernel_rfl) Try.stoodInHeld47, fieldsK]
  simp only [Op.eqFields]
  go_simp
  by_cases e0 : r = r'
  case neg => simp [e0]
  by_cases e1 : x = x'
  case neg => simp [e0, e1]
  by_cases e2 : y = y'
  case neg => simp [e0, e1, e2]
  by_cases e3 : k = k'
  case neg => simp [e0, e1, e2, e3]
  by_cases e4 : a0 = a0'
  case neg => simp [e0, e1, e2, e3, e4]
  by_cases e5 : a1 = a1'
  case neg => simp [e0, e1, e2, e3, e4, e5]
  by_cases e6 : a2 = a2'
  case neg => simp [e0, e1, e2, e3, e4, e5, e6]
  by_cases e7 : a3 = a3'
  case neg => simp [e0, e1, e2, e3, e4, e5, e6, e7]
  by_cases e8 : b0 = b0'
  case neg => simp [e0, e1, e2, e3, e4, e5, e6, e7, e8]
  by_cases e9 : b1 = b1'
  case neg => simp [e0, e1, e2, e3, e4, e5, e6, e7, e8, e9]
  by_cases e10 : b2 = b2'
  case neg => simp [e0, e1, e2, e3, e4, e5, e6, e7, e8, e9, e10]
  by_cases e11 : b3 = b3'
  case neg => simp [e0, e1, e2, e3, e4, e5, e6, e7, e8, e9, e10, e11]
  by_cases e12 : f = f'
  case neg =>
    have ef : ¬ ((f : Int) = (f' : Int)) := by omega
    simp [e0, e1, e2, e3, e4, e5, e6, e7, e8, e9, e10, e11, e12, ef]
  by_cases e13 : l = l'
  case neg => simp [e0, e1, e2, e3, e4, e5, e6, e7, e8, e9, e10, e11, e12, e13]
  simp [e0, e1, e2, e3, e4, e5, e6, e7, e8, e9, e10, e11, e12, e13]
set_option maxHeartbeats 8000000 in
set_option maxRecDepth 100000 in
theorem rsame_any (w : World) (u v : Value) (R S : Cls) (hu : RowIn w u R) (hv : RowIn w v S) (hl : R.length ≤ 10000) : Calls Try.prog 27 #[u, v] w fun e w' => e = .returned (.bool (decide (R = S))) ∧ Below w.heap.size w w' := by
  obtain ⟨ua, uc, rfl⟩ := hu.shape
  obtain ⟨va, vc, rfl⟩ := hv.shape
  obtain ⟨n, hn⟩ : ∃ n, n = R.length := ⟨_, rfl⟩
  obtain ⟨m, hm⟩ : ∃ m, m = S.length := ⟨_, rfl⟩
  have HN := Lib.hid hn
  have HM := Lib.hid hm
  have HU := Lib.hid hu
  have HV := Lib.hid hv
  rw [← hn] at HU hl ⊢
  rw [← hm] at HV ⊢
  clear hn hm hu hv
  by_cases hnm : n = m
  rotate_left
  · have e1 : ((n : Int) != (m : Int)) = true := by simp; omega
    have HD := Lib.hid (show decide (R = S) = false from decide_eq_false (fun e => hnm (by rw [HN.out, HM.out, e])))
    go_enter Try.func27, Try.ntmps27
    go_wp2
    go_ret
    exact ⟨by rw [HD.out]; rfl, Below.refl _ _⟩
  subst hnm
  go_enter Try.func27, Try.ntmps27
  go_wp2
  go_loopg [5] n (fun G i wr => ∃ j : Nat, i = .int .i64 j ∧ j ≤ n ∧ n - j ≤ G ∧ Hid (∀ t, t < j → gc R t = gc S t) ∧ Hid (Below w.heap.size w wr))
  case atStart => exact ⟨0, rfl, Nat.zero_le _, Nat.sub_le _ _, Lib.hid (fun t ht => absurd ht (Nat.not_lt_zero _)), Lib.hid (Below.refl _ _)⟩
  case round =>
    obtain ⟨j, rfl, hjn, hgj, HE, HB⟩ := hrel
    by_cases hlt : j < n
    · obtain ⟨g1, o1, c1, e, _, hg1, hC1⟩ := HU.out.open (by rw [← HN.out]; omega)
      injection e with e1 e2 e3
      subst e1
      clear e2 e3
      obtain ⟨g2, o2, c2, e, _, hg2, hC2⟩ := HV.out.open (by rw [← HM.out]; omega)
      injection e with e1 e2 e3
      subst e1
      clear e2 e3
      have hc := hC1 j (by rw [← HN.out]; exact hlt)
      have hd := hC2 j (by rw [← HM.out]; exact hlt)
      obtain ⟨c, hce⟩ : ∃ c, c = gc R j := ⟨_, rfl⟩
      obtain ⟨d, hde⟩ : ∃ d, d = gc S j := ⟨_, rfl⟩
      have HCE := Lib.hid hce
      have HDE := Lib.hid hde
      rw [← hce] at hc
      rw [← hde] at hd
      have HKEEP := Lib.hid (show ∀ W, Below w.heap.size w W → (fun w' => w'.cell? ⟨g1, o1 + j * 14, none⟩ = some (.int .i32 c.ru) ∧ w'.cell? ⟨g1, o1 + j * 14 + 1, none⟩ = some (.int .i32 c.m0) ∧ w'.cell? ⟨g1, o1 + j * 14 + 2, none⟩ = some (.int .i32 c.m1) ∧ w'.cell? ⟨g1, o1 + j * 14 + 3, none⟩ = some (.int .u8 c.k) ∧ w'.cell? ⟨g1, o1 + j * 14 + 4, none⟩ = some (.int .u8 c.a.fg.k) ∧ w'.cell? ⟨g1, o1 + j * 14 + 5, none⟩ = some (.int .u8 c.a.fg.r) ∧ w'.cell? ⟨g1, o1 + j * 14 + 6, none⟩ = some (.int .u8 c.a.fg.g) ∧ w'.cell? ⟨g1, o1 + j * 14 + 7, none⟩ = some (.int .u8 c.a.fg.b) ∧ w'.cell? ⟨g1, o1 + j * 14 + 8, none⟩ = some (.int .u8 c.a.bg.k) ∧ w'.cell? ⟨g1, o1 + j * 14 + 9, none⟩ = some (.int .u8 c.a.bg.r) ∧ w'.cell? ⟨g1, o1 + j * 14 + 10, none⟩ = some (.int .u8 c.a.bg.g) ∧ w'.cell? ⟨g1, o1 + j * 14 + 11, none⟩ = some (.int .u8 c.a.bg.b) ∧ w'.cell? ⟨g1, o1 + j * 14 + 12, none⟩ = some (.int .u16 (c.a.fl : Nat)) ∧ w'.cell? ⟨g1, o1 + j * 14 + 13, none⟩ = some (.int .u8 c.l) ∧ w'.cell? ⟨g2, o2 + j * 14, none⟩ = some (.int .i32 d.ru) ∧ w'.cell? ⟨g2, o2 + j * 14 + 1, none⟩ = some (.int .i32 d.m0) ∧ w'.cell? ⟨g2, o2 + j * 14 + 2, none⟩ = some (.int .i32 d.m1) ∧ w'.cell? ⟨g2, o2 + j * 14 + 3, none⟩ = some (.int .u8 d.k) ∧ w'.cell? ⟨g2, o2 + j * 14 + 4, none⟩ = some (.int .u8 d.a.fg.k) ∧ w'.cell? ⟨g2, o2 + j * 14 + 5, none⟩ = some (.int .u8 d.a.fg.r) ∧ w'.cell? ⟨g2, o2 + j * 14 + 6, none⟩ = some (.int .u8 d.a.fg.g) ∧ w'.cell? ⟨g2, o2 + j * 14 + 7, none⟩ = some (.int .u8 d.a.fg.b) ∧ w'.cell? ⟨g2, o2 + j * 14 + 8, none⟩ = some (.int .u8 d.a.bg.k) ∧ w'.cell? ⟨g2, o2 + j * 14 + 9, none⟩ = some (.int .u8 d.a.bg.r) ∧ w'.cell? ⟨g2, o2 + j * 14 + 10, none⟩ = some (.int .u8 d.a.bg.g) ∧ w'.cell? ⟨g2, o2 + j * 14 + 11, none⟩ = some (.int .u8 d.a.bg.b) ∧ w'.cell? ⟨g2, o2 + j * 14 + 12, none⟩ = some (.int .u16 (d.a.fl : Nat)) ∧ w'.cell? ⟨g2, o2 + j * 14 + 13, none⟩ = some (.int .u8 d.l)) W from fun W hb => by
        obtain ⟨a0, a1, a2, a3, a4, a5, a6, a7, a8, a9, a10, a11, a12, a13⟩ := hc.same (hb.block g1 hg1)
        obtain ⟨b0, b1, b2, b3, b4, b5, b6, b7, b8, b9, b10, b11, b12, b13⟩ := hd.same (hb.block g2 hg2)
        exact ⟨a0, a1, a2, a3, a4, a5, a6, a7, a8, a9, a10, a11, a12, a13, b0, b1, b2, b3, b4, b5, b6, b7, b8, b9, b10, b11, b12, b13⟩)
      dsimp only at HKEEP
      have hq := fun w => eqCel w c d
      clear hC1 hC2 hce hde hg1 hg2 hc hd
      by_cases hcd : c = d
      · have hdt : decide (c = d) = true := decide_eq_true hcd
        rw [hdt] at hq
        have HCD := Lib.hid hcd
        clear hdt hcd
        go_upto_region 6 with (fail)
        refine wp_region_held_drew (S := fun w' => w'.cell? ⟨g1, o1 + j * 14, none⟩ = some (.int .i32 c.ru) ∧ w'.cell? ⟨g1, o1 + j * 14 + 1, none⟩ = some (.int .i32 c.m0) ∧ w'.cell? ⟨g1, o1 + j * 14 + 2, none⟩ = some (.int .i32 c.m1) ∧ w'.cell? ⟨g1, o1 + j * 14 + 3, none⟩ = some (.int .u8 c.k) ∧ w'.cell? ⟨g1, o1 + j * 14 + 4, none⟩ = some (.int .u8 c.a.fg.k) ∧ w'.cell? ⟨g1, o1 + j * 14 + 5, none⟩ = some (.int .u8 c.a.fg.r) ∧ w'.cell? ⟨g1, o1 + j * 14 + 6, none⟩ = some (.int .u8 c.a.fg.g) ∧ w'.cell? ⟨g1, o1 + j * 14 + 7, none⟩ = some (.int .u8 c.a.fg.b) ∧ w'.cell? ⟨g1, o1 + j * 14 + 8, none⟩ = some (.int .u8 c.a.bg.k) ∧ w'.cell? ⟨g1, o1 + j * 14 + 9, none⟩ = some (.int .u8 c.a.bg.r) ∧ w'.cell? ⟨g1, o1 + j * 14 + 10, none⟩ = some (.int .u8 c.a.bg.g) ∧ w'.cell? ⟨g1, o1 + j * 14 + 11, none⟩ = some (.int .u8 c.a.bg.b) ∧ w'.cell? ⟨g1, o1 + j * 14 + 12, none⟩ = some (.int .u16 (c.a.fl : Nat)) ∧ w'.cell? ⟨g1, o1 + j * 14 + 13, none⟩ = some (.int .u8 c.l) ∧ w'.cell? ⟨g2, o2 + j * 14, none⟩ = some (.int .i32 d.ru) ∧ w'.cell? ⟨g2, o2 + j * 14 + 1, none⟩ = some (.int .i32 d.m0) ∧ w'.cell? ⟨g2, o2 + j * 14 + 2, none⟩ = some (.int .i32 d.m1) ∧ w'.cell? ⟨g2, o2 + j * 14 + 3, none⟩ = some (.int .u8 d.k) ∧ w'.cell? ⟨g2, o2 + j * 14 + 4, none⟩ = some (.int .u8 d.a.fg.k) ∧ w'.cell? ⟨g2, o2 + j * 14 + 5, none⟩ = some (.int .u8 d.a.fg.r) ∧ w'.cell? ⟨g2, o2 + j * 14 + 6, none⟩ = some (.int .u8 d.a.fg.g) ∧ w'.cell? ⟨g2, o2 + j * 14 + 7, none⟩ = some (.int .u8 d.a.fg.b) ∧ w'.cell? ⟨g2, o2 + j * 14 + 8, none⟩ = some (.int .u8 d.a.bg.k) ∧ w'.cell? ⟨g2, o2 + j * 14 + 9, none⟩ = some (.int .u8 d.a.bg.r) ∧ w'.cell? ⟨g2, o2 + j * 14 + 10, none⟩ = some (.int .u8 d.a.bg.g) ∧ w'.cell? ⟨g2, o2 + j * 14 + 11, none⟩ = some (.int .u8 d.a.bg.b) ∧ w'.cell? ⟨g2, o2 + j * 14 + 12, none⟩ = some (.int .u16 (d.a.fl : Nat)) ∧ w'.cell? ⟨g2, o2 + j * 14 + 13, none⟩ = some (.int .u8 d.l)) (by kernel_rfl) ?_ (fun hHeld => ?_)
        · exact HKEEP.out _ (HB.out.drew)
        obtain ⟨u0, hu0⟩ : ∃ u0, u0 = wr.drew := ⟨_, rfl⟩
        have HX := Lib.hid (show Below w.heap.size w u0 by rw [hu0]; exact HB.out.drew)
        replace hHeld := HKEEP.out _ HX.out
        rw [← hu0]
        clear hu0
        refine tk 0 rfl (fun w hSw => by (try dsimp only at hSw); go_simp; try with_reducible rfl) ?_
        go_frame
        refine tk 1 rfl (fun w hSw => by (try dsimp only at hSw); go_simp; try with_reducible rfl) ?_
        go_frame
        refine tk 2 rfl (fun w hSw => by (try dsimp only at hSw); go_simp; try with_reducible rfl) ?_
        go_frame
        refine tk 3 rfl (fun w hSw => by (try dsimp only at hSw); go_simp; try with_reducible rfl) ?_
        go_frame
        refine tk 4 rfl (fun w hSw => by (try dsimp only at hSw); go_simp; try with_reducible rfl) ?_
        go_frame
        refine tk 5 rfl (fun w hSw => by (try dsimp only at hSw); go_simp; try with_reducible rfl) ?_
        go_frame
        refine tk 6 rfl (fun w hSw => by (try dsimp only at hSw); go_simp; try with_reducible rfl) ?_
        go_frame
        refine tk 7 rfl (fun w hSw => by (try dsimp only at hSw); go_simp; try with_reducible rfl) ?_
        go_frame
        refine tk 8 rfl (fun w hSw => by (try dsimp only at hSw); go_simp; try with_reducible rfl) ?_
        go_frame
        refine wpAnyH_done (by kernel_rfl) ?_ _
        have HEN := Lib.hid (show ∀ t, t < j + 1 → gc R t = gc S t from fun t ht => by
          by_cases e : t = j
          · rw [e, ← HCE.out, ← HDE.out, HCD.out]
          · exact HE.out t (by omega))
        clear hHeld HKEEP hq HB HE
        go_wp2
        go_roundg (n - (j + 1))
        case rel => exact ⟨j + 1, by go_num, by omega, Nat.le_refl _, HEN, HX⟩
        case measure => omega
      · have hdt : decide (c = d) = false := decide_eq_false hcd
        rw [hdt] at hq
        have HCD := Lib.hid hcd
        clear hdt hcd
        go_upto_region 6 with (fail)
        refine wp_region_held_drew (S := fun w' => w'.cell? ⟨g1, o1 + j * 14, none⟩ = some (.int .i32 c.ru) ∧ w'.cell? ⟨g1, o1 + j * 14 + 1, none⟩ = some (.int .i32 c.m0) ∧ w'.cell? ⟨g1, o1 + j * 14 + 2, none⟩ = some (.int .i32 c.m1) ∧ w'.cell? ⟨g1, o1 + j * 14 + 3, none⟩ = some (.int .u8 c.k) ∧ w'.cell? ⟨g1, o1 + j * 14 + 4, none⟩ = some (.int .u8 c.a.fg.k) ∧ w'.cell? ⟨g1, o1 + j * 14 + 5, none⟩ = some (.int .u8 c.a.fg.r) ∧ w'.cell? ⟨g1, o1 + j * 14 + 6, none⟩ = some (.int .u8 c.a.fg.g) ∧ w'.cell? ⟨g1, o1 + j * 14 + 7, none⟩ = some (.int .u8 c.a.fg.b) ∧ w'.cell? ⟨g1, o1 + j * 14 + 8, none⟩ = some (.int .u8 c.a.bg.k) ∧ w'.cell? ⟨g1, o1 + j * 14 + 9, none⟩ = some (.int .u8 c.a.bg.r) ∧ w'.cell? ⟨g1, o1 + j * 14 + 10, none⟩ = some (.int .u8 c.a.bg.g) ∧ w'.cell? ⟨g1, o1 + j * 14 + 11, none⟩ = some (.int .u8 c.a.bg.b) ∧ w'.cell? ⟨g1, o1 + j * 14 + 12, none⟩ = some (.int .u16 (c.a.fl : Nat)) ∧ w'.cell? ⟨g1, o1 + j * 14 + 13, none⟩ = some (.int .u8 c.l) ∧ w'.cell? ⟨g2, o2 + j * 14, none⟩ = some (.int .i32 d.ru) ∧ w'.cell? ⟨g2, o2 + j * 14 + 1, none⟩ = some (.int .i32 d.m0) ∧ w'.cell? ⟨g2, o2 + j * 14 + 2, none⟩ = some (.int .i32 d.m1) ∧ w'.cell? ⟨g2, o2 + j * 14 + 3, none⟩ = some (.int .u8 d.k) ∧ w'.cell? ⟨g2, o2 + j * 14 + 4, none⟩ = some (.int .u8 d.a.fg.k) ∧ w'.cell? ⟨g2, o2 + j * 14 + 5, none⟩ = some (.int .u8 d.a.fg.r) ∧ w'.cell? ⟨g2, o2 + j * 14 + 6, none⟩ = some (.int .u8 d.a.fg.g) ∧ w'.cell? ⟨g2, o2 + j * 14 + 7, none⟩ = some (.int .u8 d.a.fg.b) ∧ w'.cell? ⟨g2, o2 + j * 14 + 8, none⟩ = some (.int .u8 d.a.bg.k) ∧ w'.cell? ⟨g2, o2 + j * 14 + 9, none⟩ = some (.int .u8 d.a.bg.r) ∧ w'.cell? ⟨g2, o2 + j * 14 + 10, none⟩ = some (.int .u8 d.a.bg.g) ∧ w'.cell? ⟨g2, o2 + j * 14 + 11, none⟩ = some (.int .u8 d.a.bg.b) ∧ w'.cell? ⟨g2, o2 + j * 14 + 12, none⟩ = some (.int .u16 (d.a.fl : Nat)) ∧ w'.cell? ⟨g2, o2 + j * 14 + 13, none⟩ = some (.int .u8 d.l)) (by kernel_rfl) ?_ (fun hHeld => ?_)
        · exact HKEEP.out _ (HB.out.drew)
        obtain ⟨u0, hu0⟩ : ∃ u0, u0 = wr.drew := ⟨_, rfl⟩
        have HX := Lib.hid (show Below w.heap.size w u0 by rw [hu0]; exact HB.out.drew)
        replace hHeld := HKEEP.out _ HX.out
        rw [← hu0]
        clear hu0
        refine tk 0 rfl (fun w hSw => by (try dsimp only at hSw); go_simp; try with_reducible rfl) ?_
        go_frame
        refine tk 1 rfl (fun w hSw => by (try dsimp only at hSw); go_simp; try with_reducible rfl) ?_
        go_frame
        refine tk 2 rfl (fun w hSw => by (try dsimp only at hSw); go_simp; try with_reducible rfl) ?_
        go_frame
        refine tk 3 rfl (fun w hSw => by (try dsimp only at hSw); go_simp; try with_reducible rfl) ?_
        go_frame
        refine tk 4 rfl (fun w hSw => by (try dsimp only at hSw); go_simp; try with_reducible rfl) ?_
        go_frame
        refine tk 5 rfl (fun w hSw => by (try dsimp only at hSw); go_simp; try with_reducible rfl) ?_
        go_frame
        refine tk 6 rfl (fun w hSw => by (try dsimp only at hSw); go_simp; try with_reducible rfl) ?_
        go_frame
        refine tk 7 rfl (fun w hSw => by (try dsimp only at hSw); go_simp; try with_reducible rfl) ?_
        go_frame
        refine tk 8 rfl (fun w hSw => by (try dsimp only at hSw); go_simp; try with_reducible rfl) ?_
        go_frame
        refine wpAnyH_done (by kernel_rfl) ?_ _
        have HD := Lib.hid (show decide (R = S) = false from decide_eq_false (fun e => HCD.out (by rw [HCE.out, HDE.out, e])))
        clear hHeld HKEEP hq HB HE
        go_wp2
        go_ret
        exact ⟨by rw [HD.out]; rfl, HX.out⟩
    · have hjn' : j = n := by omega
      have HD := Lib.hid (show decide (R = S) = true from decide_eq_true (ext_gc (by rw [← HN.out, ← HM.out]) fun i hi => HE.out i (by rw [← HN.out] at hi; omega)))
      go_wp2
      go_ret
      exact ⟨by rw [HD.out]; rfl, HB.out⟩
end Go.Proofs.Ytnefamgjlhdffaa.Lab
