/- What == tells of two attributes; which attributes are right. -/
import Derived.Test.YtlmhnebgkginkaaDoorAtSmall
import Derived.Laws.StructEq
namespace Go.Proofs.YtlmhnebgkginkaaDoor.Lab
open Go Go.RowKit

def eqC (c d : Cl) : Bool := c.k == d.k && (c.r == d.r && (c.g == d.g && c.b == d.b))
theorem eqC_iff (c d : Cl) : eqC c d = true ↔ c = d := by
  obtain ⟨a, b, e, f⟩ := c
  obtain ⟨a', b', e', f'⟩ := d
  simp [eqC]
theorem fieldsC : (Tryd.prog.fieldsOf 23).toList = [{ name := "Kind", type := 5, offset := 0, embedded := false, tag := "", pkgPath := "", byteOffset := 0 }, { name := "R", type := 5, offset := 1, embedded := false, tag := "", pkgPath := "", byteOffset := 1 }, { name := "G", type := 5, offset := 2, embedded := false, tag := "", pkgPath := "", byteOffset := 2 }, { name := "B", type := 5, offset := 3, embedded := false, tag := "", pkgPath := "", byteOffset := 3 }] := by kernel_rfl
theorem fieldsA : (Tryd.prog.fieldsOf 26).toList = [{ name := "Fg", type := 23, offset := 0, embedded := false, tag := "", pkgPath := "", byteOffset := 0 }, { name := "Bg", type := 23, offset := 4, embedded := false, tag := "", pkgPath := "", byteOffset := 4 }, { name := "Flags", type := 24, offset := 8, embedded := false, tag := "", pkgPath := "", byteOffset := 8 }] := by kernel_rfl
theorem eqCol (m : Nat) (w : World) (c d : Cl) : (Op.equalIn (m + 1 + 1) 23 (colV c) (colV d)).run Tryd.prog w = .ok (eqC c d) w := by
  obtain ⟨a, b, e, f⟩ := c
  obtain ⟨a', b', e', f'⟩ := d
  rw [show m + 1 + 1 = (m + 1) + 1 from rfl, run_equalIn_struct w (m + 1) _ _ _ (by kernel_rfl) Tryd.stoodInHeld23, fieldsC]
  simp only [Op.eqFields]
  go_simp
  by_cases h1 : a = a' <;> by_cases h2 : b = b' <;> by_cases h3 : e = e' <;> by_cases h4 : f = f' <;> simp [eqC, h1, h2, h3, h4]
def eqA (a b : At) : Bool := eqC a.fg b.fg && (eqC a.bg b.bg && a.fl == b.fl)
theorem eqA_iff (a b : At) : eqA a b = true ↔ a = b := by
  obtain ⟨c, d, f⟩ := a
  obtain ⟨c', d', f'⟩ := b
  simp [eqA, eqC_iff]
theorem eqA_self (a : At) : eqA a a = true := (eqA_iff a a).2 rfl
theorem eqA_dec (a b : At) : eqA a b = decide (a = b) := by
  by_cases h : a = b
  · rw [decide_eq_true h]; exact (eqA_iff a b).2 h
  · rw [decide_eq_false h]
    cases he : eqA a b with
    | false => rfl
    | true => exact absurd ((eqA_iff a b).1 he) h
theorem eqAtt (w : World) (a b : At) : (Op.equalIn 10000 26 (attV a) (attV b)).run Tryd.prog w = .ok (eqA a b) w := by
  obtain ⟨c, d, f⟩ := a
  obtain ⟨c', d', f'⟩ := b
  have h1 := eqCol 9997 w c c'
  have h2 := eqCol 9997 w d d'
  rw [show (10000 : Nat) = 9999 + 1 from rfl, run_equalIn_struct w 9999 _ _ _ (by kernel_rfl) Tryd.stoodInHeld26, fieldsA]
  simp only [Op.eqFields]
  go_simp
  by_cases e0 : c.k = c'.k
  case neg => simp [eqA, eqC, e0]
  by_cases e1 : c.r = c'.r
  case neg => simp [eqA, eqC, e0, e1]
  by_cases e2 : c.g = c'.g
  case neg => simp [eqA, eqC, e0, e1, e2]
  by_cases e3 : c.b = c'.b
  case neg => simp [eqA, eqC, e0, e1, e2, e3]
  by_cases e4 : d.k = d'.k
  case neg => simp [eqA, eqC, e0, e1, e2, e3, e4]
  by_cases e5 : d.r = d'.r
  case neg => simp [eqA, eqC, e0, e1, e2, e3, e4, e5]
  by_cases e6 : d.g = d'.g
  case neg => simp [eqA, eqC, e0, e1, e2, e3, e4, e5, e6]
  by_cases e7 : d.b = d'.b
  case neg => simp [eqA, eqC, e0, e1, e2, e3, e4, e5, e6, e7]
  by_cases e8 : f = f'
  case neg =>
    have e9 : ¬ ((f : Int) = (f' : Int)) := by omega
    simp [eqA, eqC, e0, e1, e2, e3, e4, e5, e6, e7, e8, e9]
  subst e8
  simp [eqA, eqC, e0, e1, e2, e3, e4, e5, e6, e7]

/-- Is an attribute right? -/
def mayM (c : Cl) : Bool := if c.k = 0 then eqC c Cl.zero else if c.k = 1 then c.g == 0 && c.b == 0 else c.k == 2
def rightM (a : At) : Bool := mayM a.fg && (mayM a.bg && ((a.fl &&& 65024) == 0 && (a.fl &&& 264) != 264))
set_option maxHeartbeats 1000000 in
theorem may_any (w : World) (c : Cl) : Calls Tryd.prog 35 #[colV c] w fun e w' => e = .returned (.bool (mayM c)) ∧ Below w.heap.size w w' := by
  have HB := Lib.hid (show Below w.heap.size w (w.alloc (.cells #[.int .u8 c.k, .int .u8 c.r, .int .u8 c.g, .int .u8 c.b] 23)) from (Below.refl _ _).alloc (Nat.le_refl _) _)
  by_cases h0 : c.k = 0
  · have HM := Lib.hid (show mayM c = eqC c Cl.zero by unfold mayM; rw [if_pos h0])
    have he := fun w => eqCol 9998 w c Cl.zero
    have h0' : (c.k == 0) = true := by simp [h0]
    clear h0
    go_enter Tryd.func35, Tryd.ntmps35
    go_wp2
    go_ret
    exact ⟨by rw [HM.out]; rfl, HB.out⟩
  · have h0' : (c.k == 0) = false := by simp [h0]
    by_cases h1 : c.k = 1
    · have HM := Lib.hid (show mayM c = (c.g == 0 && c.b == 0) by unfold mayM; rw [if_neg h0, if_pos h1])
      have h1' : (c.k == 1) = true := by simp [h1]
      by_cases hg : c.g = 0
      · have hg' : (c.g == 0) = true := by simp [hg]
        have HM2 := Lib.hid (show mayM c = (c.b == 0) by rw [HM.out, hg']; rfl)
        clear h0 h1 hg
        go_enter Tryd.func35, Tryd.ntmps35
        go_wp2
        go_ret
        exact ⟨by rw [HM2.out]; rfl, HB.out⟩
      · have hg' : (c.g == 0) = false := by simp [hg]
        have HM2 := Lib.hid (show mayM c = false by rw [HM.out, hg']; rfl)
        clear h0 h1 hg
        go_enter Tryd.func35, Tryd.ntmps35
        go_wp2
        go_ret
        exact ⟨by rw [HM2.out]; rfl, HB.out⟩
    · have h1' : (c.k == 1) = false := by simp [h1]
      have HM := Lib.hid (show mayM c = (c.k == 2) by unfold mayM; rw [if_neg h0, if_neg h1])
      clear h0 h1
      go_enter Tryd.func35, Tryd.ntmps35
      go_wp2
      go_ret
      exact ⟨by rw [HM.out]; rfl, HB.out⟩
theorem beq_cast (a b : Nat) : (((a : Nat) : Int) == ((b : Nat) : Int)) = (a == b) := by
  rw [Bool.eq_iff_iff, beq_iff_eq, beq_iff_eq]
  omega
theorem bne_cast (a b : Nat) : (((a : Nat) : Int) != ((b : Nat) : Int)) = (a != b) := by
  unfold bne
  rw [beq_cast]
set_option maxHeartbeats 2000000 in
theorem right_any (w : World) (a : At) (ha : a.fl < 65536) : Calls Tryd.prog 15 #[attV a] w fun e w' => e = .returned (.bool (rightM a)) ∧ Below w.heap.size w w' := by
  obtain ⟨w0, hw0⟩ : ∃ w0, w0 = w.alloc (.cells #[.int .u8 a.fg.k, .int .u8 a.fg.r, .int .u8 a.fg.g, .int .u8 a.fg.b, .int .u8 a.bg.k, .int .u8 a.bg.r, .int .u8 a.bg.g, .int .u8 a.bg.b, .int .u16 (a.fl : Nat)] 26) := ⟨_, rfl⟩
  have HB := Lib.hid (show Below w.heap.size w w0 by rw [hw0]; exact (Below.refl _ _).alloc (Nat.le_refl _) _)
  have HA := Lib.hid (show AtAt w0 w.heap.size a by rw [hw0]; exact AtAt.newAt w _ rfl a _)
  have b1 : bits .and .u16 (a.fl : Int) 264 = ((a.fl &&& 264 : Nat) : Int) := u16_and_nat a.fl 264 ha (by decide)
  have b2 : bits .andNot .u16 (a.fl : Int) 511 = ((a.fl &&& 65024 : Nat) : Int) := u16_andNot_nat a.fl 511 ha (by decide)
  have HR := Lib.hid (show rightM a = (mayM a.fg && (mayM a.bg && ((a.fl &&& 65024) == 0 && (a.fl &&& 264) != 264))) from rfl)
  obtain ⟨q1, hq1⟩ : ∃ q, q = mayM a.fg := ⟨_, rfl⟩
  obtain ⟨q2, hq2⟩ : ∃ q, q = mayM a.bg := ⟨_, rfl⟩
  obtain ⟨n1, hn1⟩ : ∃ q, q = a.fl &&& 65024 := ⟨_, rfl⟩
  obtain ⟨n2, hn2⟩ : ∃ q, q = a.fl &&& 264 := ⟨_, rfl⟩
  have C1 := Lib.hid (may_any w0 a.fg)
  have C2 := Lib.hid (fun w' => may_any w' a.bg)
  rw [← hq1] at C1 HR
  rw [← hq2] at HR
  have HQ2 := Lib.hid hq2
  rw [← hn1] at b2 HR
  rw [← hn2] at b1 HR
  clear hq1 hq2 hn1 hn2
  have e1 : ((n1 : Nat) == 0) = ((n1 : Int) == 0) := (beq_cast n1 0).symm
  have e2 : ((n2 : Nat) != 264) = ((n2 : Int) != 264) := (bne_cast n2 264).symm
  rw [e1, e2] at HR
  clear e1 e2
  obtain ⟨y0, ⟨y1, y2, y3, y4, y5, y6, y7, y8, y9⟩, yf⟩ := HA.out
  go_enter Tryd.func15, Tryd.ntmps15
  go_wp2_with fail
  rw [← hw0]
  clear hw0
  refine C1.out.mono ?_
  rintro e w1 ⟨rfl, bb⟩
  have HA1 := Lib.hid (HA.out.below bb)
  have HB1 := Lib.hid (HB.out.trans (bb.mono HB.out.size))
  clear y0 y1 y2 y3 y4 y5 y6 y7 y8 y9 yf HA HB bb C1
  obtain ⟨y0, ⟨y1, y2, y3, y4, y5, y6, y7, y8, y9⟩, yf⟩ := HA1.out
  cases q1 with
  | false =>
    go_wp2
    go_ret
    exact ⟨by rw [HR.out]; rfl, HB1.out⟩
  | true =>
    go_wp2_with fail
    refine (C2.out _).mono ?_
    rintro e w2 ⟨rfl, bb⟩
    rw [← HQ2.out]
    have HA2 := Lib.hid (HA1.out.below bb)
    have HB2 := Lib.hid (HB1.out.trans (bb.mono HB1.out.size))
    clear y0 y1 y2 y3 y4 y5 y6 y7 y8 y9 yf HA1 HB1 bb C2 HQ2
    obtain ⟨y0, ⟨y1, y2, y3, y4, y5, y6, y7, y8, y9⟩, yf⟩ := HA2.out
    cases q2 with
    | false =>
      go_wp2
      go_ret
      exact ⟨by rw [HR.out]; rfl, HB2.out⟩
    | true =>
      obtain ⟨q3, hq3⟩ : ∃ q, ((n1 : Int) == 0) = q := ⟨_, rfl⟩
      rw [hq3] at HR
      cases q3 with
      | false =>
        go_wp2
        go_ret
        exact ⟨by rw [HR.out]; rfl, HB2.out⟩
      | true =>
        go_wp2
        go_ret
        exact ⟨by rw [HR.out]; rfl, HB2.out⟩
end Go.Proofs.YtlmhnebgkginkaaDoor.Lab
