/- What one parameter does: the functions found, those of several numbers; the method take. -/
import Derived.Test.YtlmhnebgkginkaaDoorAtWithin
import Derived.Test.YtlmhnebgkginkaaDoorAtColB
namespace Go.Proofs.YtlmhnebgkginkaaDoor.Lab
open Go Go.RowKit

set_option maxHeartbeats 1000000 in
theorem say_told (w : World) (X : Nat → Prop) (B : Nat) (a : At) (v : Value) (L : Rws) (n : Int) (bg : Bool) (b1 : Nat) (hXW : ∀ g, X g → g < w.heap.size) (hR : RdAt w B a v) (h : MatAt w X v L) (hX : ¬ X B) (x1 : Box w b1 (.func (.func (putN bg)) #[] #[])) :
    Calls Tryd.prog 67 #[.pointer (some ⟨B, 0, none⟩), .int .i64 n, .pointer (some ⟨b1, 0, none⟩)] w fun e w' => e = .returned (.tuple #[]) ∧ ∃ ad, RdAt w' B (a.setC bg (colorM L)) (.slice ad (leftM L).length (leftM L).length) ∧ MatAt w' X (.slice ad (leftM L).length (leftM L).length) (leftM L) ∧ But B w w' := by
  have C := Lib.hid (color_any w X B a v L hXW hR h hX)
  have HX1 := Lib.hid x1
  have HR0 := Lib.hid hR
  clear hR h x1
  obtain ⟨c, hc⟩ : ∃ c, c = colorM L := ⟨_, rfl⟩
  have HC := Lib.hid hc
  clear hc
  cases c with
  | none =>
    go_enter Tryd.func67, Tryd.ntmps67
    go_wp2_with fail
    refine C.out.mono ?_
    rintro e w1 ⟨rfl, ad, R1, M1, bb⟩
    rw [← HC.out]
    have b2 : Below w1.heap.size w1 (w1.alloc (.cells #[.int .u8 0, .int .u8 0, .int .u8 0, .int .u8 0] 23)) := (Below.refl _ _).alloc (Nat.le_refl _) _
    have HR := Lib.hid (R1.below b2)
    have HM := Lib.hid (M1.below b2)
    have HB := Lib.hid (bb.trans (But.of b2))
    have HC2 := Lib.hid (show a.setC bg (colorM L) = a by rw [← HC.out]; cases bg <;> rfl)
    clear R1 M1 bb b2
    go_wp2
    go_end0
    exact ⟨rfl, ad, by rw [HC2.out]; exact HR.out, HM.out, HB.out⟩
  | some c =>
    cases bg
    · go_enter Tryd.func67, Tryd.ntmps67
      go_wp2_with fail
      refine C.out.mono ?_
      rintro e w1 ⟨rfl, ad, R1, M1, bb⟩
      rw [← HC.out]
      have b2 : Below w1.heap.size w1 (w1.alloc (.cells #[.int .u8 c.k, .int .u8 c.r, .int .u8 c.g, .int .u8 c.b] 23)) := (Below.refl _ _).alloc (Nat.le_refl _) _
      have HR := Lib.hid (R1.below b2)
      have HM := Lib.hid (M1.below b2)
      have HB := Lib.hid (bb.trans (But.of b2))
      have hX1 := (HX1.out.but HR0.out bb).below b2
      have c1 : (w1.alloc (.cells #[.int .u8 c.k, .int .u8 c.r, .int .u8 c.g, .int .u8 c.b] 23)).cell? ⟨b1, 0, none⟩ = some (.func (.func 50) #[] #[]) := hX1.cell
      clear R1 M1 bb b2 hX1
      go_wp2_with fail
      refine (put_fg _ B a _ c HR.out).mono ?_
      rintro e w3 ⟨rfl, R3, b3⟩
      have HR3 := Lib.hid R3
      have HM3 := Lib.hid (HM.out.but hX b3)
      have HB3 := Lib.hid (HB.out.trans b3)
      clear R3 b3 HM HB HR
      go_wp2
      go_end0
      exact ⟨rfl, ad, by rw [← HC.out]; exact HR3.out, HM3.out, HB3.out⟩
    · go_enter Tryd.func67, Tryd.ntmps67
      go_wp2_with fail
      refine C.out.mono ?_
      rintro e w1 ⟨rfl, ad, R1, M1, bb⟩
      rw [← HC.out]
      have b2 : Below w1.heap.size w1 (w1.alloc (.cells #[.int .u8 c.k, .int .u8 c.r, .int .u8 c.g, .int .u8 c.b] 23)) := (Below.refl _ _).alloc (Nat.le_refl _) _
      have HR := Lib.hid (R1.below b2)
      have HM := Lib.hid (M1.below b2)
      have HB := Lib.hid (bb.trans (But.of b2))
      have hX1 := (HX1.out.but HR0.out bb).below b2
      have c1 : (w1.alloc (.cells #[.int .u8 c.k, .int .u8 c.r, .int .u8 c.g, .int .u8 c.b] 23)).cell? ⟨b1, 0, none⟩ = some (.func (.func 51) #[] #[]) := hX1.cell
      clear R1 M1 bb b2 hX1
      go_wp2_with fail
      refine (put_bg _ B a _ c HR.out).mono ?_
      rintro e w3 ⟨rfl, R3, b3⟩
      have HR3 := Lib.hid R3
      have HM3 := Lib.hid (HM.out.but hX b3)
      have HB3 := Lib.hid (HB.out.trans b3)
      clear R3 b3 HM HB HR
      go_wp2
      go_end0
      exact ⟨rfl, ad, by rw [← HC.out]; exact HR3.out, HM3.out, HB3.out⟩

theorem put_newI (w : World) (es : Array MapEntry) (clock : Nat) (c : Int) (h0 : -9223372036854775808 ≤ c) (h1 : c ≤ 9223372036854775807) (v : Value) (hf : Instr.findNow (.int .i64) (.int .i64 c) es.toList 0 = some none) :
    (Instr.mapUpdate 114 (.map (some w.heap.size)) (.int .i64 c) v).run Tryd.prog (w.alloc (.map es clock)) = .ok () (w.alloc (.map (es.push ⟨.int .i64 c, v, clock⟩) (clock + 1))) := by
  have hb : (w.alloc (.map es clock)).heap[w.heap.size]? = some (.map es clock) := (MapKept.heap_alloc w _).1
  have e : ∀ o o' : Obj, (w.alloc o).heap.setIfInBounds w.heap.size o' = (w.alloc o').heap := by
    intro o o'
    show (w.heap.push o).setIfInBounds w.heap.size o' = w.heap.push o'
    apply Array.ext'
    simp
  simp [Instr.mapUpdate, findI _ c es.toList hf, checkI _ _ c h0 h1, run_underlying Tryd.underlying114, MapKept.run_getObj_map hb, MapKept.run_setObj_map _ hb, Result.andThen]
  rw [e]
  rfl
abbrev K1 : Array MapEntry := #[⟨.int .i64 0, .int .i64 24, 0⟩]
abbrev K2 : Array MapEntry := #[⟨.int .i64 0, .int .i64 24, 0⟩, ⟨.int .i64 1, .int .i64 4, 1⟩]
abbrev K3 : Array MapEntry := #[⟨.int .i64 0, .int .i64 24, 0⟩, ⟨.int .i64 1, .int .i64 4, 1⟩, ⟨.int .i64 2, .int .i64 21, 2⟩]
def gotI : Option (Nat × Value) → Value
  | some x => x.2
  | none => .int .i64 0
theorem lookI (w : World) (B : Nat) (c : Int) (h0 : -9223372036854775808 ≤ c) (h1 : c ≤ 9223372036854775807) {r : Option (Nat × Value)} (hb : w.heap[B]? = some (.map K3 3)) (hf : Instr.findNow (.int .i64) (.int .i64 c) K3.toList 0 = some r) :
    (Instr.lookup 114 (.map (some B)) (.int .i64 c) true).run Tryd.prog w = .ok (.tuple #[gotI r, .bool r.isSome]) w := by
  have z : (zeroValue 3).run Tryd.prog w = .ok (.int .i64 0) w := by kernel_rfl
  cases r with
  | none => simp [Instr.lookup, findI _ c _ hf, checkI _ _ c h0 h1, run_underlying Tryd.underlying114, MapKept.run_getObj_map hb, Result.andThen, z, gotI]
  | some x => simp [Instr.lookup, findI _ c _ hf, checkI _ _ c h0 h1, run_underlying Tryd.underlying114, MapKept.run_getObj_map hb, Result.andThen, gotI]

set_option maxHeartbeats 1000000 in
set_option maxRecDepth 100000 in
theorem several_any (w : World) (X : Nat → Prop) (B M : Nat) (a : At) (v u : Value) (row : List Int) (ha : a.fl < 65536) (hM : MapL w M NL) (hR : RdAt w B a v) (h : NumsAt w X u row) (hi : ∀ x ∈ row, -9223372036854775808 ≤ x ∧ x ≤ 9223372036854775807) :
    Calls Tryd.prog 53 #[.pointer (some ⟨B, 0, none⟩), .map (some M), u] w (Done w B (severalM a row) v) := by
  have HU := Lib.hid h
  obtain ⟨ad, c, rfl⟩ := h.shape
  obtain ⟨n, hn⟩ : ∃ n, n = row.length := ⟨_, rfl⟩
  have HN := Lib.hid hn
  rw [← hn] at HU ⊢
  by_cases h2 : n < 2
  · have HS := Lib.hid (show severalM a row = a by unfold severalM; rw [if_pos (by rw [← HN.out]; exact h2)])
    have h2i : (n : Int) < 2 := by omega
    have HR := Lib.hid hR
    clear hn h hR hM
    go_enter Tryd.func53, Tryd.ntmps53
    go_wp2
    go_end0
    exact ⟨rfl, by rw [HS.out]; exact HR.out, But.refl _ _⟩
  obtain ⟨g, o, c2, e2, _, _, _, hg, hcell⟩ := h.open (by omega)
  injection e2 with e2 e3 e4
  subst e2
  have a0 := hcell 0 (by omega)
  have a1 := hcell 1 (by omega)
  obtain ⟨x, hx⟩ : ∃ x, x = row.getD 0 0 := ⟨_, rfl⟩
  obtain ⟨y, hy⟩ : ∃ y, y = row.getD 1 0 := ⟨_, rfl⟩
  have hyi := hi y (by rw [hy]; exact getD_mem 0 (by omega))
  have HS0 := Lib.hid (show severalM a row = if x = 4 then (if n = 2 then (if y = 0 then a.flags 0 264 else if y = 1 then a.flags 8 256 else if y = 2 then a.flags 256 8 else a) else a) else if x = 38 then a.setFg (withinM row) else if x = 48 then a.setBg (withinM row) else a by
    unfold severalM
    rw [if_neg (by omega), ← hx, ← hy, ← hn])
  rw [← hx] at a0
  rw [← hy] at a1
  simp only [Nat.add_zero] at a0
  have hn1 : (1 : Int) < n := by omega
  have hn0 : 0 < n := by omega
  have h2i : decide ((n : Int) < 2) = false := by simp; omega
  have HR := Lib.hid hR
  have HM := Lib.hid hM
  clear hn h hR hM hx hy hcell e3 e4 hi
  by_cases h4 : x = 4
  · subst h4
    have HS := Lib.hid (show severalM a row = (if n = 2 then (if y = 0 then a.flags 0 264 else if y = 1 then a.flags 8 256 else if y = 2 then a.flags 256 8 else a) else a) by rw [HS0.out, if_pos rfl])
    have hmm := @run_makeMap Tryd.prog
    have p1 := put_newI w #[] 0 0 (by decide) (by decide) (.int .i64 24) rfl
    have p2 := put_newI w K1 1 1 (by decide) (by decide) (.int .i64 4) rfl
    have p3 := put_newI w K2 2 2 (by decide) (by decide) (.int .i64 21) rfl
    have bm : Below w.heap.size w (w.alloc (.map K3 3)) := (Below.refl _ _).alloc (Nat.le_refl _) _
    have am : (w.alloc (.map K3 3)).cell? ⟨g, o + 1, none⟩ = some (.int .i64 y) := (bm.cell (p := ⟨g, o + 1, none⟩) hg).trans a1
    have hb0 : (w.alloc (.map K3 3)).heap[w.heap.size]? = some (.map K3 3) := (MapKept.heap_alloc w _).1
    have HR1 := Lib.hid (HR.out.below bm)
    have HM1 := Lib.hid (HM.out.below bm)
    have HB1 := Lib.hid (But.of (B := B) bm)
    clear bm HS0 HR HM a1
    by_cases y0 : y = 0
    · subst y0
      have hk := lookI (w.alloc (.map K3 3)) w.heap.size 0 (by decide) (by decide) hb0 (r := some (0, .int .i64 24)) rfl
      simp only [gotI, Option.isSome] at hk
      clear hb0
      by_cases hl : n = 2
      · have HS2 := Lib.hid (show severalM a row = a.flags 0 264 by rw [HS.out, if_pos hl]; rfl)
        have hl2 : ((n : Int) == 2) = true := by simp; omega
        rcases HM1.out.look 24 (by decide) (by decide) with ⟨e, _⟩ | ⟨sy, V, e, hV, _, hk2⟩
        · exact absurd e (by decide)
        · obtain rfl : Sy.flags 0 264 = sy := by
            have : symL 24 NL = some (Sy.flags 0 264) := rfl
            rw [this] at e
            injection e
          obtain ⟨f1, f2, b1, b2, rfl, x1, x2⟩ := hV
          have C := Lib.hid (say_flags _ B a v 24 0 264 b1 b2 HR1.out ha (by decide) (by decide) x1 x2)
          clear x1 x2 HM1 e hl
          go_enter Tryd.func53, Tryd.ntmps53
          go_wp2_with fail
          refine C.out.mono ?_
          rintro e w2 ⟨rfl, R2, bb⟩
          have HR2 := Lib.hid R2
          have HB2 := Lib.hid (HB1.out.trans bb)
          clear R2 bb
          go_wp2
          go_end0
          exact ⟨rfl, by rw [HS2.out]; exact HR2.out, HB2.out⟩
      · have HS2 := Lib.hid (show severalM a row = a by rw [HS.out, if_neg hl])
        have hl2 : ((n : Int) == 2) = false := by simp; omega
        clear hl
        go_enter Tryd.func53, Tryd.ntmps53
        go_wp2
        go_end0
        exact ⟨rfl, by rw [HS2.out]; exact HR1.out, HB1.out⟩
    by_cases y1 : y = 1
    · subst y1
      have hk := lookI (w.alloc (.map K3 3)) w.heap.size 1 (by decide) (by decide) hb0 (r := some (1, .int .i64 4)) rfl
      simp only [gotI, Option.isSome] at hk
      clear hb0
      by_cases hl : n = 2
      · have HS2 := Lib.hid (show severalM a row = a.flags 8 256 by rw [HS.out, if_pos hl]; rfl)
        have hl2 : ((n : Int) == 2) = true := by simp; omega
        rcases HM1.out.look 4 (by decide) (by decide) with ⟨e, _⟩ | ⟨sy, V, e, hV, _, hk2⟩
        · exact absurd e (by decide)
        · obtain rfl : Sy.flags 8 256 = sy := by
            have : symL 4 NL = some (Sy.flags 8 256) := rfl
            rw [this] at e
            injection e
          obtain ⟨f1, f2, b1, b2, rfl, x1, x2⟩ := hV
          have C := Lib.hid (say_flags _ B a v 4 8 256 b1 b2 HR1.out ha (by decide) (by decide) x1 x2)
          clear x1 x2 HM1 e hl
          go_enter Tryd.func53, Tryd.ntmps53
          go_wp2_with fail
          refine C.out.mono ?_
          rintro e w2 ⟨rfl, R2, bb⟩
          have HR2 := Lib.hid R2
          have HB2 := Lib.hid (HB1.out.trans bb)
          clear R2 bb
          go_wp2
          go_end0
          exact ⟨rfl, by rw [HS2.out]; exact HR2.out, HB2.out⟩
      · have HS2 := Lib.hid (show severalM a row = a by rw [HS.out, if_neg hl])
        have hl2 : ((n : Int) == 2) = false := by simp; omega
        clear hl
        go_enter Tryd.func53, Tryd.ntmps53
        go_wp2
        go_end0
        exact ⟨rfl, by rw [HS2.out]; exact HR1.out, HB1.out⟩
    by_cases y2 : y = 2
    · subst y2
      have hk := lookI (w.alloc (.map K3 3)) w.heap.size 2 (by decide) (by decide) hb0 (r := some (2, .int .i64 21)) rfl
      simp only [gotI, Option.isSome] at hk
      clear hb0
      by_cases hl : n = 2
      · have HS2 := Lib.hid (show severalM a row = a.flags 256 8 by rw [HS.out, if_pos hl]; rfl)
        have hl2 : ((n : Int) == 2) = true := by simp; omega
        rcases HM1.out.look 21 (by decide) (by decide) with ⟨e, _⟩ | ⟨sy, V, e, hV, _, hk2⟩
        · exact absurd e (by decide)
        · obtain rfl : Sy.flags 256 8 = sy := by
            have : symL 21 NL = some (Sy.flags 256 8) := rfl
            rw [this] at e
            injection e
          obtain ⟨f1, f2, b1, b2, rfl, x1, x2⟩ := hV
          have C := Lib.hid (say_flags _ B a v 21 256 8 b1 b2 HR1.out ha (by decide) (by decide) x1 x2)
          clear x1 x2 HM1 e hl
          go_enter Tryd.func53, Tryd.ntmps53
          go_wp2_with fail
          refine C.out.mono ?_
          rintro e w2 ⟨rfl, R2, bb⟩
          have HR2 := Lib.hid R2
          have HB2 := Lib.hid (HB1.out.trans bb)
          clear R2 bb
          go_wp2
          go_end0
          exact ⟨rfl, by rw [HS2.out]; exact HR2.out, HB2.out⟩
      · have HS2 := Lib.hid (show severalM a row = a by rw [HS.out, if_neg hl])
        have hl2 : ((n : Int) == 2) = false := by simp; omega
        clear hl
        go_enter Tryd.func53, Tryd.ntmps53
        go_wp2
        go_end0
        exact ⟨rfl, by rw [HS2.out]; exact HR1.out, HB1.out⟩
    have hf : Instr.findNow (.int .i64) (.int .i64 y) K3.toList 0 = some none := by
      have e1 : (y == 0) = false := by simp; omega
      have e2 : (y == 1) = false := by simp; omega
      have e3 : (y == 2) = false := by simp; omega
      simp [Instr.findNow, Instr.sameNow, e1, e2, e3]
    have hk := lookI (w.alloc (.map K3 3)) w.heap.size y hyi.1 hyi.2 hb0 hf
    simp only [gotI, Option.isSome] at hk
    have HS2 := Lib.hid (show severalM a row = a by rw [HS.out, if_neg y0, if_neg y1, if_neg y2, ite_self])
    clear hb0 hf y0 y1 y2
    go_enter Tryd.func53, Tryd.ntmps53
    go_wp2
    go_end0
    exact ⟨rfl, by rw [HS2.out]; exact HR1.out, HB1.out⟩
  have n4 : (x == 4) = false := by simp [h4]
  have HW := Lib.hid (within_any w X _ row HU.out (by rw [← HN.out]; omega))
  obtain ⟨c, hc⟩ : ∃ c, c = withinM row := ⟨_, rfl⟩
  have HC := Lib.hid hc
  rw [← hc] at HW HS0
  clear hc a1
  by_cases h38 : x = 38
  · subst h38
    have HS := Lib.hid (show severalM a row = a.setFg c by rw [HS0.out]; rfl)
    clear HS0 h4
    cases c with
    | none =>
      go_enter Tryd.func53, Tryd.ntmps53
      go_wp2_with fail
      refine HW.out.mono ?_
      rintro e w1 ⟨rfl, b1⟩
      have b2 : Below w1.heap.size w1 (w1.alloc (.cells #[.int .u8 0, .int .u8 0, .int .u8 0, .int .u8 0] 23)) := (Below.refl _ _).alloc (Nat.le_refl _) _
      have HR2 := Lib.hid ((HR.out.below b1).below b2)
      have HB2 := Lib.hid ((But.of (B := B) b1).trans (But.of b2))
      clear b1 b2
      go_wp2
      go_end0
      exact ⟨rfl, by rw [HS.out]; exact HR2.out, HB2.out⟩
    | some c =>
      go_enter Tryd.func53, Tryd.ntmps53
      go_wp2_with fail
      refine HW.out.mono ?_
      rintro e w1 ⟨rfl, b1⟩
      have b2 : Below w1.heap.size w1 (w1.alloc (.cells #[.int .u8 c.k, .int .u8 c.r, .int .u8 c.g, .int .u8 c.b] 23)) := (Below.refl _ _).alloc (Nat.le_refl _) _
      have HR2 := Lib.hid ((HR.out.below b1).below b2)
      have HB2 := Lib.hid ((But.of (B := B) b1).trans (But.of b2))
      clear b1 b2
      have HR3 := Lib.hid (HR2.out.putFg c)
      have HB3 := Lib.hid (HB2.out.trans (putC_but _ B 0 c))
      obtain ⟨⟨y0, ⟨y1, y2, y3, y4, y5, y6, y7, y8, y9⟩, yf⟩, y10⟩ := HR2.out
      go_wp2
      go_end0
      exact ⟨rfl, by rw [HS.out]; exact HR3.out, HB3.out⟩
  have n38 : (x == 38) = false := by simp [h38]
  have HS1 := Lib.hid (show severalM a row = if x = 48 then a.setBg c else a by rw [HS0.out, if_neg h4, if_neg h38])
  clear HS0
  by_cases h48 : x = 48
  · subst h48
    have HS := Lib.hid (show severalM a row = a.setBg c by rw [HS1.out]; rfl)
    clear HS1 h4 h38
    cases c with
    | none =>
      go_enter Tryd.func53, Tryd.ntmps53
      go_wp2_with fail
      refine HW.out.mono ?_
      rintro e w1 ⟨rfl, b1⟩
      have b2 : Below w1.heap.size w1 (w1.alloc (.cells #[.int .u8 0, .int .u8 0, .int .u8 0, .int .u8 0] 23)) := (Below.refl _ _).alloc (Nat.le_refl _) _
      have HR2 := Lib.hid ((HR.out.below b1).below b2)
      have HB2 := Lib.hid ((But.of (B := B) b1).trans (But.of b2))
      clear b1 b2
      go_wp2
      go_end0
      exact ⟨rfl, by rw [HS.out]; exact HR2.out, HB2.out⟩
    | some c =>
      go_enter Tryd.func53, Tryd.ntmps53
      go_wp2_with fail
      refine HW.out.mono ?_
      rintro e w1 ⟨rfl, b1⟩
      have b2 : Below w1.heap.size w1 (w1.alloc (.cells #[.int .u8 c.k, .int .u8 c.r, .int .u8 c.g, .int .u8 c.b] 23)) := (Below.refl _ _).alloc (Nat.le_refl _) _
      have HR2 := Lib.hid ((HR.out.below b1).below b2)
      have HB2 := Lib.hid ((But.of (B := B) b1).trans (But.of b2))
      clear b1 b2
      have HR3 := Lib.hid (HR2.out.putBg c)
      have HB3 := Lib.hid (HB2.out.trans (putC_but _ B 4 c))
      obtain ⟨⟨y0, ⟨y1, y2, y3, y4, y5, y6, y7, y8, y9⟩, yf⟩, y10⟩ := HR2.out
      go_wp2
      go_end0
      exact ⟨rfl, by rw [HS.out]; exact HR3.out, HB3.out⟩
  have n48 : (x == 48) = false := by simp [h48]
  have HS := Lib.hid (show severalM a row = a by rw [HS1.out, if_neg h48])
  clear HS1 HW HC h4 h38 h48
  go_enter Tryd.func53, Tryd.ntmps53
  go_wp2
  go_end0
  exact ⟨rfl, by rw [HS.out]; exact HR.out, But.refl _ _⟩
end Go.Proofs.YtlmhnebgkginkaaDoor.Lab
