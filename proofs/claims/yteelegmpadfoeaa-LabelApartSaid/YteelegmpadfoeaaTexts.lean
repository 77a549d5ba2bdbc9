/- The Go law LabelTexts returns true for every labelled text and every slice of acts, and writes nothing that was there. -/
import Derived.Test.YteelegmpadfoeaaActs
import Derived.Deep.DeepCutAuto
import Derived.Deep.LoopGhost
import Derived.Deep.CutBlock
import Derived.Deep.RegionHeld3
import Derived.WalkSmall
namespace Go.Proofs.Yteelegmpadfoeaa.Lab
open Go.RowKit Go.ChangeShapes Go.WideShapes Go.ChangeAt

/-- A text of three cells lies at the head of a block that may be written. -/
def AtF (w : World) (b : Nat) (s : ByteArray) (l m : Int) : Prop :=
  At w b s l m ∧ ∀ i, w.frozen? ⟨b, i, none⟩ = false

theorem AtF.below {w w' : World} {b : Nat} {s : ByteArray} {l m : Int} (h : AtF w b s l m) (hb : Below w.heap.size w w') : AtF w' b s l m :=
  ⟨h.1.below hb, fun i => (hb.frozen (p := ⟨b, i, none⟩) h.1.1).trans (h.2 i)⟩

theorem AtF.newAt (w : World) (n : Nat) (hn : n = w.heap.size) (s : ByteArray) (l m : Int) (T : TypeId) : AtF (w.alloc (.cells #[.string s, .int .u8 l, .int .i64 m] T)) n s l m :=
  ⟨At.newAt w n hn s l m T, fun _ => World.frozen?_alloc_at _ _ _ _ hn⟩

theorem AtF.past {w : World} {b : Nat} {s : ByteArray} {l m : Int} (h : AtF w b s l m) (o : Obj) : AtF (w.alloc o) b s l m := h.below (below1 w o)

/-- An act lies at the head of a block. -/
def AtA (w : World) (b : Nat) (x : Int) (t : ByteArray) (y : Int) : Prop :=
  b < w.heap.size ∧ w.cell? ⟨b, 0, none⟩ = some (.int .u8 x) ∧ w.cell? ⟨b, 1, none⟩ = some (.string t) ∧ w.cell? ⟨b, 2, none⟩ = some (.int .u8 y)

theorem AtA.below {w w' : World} {b : Nat} {x y : Int} {t : ByteArray} (h : AtA w b x t y) (hb : Below w.heap.size w w') : AtA w' b x t y := by
  obtain ⟨h0, h1, h2, h3⟩ := h
  exact ⟨Nat.lt_of_lt_of_le h0 hb.size, (hb.cell (p := ⟨b, 0, none⟩) h0).trans h1, (hb.cell (p := ⟨b, 1, none⟩) h0).trans h2, (hb.cell (p := ⟨b, 2, none⟩) h0).trans h3⟩

theorem AtA.past {w : World} {b : Nat} {x y : Int} {t : ByteArray} (h : AtA w b x t y) (o : Obj) : AtA (w.alloc o) b x t y := h.below (below1 w o)

theorem AtA.newAt (w : World) (n : Nat) (hn : n = w.heap.size) (x : Int) (t : ByteArray) (y : Int) (T : TypeId) : AtA (w.alloc (.cells #[.int .u8 x, .string t, .int .u8 y] T)) n x t y := by
  subst hn
  refine ⟨by simp, ?_, ?_, ?_⟩ <;> (rw [World.cell?_alloc_at _ _ _ _ rfl]; rfl)

theorem AtF.set0 {w : World} {b : Nat} {s : ByteArray} {l m : Int} (h : AtF w b s l m) (s' : ByteArray) : AtF (w.setCell ⟨b, 0, none⟩ (.string s')) b s' l m := by
  obtain ⟨⟨h0, h1, h2, h3⟩, hf⟩ := h
  exact ⟨⟨by simpa using h0, World.cell?_setCell_same _ _ _ h1, (World.cell?_setCell_other _ _ _ _ (by simp)).trans h2, (World.cell?_setCell_other _ _ _ _ (by simp)).trans h3⟩, fun i => by rw [World.frozen?_setCell]; exact hf i⟩
theorem AtF.set1 {w : World} {b : Nat} {s : ByteArray} {l m : Int} (h : AtF w b s l m) (l' : Int) : AtF (w.setCell ⟨b, 1, none⟩ (.int .u8 l')) b s l' m := by
  obtain ⟨⟨h0, h1, h2, h3⟩, hf⟩ := h
  exact ⟨⟨by simpa using h0, (World.cell?_setCell_other _ _ _ _ (by simp)).trans h1, World.cell?_setCell_same _ _ _ h2, (World.cell?_setCell_other _ _ _ _ (by simp)).trans h3⟩, fun i => by rw [World.frozen?_setCell]; exact hf i⟩
theorem AtF.set2 {w : World} {b : Nat} {s : ByteArray} {l m : Int} (h : AtF w b s l m) (m' : Int) : AtF (w.setCell ⟨b, 2, none⟩ (.int .i64 m')) b s l m' := by
  obtain ⟨⟨h0, h1, h2, h3⟩, hf⟩ := h
  exact ⟨⟨by simpa using h0, (World.cell?_setCell_other _ _ _ _ (by simp)).trans h1, (World.cell?_setCell_other _ _ _ _ (by simp)).trans h2, World.cell?_setCell_same _ _ _ h3⟩, fun i => by rw [World.frozen?_setCell]; exact hf i⟩
theorem AtF.other {w : World} {b : Nat} {s : ByteArray} {l m : Int} (h : AtF w b s l m) (c i : Nat) (v : Value) (hc : c ≠ b) : AtF (w.setCell ⟨c, i, none⟩ v) b s l m := by
  obtain ⟨⟨h0, h1, h2, h3⟩, hf⟩ := h
  exact ⟨⟨by simpa using h0, (World.cell?_setCell_other _ _ _ _ (fun e => hc (by injection e))).trans h1, (World.cell?_setCell_other _ _ _ _ (fun e => hc (by injection e))).trans h2, (World.cell?_setCell_other _ _ _ _ (fun e => hc (by injection e))).trans h3⟩, fun i => by rw [World.frozen?_setCell]; exact hf i⟩
theorem AtA.other {w : World} {b : Nat} {x y : Int} {t : ByteArray} (h : AtA w b x t y) (c i : Nat) (v : Value) (hc : c ≠ b) : AtA (w.setCell ⟨c, i, none⟩ v) b x t y := by
  obtain ⟨h0, h1, h2, h3⟩ := h
  exact ⟨by simpa using h0, (World.cell?_setCell_other _ _ _ _ (fun e => hc (by injection e))).trans h1, (World.cell?_setCell_other _ _ _ _ (fun e => hc (by injection e))).trans h2, (World.cell?_setCell_other _ _ _ _ (fun e => hc (by injection e))).trans h3⟩

theorem AtF.all {w : World} {b : Nat} {s : ByteArray} {l m : Int} (h : AtF w b s l m) (s' : ByteArray) (l' m' : Int) : AtF (((w.setCell ⟨b, 0, none⟩ (.string s')).setCell ⟨b, 1, none⟩ (.int .u8 l')).setCell ⟨b, 2, none⟩ (.int .i64 m')) b s' l' m' := ((h.set0 s').set1 l').set2 m'
theorem AtF.others {w : World} {b : Nat} {s : ByteArray} {l m : Int} (h : AtF w b s l m) (c : Nat) (v0 v1 v2 : Value) (hc : c ≠ b) : AtF (((w.setCell ⟨c, 0, none⟩ v0).setCell ⟨c, 1, none⟩ v1).setCell ⟨c, 2, none⟩ v2) b s l m := ((h.other c 0 v0 hc).other c 1 v1 hc).other c 2 v2 hc
theorem AtA.others {w : World} {b : Nat} {x y : Int} {t : ByteArray} (h : AtA w b x t y) (c : Nat) (v0 v1 v2 : Value) (hc : c ≠ b) : AtA (((w.setCell ⟨c, 0, none⟩ v0).setCell ⟨c, 1, none⟩ v1).setCell ⟨c, 2, none⟩ v2) b x t y := ((h.other c 0 v0 hc).other c 1 v1 hc).other c 2 v2 hc
theorem bset3 {B : Nat} {a w : World} (h : Below B a w) (c : Nat) (v0 v1 v2 : Value) (hc : B ≤ c) : Below B a (((w.setCell ⟨c, 0, none⟩ v0).setCell ⟨c, 1, none⟩ v1).setCell ⟨c, 2, none⟩ v2) := ((h.setCell hc v0).setCell hc v1).setCell hc v2

/-- What the loop keeps, at one world. -/
def Big (w w' : World) (T R A : Nat) (s : ByteArray) (l m x : Int) (t : ByteArray) (y : Int) : Prop := AtF w' T s l m ∧ AtF w' R s l m ∧ AtA w' A x t y ∧ Below w.heap.size w w'
theorem Big.drew {w w' : World} {T R A : Nat} {s t : ByteArray} {l m x y : Int} (h : Big w w' T R A s l m x t y) : Big w w'.drew T R A s l m x t y :=
  have hd : Below w'.heap.size w' w'.drew := (Below.refl _ _).drew
  ⟨h.1.below hd, h.2.1.below hd, h.2.2.1.below hd, bstep h.2.2.2 hd⟩
theorem Big.step {w w' w5 : World} {T R A : Nat} {s t : ByteArray} {l m x y : Int} (h : Big w w' T R A s l m x t y) (hb : Below w'.heap.size w' w5) : Big w w5 T R A s l m x t y :=
  ⟨h.1.below hb, h.2.1.below hb, h.2.2.1.below hb, bstep h.2.2.2 hb⟩
theorem Big.all {w w' : World} {T R A : Nat} {s t : ByteArray} {l m x y : Int} (h : Big w w' T R A s l m x t y) :
    w'.cell? ⟨T, 0, none⟩ = some (.string s) ∧ w'.cell? ⟨T, 1, none⟩ = some (.int .u8 l) ∧ w'.cell? ⟨T, 2, none⟩ = some (.int .i64 m) ∧ w'.cell? ⟨R, 0, none⟩ = some (.string s) ∧ w'.cell? ⟨R, 1, none⟩ = some (.int .u8 l) ∧ w'.cell? ⟨R, 2, none⟩ = some (.int .i64 m) ∧ w'.cell? ⟨A, 2, none⟩ = some (.int .u8 y) :=
  ⟨h.1.1.2.1, h.1.1.2.2.1, h.1.1.2.2.2, h.2.1.1.2.1, h.2.1.1.2.2.1, h.2.1.1.2.2.2, h.2.2.1.2.2.2⟩

set_option maxRecDepth 100000 in
set_option maxHeartbeats 1000000 in
theorem texts_walk (s : ByteArray) (l m : Int) (a : Option Addr) (len cap : Nat) (X : Nat → Int) (S : Nat → ByteArray) (B : Nat → Int) (w : World) (hs : s.size ≤ maxLen) (hl : IsActs w a len cap X S B) :
    Calls Try.prog 4 #[txt s l m, .slice a len cap] w fun e w' => e = .returned (.bool true) ∧ Below w.heap.size w w' := by
  have HL := Lib.hid hl
  clear hl
  unfold maxLen at hs
  go_enter Try.func4, Try.ntmps4
  go_upto_region 1 with (fail)
  go_cut [] (fun wc => ∃ s', AtF wc w.heap.size s' l m ∧ wc.heap.size = w.heap.size + 1 ∧ Below w.heap.size w wc)
  case first =>
    by_cases h60 : s.size ≤ 60
    · go_wp2_with fail
      go_meet
      case rel => exact ⟨_, AtF.newAt w _ rfl _ _ _ _, by simp, below1 _ _⟩
    · go_wp2_with fail
      go_meet
      case rel => exact ⟨_, AtF.newAt w _ rfl _ _ _ _, by simp, below1 _ _⟩
  case rest =>
    obtain ⟨s', h1, h2, h3⟩ := hcut
    obtain ⟨wb, rfl⟩ : ∃ wb : World, wb = wc := ⟨_, rfl⟩
    obtain ⟨⟨hz, c0, c1, c2⟩, hfz⟩ := h1
    have H1 : Hid (AtF wb w.heap.size s' l m) := Lib.hid ⟨⟨hz, c0, c1, c2⟩, hfz⟩
    have H2 := Lib.hid h2
    have H3 := Lib.hid h3
    clear h2 h3
    go_wp2_with fail
    clear hz c0 c1 c2 hfz
    go_loopg [6] 41 (fun g i wr => ∃ (k : Nat) (s2 : ByteArray) (l2 : Int), g + k = 41 ∧ k ≤ 40 ∧ i = .int .i64 k ∧ AtF wr w.heap.size s2 l2 m ∧ AtF wr wb.heap.size s2 l2 m ∧ Below w.heap.size w wr)
    case atStart => exact ⟨0, s', l, rfl, by omega, rfl, H1.out.past _, AtF.newAt _ _ rfl _ _ _ _, H3.out.alloc H3.out.size _⟩
    case round =>
      obtain ⟨k, s2, l2, hk, hk40, rfl, hT, hR, hB⟩ := hrel
      have HTR := Lib.hid (And.intro hT.1.1 hR.1.1)
      have HT := Lib.hid hT
      have HR := Lib.hid hR
      have HB := Lib.hid hB
      clear hT hR hB
      by_cases hin : k < len ∧ k < 40
      · obtain ⟨hkl, hk4⟩ := hin
        obtain ⟨_, _, hact, hcell⟩ := HL.out
        obtain ⟨b, off, rfl, hb, hc⟩ := hcell (by omega)
        obtain ⟨d0, d1, d2⟩ := hc k hkl
        obtain ⟨x0, x1, y0, y1, hS⟩ := hact k hkl
        have c0 := (HB.out.cell (p := ⟨b, off + k * 3, none⟩) hb).trans d0
        have c1 := (HB.out.cell (p := ⟨b, off + k * 3 + 1, none⟩) hb).trans d1
        have c2 := (HB.out.cell (p := ⟨b, off + k * 3 + 2, none⟩) hb).trans d2
        unfold maxLen at hS
        clear hact hcell hc d0 d1 d2
        generalize X k = x at *
        generalize B k = y at *
        generalize S k = t at *
        have k4 : (k : Int) < 40 := by omega
        go_upto_region 7 with (fail)
        have HA : Hid (AtA (wr.alloc (.cells #[.int .u8 x, .string t, .int .u8 y] 35)) wr.heap.size x t y) := Lib.hid (AtA.newAt _ _ rfl _ _ _ _)
        have HT1 := Lib.hid (HT.out.past (.cells #[.int .u8 x, .string t, .int .u8 y] 35))
        have HR1 := Lib.hid (HR.out.past (.cells #[.int .u8 x, .string t, .int .u8 y] 35))
        have HB1 := Lib.hid (HB.out.alloc HB.out.size (.cells #[.int .u8 x, .string t, .int .u8 y] 35))
        go_cut [8] (fun v w2 => ∃ t', v = .string t' ∧ w2 = wr.alloc (.cells #[.int .u8 x, .string t, .int .u8 y] 35))
        case first =>
          by_cases h60 : t.size ≤ 60
          · go_wp2_with fail
            go_meet
            case rel => exact ⟨_, rfl, rfl⟩
          · go_wp2_with fail
            go_meet
            case rel => exact ⟨_, rfl, rfl⟩
        case rest =>
          obtain ⟨t', rfl, hw2⟩ := hcut
          rw [← hw2] at HA HT1 HR1 HB1
          clear hw2 c0 c1 c2 HT HR HB
          go_upto_block 2 with (fail)
          go_cut [] (fun w2 => ∃ s3 l3, AtF w2 w.heap.size s3 l3 m ∧ AtF w2 wb.heap.size s3 l3 m ∧ AtA w2 wr.heap.size x t y ∧ Below w.heap.size w w2)
          case first =>
            have hTR : ¬ w.heap.size = wb.heap.size := by have := H2.out; omega
            have hRT : ¬ wb.heap.size = w.heap.size := by have := H2.out; omega
            have hTA : ¬ w.heap.size = wr.heap.size := by have := HTR.out; omega
            have hRA : ¬ wb.heap.size = wr.heap.size := by have := HTR.out; omega
            by_cases h14 : 14 ≤ x % 16
            · obtain ⟨⟨zt, t0, t1, t2⟩, ft⟩ := HT1.out
              obtain ⟨⟨zr, r0, r1, r2⟩, fr⟩ := HR1.out
              obtain ⟨za, a0, a1, a2⟩ := HA.out
              go_wp2_with fail
              refine (declassify_any _ _ _ _).mono ?_
              rintro e w3 ⟨rfl, hb⟩
              clear zt t0 t1 t2 ft zr r0 r1 r2 fr za a0 a1 a2
              replace HT1 := Lib.hid (HT1.out.below hb.below)
              replace HR1 := Lib.hid (HR1.out.below hb.below)
              replace HA := Lib.hid (HA.out.below hb.below)
              replace HB1 := Lib.hid (bstep HB1.out hb.below)
              clear hb
              obtain ⟨⟨zt, t0, t1, t2⟩, ft⟩ := HT1.out
              obtain ⟨⟨zr, r0, r1, r2⟩, fr⟩ := HR1.out
              obtain ⟨za, a0, a1, a2⟩ := HA.out
              go_wp2_with fail
              go_meet
              case rel =>
                have hbR : w.heap.size ≤ wb.heap.size := by have := H2.out; omega
                exact ⟨s2, 0, (HT1.out.all s2 0 m).other _ _ _ hRT, (HR1.out.others w.heap.size _ _ _ hTR).set1 0, (HA.out.others w.heap.size _ _ _ hTA).other _ _ _ hRA, (bset3 HB1.out w.heap.size _ _ _ (Nat.le_refl _)).setCell hbR _⟩
            · by_cases h1 : x % 2 = 1
              · obtain ⟨⟨zt, t0, t1, t2⟩, ft⟩ := HT1.out
                obtain ⟨⟨zr, r0, r1, r2⟩, fr⟩ := HR1.out
                obtain ⟨za, a0, a1, a2⟩ := HA.out
                go_wp2_with fail
                refine (read_any _ _ _ _ _).mono ?_
                rintro e w3 ⟨rfl, hb⟩
                clear zt t0 t1 t2 ft zr r0 r1 r2 fr za a0 a1 a2
                replace HT1 := Lib.hid (HT1.out.below hb.below)
                replace HR1 := Lib.hid (HR1.out.below hb.below)
                replace HA := Lib.hid (HA.out.below hb.below)
                replace HB1 := Lib.hid (bstep HB1.out hb.below)
                clear hb
                obtain ⟨⟨zt, t0, t1, t2⟩, ft⟩ := HT1.out
                obtain ⟨⟨zr, r0, r1, r2⟩, fr⟩ := HR1.out
                obtain ⟨za, a0, a1, a2⟩ := HA.out
                go_wp2_with fail
                refine (rread_any _ _ _ _ _).mono ?_
                rintro e w3 ⟨rfl, hb⟩
                clear zt t0 t1 t2 ft zr r0 r1 r2 fr za a0 a1 a2
                replace HT1 := Lib.hid (HT1.out.below hb.below)
                replace HR1 := Lib.hid (HR1.out.below hb.below)
                replace HA := Lib.hid (HA.out.below hb.below)
                replace HB1 := Lib.hid (bstep HB1.out hb.below)
                clear hb
                obtain ⟨⟨zt, t0, t1, t2⟩, ft⟩ := HT1.out
                obtain ⟨⟨zr, r0, r1, r2⟩, fr⟩ := HR1.out
                obtain ⟨za, a0, a1, a2⟩ := HA.out
                go_wp2_with fail
                go_meet
                case rel => exact ⟨s2, l2, HT1.out, HR1.out, HA.out, HB1.out⟩
              · obtain ⟨⟨zt, t0, t1, t2⟩, ft⟩ := HT1.out
                obtain ⟨⟨zr, r0, r1, r2⟩, fr⟩ := HR1.out
                obtain ⟨za, a0, a1, a2⟩ := HA.out
                go_wp2_with fail
                refine (write_any _ _ _ _ _ _).mono ?_
                rintro e w3 ⟨rfl, hb⟩
                clear zt t0 t1 t2 ft zr r0 r1 r2 fr za a0 a1 a2
                replace HT1 := Lib.hid (HT1.out.below hb.below)
                replace HR1 := Lib.hid (HR1.out.below hb.below)
                replace HA := Lib.hid (HA.out.below hb.below)
                replace HB1 := Lib.hid (bstep HB1.out hb.below)
                clear hb
                obtain ⟨⟨zt, t0, t1, t2⟩, ft⟩ := HT1.out
                obtain ⟨⟨zr, r0, r1, r2⟩, fr⟩ := HR1.out
                obtain ⟨za, a0, a1, a2⟩ := HA.out
                go_wp2_with fail
                refine (rwrite_any _ _ _ _ _ _).mono ?_
                rintro e w4 ⟨rfl, hb⟩
                clear zt t0 t1 t2 ft zr r0 r1 r2 fr za a0 a1 a2
                have HN1 := Lib.hid ((AtF.newAt w3 _ rfl (wrS s2 t' l2 m y) l2 m 31).below hb.below)
                replace HT1 := Lib.hid ((HT1.out.past (.cells #[.string (wrS s2 t' l2 m y), .int .u8 l2, .int .i64 m] 31)).below hb.below)
                replace HR1 := Lib.hid ((HR1.out.past (.cells #[.string (wrS s2 t' l2 m y), .int .u8 l2, .int .i64 m] 31)).below hb.below)
                replace HA := Lib.hid ((HA.out.past (.cells #[.string (wrS s2 t' l2 m y), .int .u8 l2, .int .i64 m] 31)).below hb.below)
                replace HB1 := Lib.hid (bstepA HB1.out _ hb.below)
                clear hb
                have hTN : ¬ w.heap.size = w4.heap.size := by have := HT1.out.1.1; omega
                have hNT : ¬ w4.heap.size = w.heap.size := by have := HT1.out.1.1; omega
                have hRN : ¬ wb.heap.size = w4.heap.size := by have := HR1.out.1.1; omega
                have hNR : ¬ w4.heap.size = wb.heap.size := by have := HR1.out.1.1; omega
                obtain ⟨⟨zn, n0, n1, n2⟩, fn⟩ := (HN1.out.past (.cells #[.string (wrS s2 t' l2 m y), .int .u8 l2, .int .i64 m] 33))
                obtain ⟨⟨zt, t0, t1, t2⟩, ft⟩ := (HT1.out.past (.cells #[.string (wrS s2 t' l2 m y), .int .u8 l2, .int .i64 m] 33))
                obtain ⟨⟨zr, r0, r1, r2⟩, fr⟩ := (HR1.out.past (.cells #[.string (wrS s2 t' l2 m y), .int .u8 l2, .int .i64 m] 33))
                go_wp2_with fail
                go_meet
                case rel =>
                  have hbR : w.heap.size ≤ wb.heap.size := by have := H2.out; omega
                  exact ⟨wrS s2 t' l2 m y, l2, ((HT1.out.past _).all _ _ _).others wb.heap.size _ _ _ hRT, ((HR1.out.past _).others w.heap.size _ _ _ hTR).all _ _ _, ((HA.out.past _).others w.heap.size _ _ _ hTA).others wb.heap.size _ _ _ hRA, bset3 (bset3 (HB1.out.alloc HB1.out.size _) w.heap.size _ _ _ (Nat.le_refl _)) wb.heap.size _ _ _ hbR⟩
          case rest =>
            clear HT1 HR1 HA HB1
            obtain ⟨s3, l3, hT, hR, hA, hB⟩ := hcut
            obtain ⟨wx, rfl⟩ : ∃ wx : World, wx = wc := ⟨_, rfl⟩
            have HT1 := Lib.hid hT
            have HR1 := Lib.hid hR
            have HA := Lib.hid hA
            have HB1 := Lib.hid hB
            clear hT hR hA hB
            go_upto_region 22 with (fail)
            go_cut [122] (fun v w2 => v = .bool false ∧ AtF w2 w.heap.size s3 l3 m ∧ AtF w2 wb.heap.size s3 l3 m ∧ Below w.heap.size w w2)
            case first =>
              have HG : Hid (Big w wx w.heap.size wb.heap.size wr.heap.size s3 l3 m x t y) := Lib.hid ⟨HT1.out, HR1.out, HA.out, HB1.out⟩
              clear HT1 HR1 HA HB1
              go_region_held3 (fun w' => w'.cell? ⟨w.heap.size, 0, none⟩ = some (.string s3) ∧ w'.cell? ⟨w.heap.size, 1, none⟩ = some (.int .u8 l3) ∧ w'.cell? ⟨w.heap.size, 2, none⟩ = some (.int .i64 m) ∧ w'.cell? ⟨wb.heap.size, 0, none⟩ = some (.string s3) ∧ w'.cell? ⟨wb.heap.size, 1, none⟩ = some (.int .u8 l3) ∧ w'.cell? ⟨wb.heap.size, 2, none⟩ = some (.int .i64 m) ∧ w'.cell? ⟨wr.heap.size, 2, none⟩ = some (.int .u8 y))
                (first | exact Big.all (Big.drew (Hid.out HG)) | exact Big.all (Big.step (Big.drew (Hid.out HG)) hb5.below) | exact Big.all (Big.step (Big.step (Big.drew (Hid.out HG)) hb5.below) hb6.below))
                (first | (go_at_call 22; refine (seen_any _ _ _ _ _).mono ?_; rintro e w5 ⟨rfl, hb5⟩) | (go_at_call 23; refine (rseen_any _ _ _ _ _).mono ?_; rintro e w6 ⟨rfl, hb6⟩))
              go_wp2_with fail
              go_meet
              case rel =>
                have HF := Big.step (Big.step (Big.drew (Hid.out HG)) hb5.below) hb6.below
                exact ⟨rfl, HF.1, HF.2.1, HF.2.2.2⟩
            case rest =>
              obtain ⟨rfl, hT, hR, hB⟩ := hcut
              have HT2 := Lib.hid hT
              have HR2 := Lib.hid hR
              have HB2 := Lib.hid hB
              clear hT hR hB
              go_wp2_with fail
              go_roundg (gk - 1)
              case measure => omega
              case rel => exact ⟨k + 1, s3, l3, by omega, by omega, by go_num, HT2.out, HR2.out, HB2.out⟩
      · by_cases hkl : k < len
        · have hk4 : k = 40 := by omega
          subst hk4
          go_wp2_with (go_at_call 16; refine (works_any _).mono ?_; rintro e w' ⟨rfl, hbw⟩)
          go_ret
          exact ⟨rfl, bstep HB.out hbw⟩
        · go_wp2_with (go_at_call 16; refine (works_any _).mono ?_; rintro e w' ⟨rfl, hbw⟩)
          go_ret
          exact ⟨rfl, bstep HB.out hbw⟩

theorem labelTexts_walk {H : Type} (enc : TypeId × Value → H) (base : Nat) (W : World) (v0 : Value) (d0 : DataW H) (p0 : List MemPlace) (ok0 : Value.okWide Try.prog W .any base 31 v0) (k0 : DataW.Trod enc Try.prog W 0 (fun _ => true) true 31 v0 d0 p0)
    (v1 : Value) (d1 : DataW H) (p1 : List MemPlace) (ok1 : Value.okWide Try.prog W .any base 32 v1) (k1 : DataW.Trod enc Try.prog W 0 (fun _ => true) true 32 v1 d1 p1) :
    Calls Try.prog 4 #[v0, v1] W fun e w' => e = .returned (.bool true) ∧ Below W.heap.size W w' := by
  obtain ⟨s, l, m, rfl, hs, _⟩ := open_text enc base W ok0 k0
  obtain ⟨a, len, cap, X, S, B, rfl, hl⟩ := open_acts enc base W ok1 k1
  exact texts_walk s l m a len cap X S B W hs hl

end Go.Proofs.Yteelegmpadfoeaa.Lab
