/- The Go law LabelApart returns true for every labelled text, every slice of acts and every slice of other texts, and writes nothing that was there. -/
import Derived.Test.YteelegmpadfoeaaTexts
import Derived.SliceStrings
import Derived.RegionTactic
import Derived.ChangeAlike
namespace Go.Proofs.Yteelegmpadfoeaa.Lab
open Go.RowKit Go.ChangeShapes Go.WideShapes Go.ChangeAt

/-- WHAT A SLICE OF TEXTS THAT CAME IN IS. -/
def IsStrs (W : World) (a : Option Addr) (len cap : Nat) (O : Nat → ByteArray) : Prop :=
  len ≤ cap ∧ cap ≤ maxLen ∧ (0 < len → ∃ b off, a = some ⟨b, off, none⟩ ∧ b < W.heap.size ∧ ∀ i, i < len → W.cell? ⟨b, off + i, none⟩ = some (.string (O i)))

theorem open_strs' {H : Type} (enc : TypeId × Value → H) (base : Nat) (W : World) {v : Value} {d : DataW H} {p : List MemPlace} (ok : Value.okWide Try.prog W .any base 51 v) (k : DataW.Trod enc Try.prog W 0 (fun _ => true) true 51 v d p) :
    ∃ (a : Option Addr) (len cap : Nat) (O : Nat → ByteArray), v = .slice a len cap ∧ IsStrs W a len cap O := by
  obtain ⟨a0, len0, cap0, rfl⟩ := okWide_slice Try.underlying51 ok
  obtain ⟨fuel, hf⟩ := k
  rcases open_strings Try.underlying51 Try.underlying9 (by kernel_rfl) hf with ⟨hcs, _⟩ | ⟨x, l, c, ss, hcs, _, hl, hm, hz, _, hcell, _⟩
  · simp [Value.cells] at hcs
    obtain ⟨rfl, rfl, rfl⟩ := hcs
    exact ⟨none, 0, 0, fun _ => ⟨#[]⟩, rfl, Nat.le_refl _, by unfold maxLen; omega, fun h => by omega⟩
  · simp [Value.cells] at hcs
    obtain ⟨rfl, rfl, rfl⟩ := hcs
    have hz' : ss.length = cap0 := by simpa using hz
    refine ⟨some x, len0, cap0, fun i => ss.getD i ByteArray.empty, rfl, hl, hm, fun h0 => ?_⟩
    obtain ⟨b, off, spot⟩ := x
    have hspot : spot = none := by simpa [Addr.add] using World.cell?_spot (hcell 0 (by omega))
    subst hspot
    simp only [add_plain] at hcell
    exact ⟨b, off, rfl, block_lt (hcell 0 (by omega)), fun i hi => hcell i (by omega)⟩

theorem seen_low (sa sb : ByteArray) (l : Int) (h : l = 0 → sb = sa) : seenS sb l 0 = seenS sa l 0 := by
  by_cases hl : l = 0
  · rw [h hl]
  · simp [seenS, flowsB, hl]
theorem read_low (l : Int) : ((readE l 0 == 0) != (l == 0)) = false := by
  by_cases hl : l = 0 <;> simp [readE, flowsB, hl]

theorem AtF.drew {w : World} {b : Nat} {s : ByteArray} {l m : Int} (h : AtF w b s l m) : AtF w.drew b s l m := h.below (Below.refl _ _).drew

def Bit (n : Int) : Prop := n = 0 ∨ n = 1
theorem bit_mod (n : Int) : Bit (n % 2) := by unfold Bit; omega

theorem wrS_same {sa t : ByteArray} {l m q : Int} (h : wrE t l m q ≠ 0) : wrS sa t l m q = sa := by
  unfold wrE at h
  unfold wrS
  split
  · rename_i h1
    rw [if_pos h1] at h
    split
    · rfl
    · rename_i h2
      rw [if_neg h2] at h
      exact absurd rfl h
  · rfl

/-- What stands behind each step: the text that came in, the one, the other. -/
def Inv (w w' : World) (A B : Nat) (s sa sb : ByteArray) (l m : Int) : Prop := AtF w' w.heap.size s l m ∧ AtF w' A sa l m ∧ AtF w' B sb l m ∧ Below w.heap.size w w'
theorem Inv.step {w w' w5 : World} {A B : Nat} {s sa sb : ByteArray} {l m : Int} (h : Inv w w' A B s sa sb l m) (hb : Below w'.heap.size w' w5) : Inv w w5 A B s sa sb l m :=
  ⟨h.1.below hb, h.2.1.below hb, h.2.2.1.below hb, bstep h.2.2.2 hb⟩

theorem wr_next {sa sb t t' : ByteArray} {l m q : Int} (hq : Bit q) (hs : l = 0 → sb = sa) (ht : q = 0 → t' = t) (hl : l = 0) : wrS sb t' l m q = wrS sa t l m q := by
  subst hl
  rcases hq with rfl | rfl
  · rw [hs rfl, ht rfl]
  · simp [wrS, flowsB, hs rfl]
theorem Inv.drew {w w' : World} {A B : Nat} {s sa sb : ByteArray} {l m : Int} (h : Inv w w' A B s sa sb l m) : Inv w w'.drew A B s sa sb l m := h.step (Below.refl _ _).drew
theorem Inv.all {w w' : World} {A B : Nat} {s sa sb : ByteArray} {l m : Int} (h : Inv w w' A B s sa sb l m) :
    w'.cell? ⟨w.heap.size, 0, none⟩ = some (.string s) ∧ w'.cell? ⟨w.heap.size, 1, none⟩ = some (.int .u8 l) ∧ w'.cell? ⟨w.heap.size, 2, none⟩ = some (.int .i64 m) ∧ w'.cell? ⟨A, 0, none⟩ = some (.string sa) ∧ w'.cell? ⟨A, 1, none⟩ = some (.int .u8 l) ∧ w'.cell? ⟨A, 2, none⟩ = some (.int .i64 m) ∧ w'.cell? ⟨B, 0, none⟩ = some (.string sb) ∧ w'.cell? ⟨B, 1, none⟩ = some (.int .u8 l) ∧ w'.cell? ⟨B, 2, none⟩ = some (.int .i64 m) ∧ Hid (Inv w w' A B s sa sb l m) :=
  ⟨h.1.1.2.1, h.1.1.2.2.1, h.1.1.2.2.2, h.2.1.1.2.1, h.2.1.1.2.2.1, h.2.1.1.2.2.2, h.2.2.1.1.2.1, h.2.2.1.1.2.2.1, h.2.2.1.1.2.2.2, h⟩
theorem Inv.last {w w' : World} {A B : Nat} {s sa sb : ByteArray} {l m : Int} (h : w'.cell? ⟨w.heap.size, 0, none⟩ = some (.string s) ∧ w'.cell? ⟨w.heap.size, 1, none⟩ = some (.int .u8 l) ∧ w'.cell? ⟨w.heap.size, 2, none⟩ = some (.int .i64 m) ∧ w'.cell? ⟨A, 0, none⟩ = some (.string sa) ∧ w'.cell? ⟨A, 1, none⟩ = some (.int .u8 l) ∧ w'.cell? ⟨A, 2, none⟩ = some (.int .i64 m) ∧ w'.cell? ⟨B, 0, none⟩ = some (.string sb) ∧ w'.cell? ⟨B, 1, none⟩ = some (.int .u8 l) ∧ w'.cell? ⟨B, 2, none⟩ = some (.int .i64 m) ∧ Hid (Inv w w' A B s sa sb l m)) :
    Inv w w' A B s sa sb l m := h.2.2.2.2.2.2.2.2.2
theorem Inv.keep {w w' w5 : World} {A B : Nat} {s sa sb : ByteArray} {l m : Int} (h : w'.cell? ⟨w.heap.size, 0, none⟩ = some (.string s) ∧ w'.cell? ⟨w.heap.size, 1, none⟩ = some (.int .u8 l) ∧ w'.cell? ⟨w.heap.size, 2, none⟩ = some (.int .i64 m) ∧ w'.cell? ⟨A, 0, none⟩ = some (.string sa) ∧ w'.cell? ⟨A, 1, none⟩ = some (.int .u8 l) ∧ w'.cell? ⟨A, 2, none⟩ = some (.int .i64 m) ∧ w'.cell? ⟨B, 0, none⟩ = some (.string sb) ∧ w'.cell? ⟨B, 1, none⟩ = some (.int .u8 l) ∧ w'.cell? ⟨B, 2, none⟩ = some (.int .i64 m) ∧ Hid (Inv w w' A B s sa sb l m)) (hb : Below w'.heap.size w' w5) :
    w5.cell? ⟨w.heap.size, 0, none⟩ = some (.string s) ∧ w5.cell? ⟨w.heap.size, 1, none⟩ = some (.int .u8 l) ∧ w5.cell? ⟨w.heap.size, 2, none⟩ = some (.int .i64 m) ∧ w5.cell? ⟨A, 0, none⟩ = some (.string sa) ∧ w5.cell? ⟨A, 1, none⟩ = some (.int .u8 l) ∧ w5.cell? ⟨A, 2, none⟩ = some (.int .i64 m) ∧ w5.cell? ⟨B, 0, none⟩ = some (.string sb) ∧ w5.cell? ⟨B, 1, none⟩ = some (.int .u8 l) ∧ w5.cell? ⟨B, 2, none⟩ = some (.int .i64 m) ∧ Hid (Inv w w5 A B s sa sb l m) :=
  Inv.all ((Inv.last h).step hb)
theorem Inv.all3 {w w' : World} {A B : Nat} {s sa sb : ByteArray} {l m : Int} (h : Inv w w' A B s sa sb l m) :
    w'.cell? ⟨A, 0, none⟩ = some (.string sa) ∧ w'.cell? ⟨A, 1, none⟩ = some (.int .u8 l) ∧ w'.cell? ⟨A, 2, none⟩ = some (.int .i64 m) ∧ Hid (Inv w w' A B s sa sb l m) :=
  ⟨h.2.1.1.2.1, h.2.1.1.2.2.1, h.2.1.1.2.2.2, h⟩
theorem Inv.last3 {w w' : World} {A B : Nat} {s sa sb : ByteArray} {l m : Int} (h : w'.cell? ⟨A, 0, none⟩ = some (.string sa) ∧ w'.cell? ⟨A, 1, none⟩ = some (.int .u8 l) ∧ w'.cell? ⟨A, 2, none⟩ = some (.int .i64 m) ∧ Hid (Inv w w' A B s sa sb l m)) :
    Inv w w' A B s sa sb l m := h.2.2.2
theorem Inv.keep3 {w w' w5 : World} {A B : Nat} {s sa sb : ByteArray} {l m : Int} (h : w'.cell? ⟨A, 0, none⟩ = some (.string sa) ∧ w'.cell? ⟨A, 1, none⟩ = some (.int .u8 l) ∧ w'.cell? ⟨A, 2, none⟩ = some (.int .i64 m) ∧ Hid (Inv w w' A B s sa sb l m)) (hb : Below w'.heap.size w' w5) :
    w5.cell? ⟨A, 0, none⟩ = some (.string sa) ∧ w5.cell? ⟨A, 1, none⟩ = some (.int .u8 l) ∧ w5.cell? ⟨A, 2, none⟩ = some (.int .i64 m) ∧ Hid (Inv w w5 A B s sa sb l m) :=
  Inv.all3 ((Inv.last3 h).step hb)
theorem Inv.stores {w w' : World} {A B : Nat} {s sa sb : ByteArray} {l m : Int} (h : Inv w w' A B s sa sb l m) (hA : w.heap.size < A) (hB : w.heap.size < B) (hAB : ¬ A = B) (ca cb : ByteArray) :
    Inv w ((((((w'.setCell ⟨A, 0, none⟩ (.string ca)).setCell ⟨A, 1, none⟩ (.int .u8 l)).setCell ⟨A, 2, none⟩ (.int .i64 m)).setCell ⟨B, 0, none⟩ (.string cb)).setCell ⟨B, 1, none⟩ (.int .u8 l)).setCell ⟨B, 2, none⟩ (.int .i64 m)) A B s ca cb l m :=
  ⟨(h.1.others A _ _ _ (by omega)).others B _ _ _ (by omega), (h.2.1.all _ _ _).others B _ _ _ (fun e => hAB e.symm), (h.2.2.1.others A _ _ _ hAB).all _ _ _, bset3 (bset3 h.2.2.2 A _ _ _ (by omega)) B _ _ _ (by omega)⟩

set_option maxRecDepth 100000 in
set_option maxHeartbeats 8000000 in
theorem apart_walk (s : ByteArray) (l m : Int) (a : Option Addr) (len cap : Nat) (Xs : Nat → Int) (Ss : Nat → ByteArray) (Bs : Nat → Int) (ao : Option Addr) (on oc : Nat) (O : Nat → ByteArray) (w : World) (hl : IsActs w a len cap Xs Ss Bs) (ho : IsStrs w ao on oc O) :
    Calls Try.prog 6 #[txt s l m, .slice a len cap, .slice ao on oc] w fun e w' => e = .returned (.bool true) ∧ Below w.heap.size w w' := by
  have HL := Lib.hid hl
  have HO := Lib.hid ho
  clear hl ho
  go_enter Try.func6, Try.ntmps6
  go_upto_region 3 with (go_at_call 16; refine (works_any _).mono ?_; rintro e w1 ⟨rfl, hbw⟩)
  have X1 := (AtF.newAt w _ rfl s l m 31).below hbw
  have E1 := Lib.hid (bstep (below1 w _) hbw)
  have HX := Lib.hid X1
  clear hbw X1
  go_cut [7, 8] (fun p q wc => ∃ A B, p = .pointer (some ⟨A, 0, none⟩) ∧ q = .pointer (some ⟨B, 0, none⟩) ∧ w.heap.size < A ∧ w.heap.size < B ∧ A ≠ B ∧ AtF wc w.heap.size s l m ∧ AtF wc A s l m ∧ AtF wc B s l m ∧ Below w.heap.size w wc)
  case first => as_aux_lemma =>
    obtain ⟨⟨hz, c0, c1, c2⟩, hfz⟩ := HX.out
    go_region
    · go_wp2_with fail
      go_meet
      case rel => exact ⟨w1.heap.size, w1.heap.size + 1, rfl, rfl, by omega, by omega, by omega, ((HX.out.past _).past _).drew, ((AtF.newAt w1 _ rfl s l m _).past _).drew, (AtF.newAt (w1.alloc _) _ (by simp) s l m _).drew, ((E1.out.alloc E1.out.size _).alloc (by simp; omega) _).drew⟩
    · go_wp2_with fail
      go_meet
      case rel => exact ⟨w1.heap.size + 1, w1.heap.size, rfl, rfl, by omega, by omega, by omega, ((HX.out.past _).past _).drew, (AtF.newAt (w1.alloc _) _ (by simp) s l m _).drew, ((AtF.newAt w1 _ rfl s l m _).past _).drew, ((E1.out.alloc E1.out.size _).alloc (by simp; omega) _).drew⟩
  case rest =>
    clear HX E1
    obtain ⟨A, B, rfl, rfl, hXA, hXB, hAB, hX, hA, hB, hE⟩ := hcut
    obtain ⟨wa, rfl⟩ : ∃ wx : World, wx = wc := ⟨_, rfl⟩
    have HI : Hid (Inv w wa A B s s s l m) := Lib.hid ⟨hX, hA, hB, hE⟩
    clear hX hA hB hE
    have nXA : ¬ w.heap.size = A := by omega
    have nAX : ¬ A = w.heap.size := by omega
    have nXB : ¬ w.heap.size = B := by omega
    have nBX : ¬ B = w.heap.size := by omega
    have nAB : ¬ A = B := hAB
    have nBA : ¬ B = A := fun e => hAB e.symm
    clear hAB
    go_upto_region 4 with (fail)
    go_cut [33] (fun v wc => (∃ g : Bool, v = .bool g ∧ (g = true → l ≠ 0 ∧ 0 < on)) ∧ wc = wa)
    case first => as_aux_lemma =>
      obtain ⟨⟨hz, c0, c1, c2⟩, hfz⟩ := HI.out.1
      by_cases hl0 : l = 0
      · subst hl0
        go_wp2_with fail
        go_meet
        case rel => exact ⟨⟨_, rfl, fun h => by cases h⟩, rfl⟩
      · have q : (l != 0) = true := by simp [hl0]
        by_cases ho : 0 < on
        · have q2 : decide ((0 : Int) < (on : Int)) = true := by simp; omega
          go_wp2_with fail
          go_meet
          case rel => exact ⟨⟨_, rfl, fun _ => ⟨hl0, ho⟩⟩, rfl⟩
        · have q2 : decide ((0 : Int) < (on : Int)) = false := by simp; omega
          go_wp2_with fail
          go_meet
          case rel => exact ⟨⟨_, rfl, fun h => by cases h⟩, rfl⟩
    case rest =>
      obtain ⟨⟨g, rfl, hg⟩, rfl⟩ := hcut
      have HG := Lib.hid hg
      clear hg
      obtain ⟨wa, rfl⟩ : ∃ wx : World, wx = wc := ⟨_, rfl⟩
      go_upto_if 33 with (fail)
      go_cut [] (fun wc => ∃ sb, (l = 0 → sb = s) ∧ Inv w wc A B s s sb l m)
      case first => as_aux_lemma =>
        cases g with
        | false =>
          go_wp2_with fail
          go_meet
          case rel => exact ⟨s, fun _ => rfl, HI.out⟩
        | true =>
          obtain ⟨hl0, ho0⟩ := HG.out rfl
          obtain ⟨_, _, hstr⟩ := HO.out
          obtain ⟨bo, oo, rfl, hbo, hco⟩ := hstr ho0
          have co := (HI.out.2.2.2.cell (p := ⟨bo, oo + 0, none⟩) hbo).trans (hco 0 ho0)
          rw [Nat.add_zero] at co
          clear hstr hco
          have q2 : (0 : Int) < (on : Int) := by omega
          obtain ⟨⟨⟨zx, x0, x1, x2⟩, fx⟩, ⟨⟨za, a0, a1, a2⟩, fa⟩, ⟨⟨zb, b0, b1, b2⟩, fb⟩, _⟩ := HI.out
          go_wp2_with fail
          go_meet
          case rel => exact ⟨O 0, fun h => absurd h hl0, HI.out.1.other _ _ _ nBX, HI.out.2.1.other _ _ _ nBA, HI.out.2.2.1.set0 _, HI.out.2.2.2.setCell (Nat.le_of_lt hXB) _⟩
      case rest =>
        clear HI HG
        obtain ⟨sb0, hsb0, hI0⟩ := hcut
        obtain ⟨wl, rfl⟩ : ∃ wx : World, wx = wc := ⟨_, rfl⟩
        have HS0 := Lib.hid hsb0
        have HI0 := Lib.hid hI0
        clear hsb0 hI0
        go_upto_region 6 with (fail)
        go_wp2_with fail
        go_loopg [9] 41 (fun g i wr => ∃ (k : Nat) (sa sb : ByteArray), g + k = 41 ∧ k ≤ 40 ∧ i = .int .i64 k ∧ (l = 0 → sb = sa) ∧ Inv w wr A B s sa sb l m)
        case atStart => exact ⟨0, s, sb0, rfl, by omega, rfl, HS0.out, HI0.out⟩
        case round =>
          obtain ⟨k, sa, sb, hk, hk40, rfl, hsab, hI⟩ := hrel
          have HS := Lib.hid hsab
          have HI := Lib.hid hI
          clear hsab hI
          by_cases hin : k < len ∧ k < 40
          · obtain ⟨hkl, hk4⟩ := hin
            have k4 : (k : Int) < 40 := by omega
            have k5 : (k : Int) < (len : Int) := by omega
            obtain ⟨_, _, hact, hcell⟩ := HL.out
            obtain ⟨b, off, rfl, hb, hc⟩ := hcell (by omega)
            obtain ⟨d0, d1, d2⟩ := hc k hkl
            obtain ⟨x0, x1, y0, y1, _⟩ := hact k hkl
            have D0 := Lib.hid d0
            have D1 := Lib.hid d1
            have D2 := Lib.hid d2
            clear hact hcell hc d0 d1 d2
            generalize Xs k = x at *
            generalize Bs k = y at *
            generalize Ss k = t at *
            go_upto_region 9 with (fail)
            go_cut [10, 11] (fun p q wc => p = .string t ∧ q = .string t ∧ Inv w wc A B s sa sb l m)
            case first => as_aux_lemma =>
              have c1 := (HI.out.2.2.2.cell (p := ⟨b, off + k * 3 + 1, none⟩) hb).trans D1.out
              go_quiet (fail)
              go_wp2_with fail
              go_meet
              case rel => exact ⟨rfl, rfl, HI.out.step (below_drewN (Below.refl _ _) _)⟩
            case rest =>
              clear HI
              obtain ⟨rfl, rfl, hI⟩ := hcut
              obtain ⟨wl, rfl⟩ : ∃ wx : World, wx = wc := ⟨_, rfl⟩
              have HI := Lib.hid hI
              clear hI
              go_upto_region 10 with (fail)
              go_cut [12] (fun p wc => (∃ q, p = .int .u8 q ∧ Bit q) ∧ Inv w wc A B s sa sb l m)
              case first => as_aux_lemma =>
                have c2 := (HI.out.2.2.2.cell (p := ⟨b, off + k * 3 + 2, none⟩) hb).trans D2.out
                go_wp2_with (go_at_call 24; refine (two_any _ _ (by assumption)).mono ?_; rintro e w' ⟨rfl, rfl⟩)
                go_meet
                case rel => exact ⟨⟨_, rfl, bit_mod y⟩, HI.out⟩
              case rest =>
                clear HI
                obtain ⟨⟨q, rfl, hq⟩, hI⟩ := hcut
                obtain ⟨wl, rfl⟩ : ∃ wx : World, wx = wc := ⟨_, rfl⟩
                have HI := Lib.hid hI
                have HQ := Lib.hid hq
                clear hI hq
                go_upto_region 11 with (fail)
                go_cut [70] (fun v wc => (∃ g : Bool, v = .bool g ∧ (g = true → q = 1 ∧ 0 < on)) ∧ wc = wl)
                case first => as_aux_lemma =>
                  rcases HQ.out with rfl | rfl
                  · go_wp2_with fail
                    go_meet
                    case rel => exact ⟨⟨_, rfl, fun h => by cases h⟩, rfl⟩
                  · by_cases ho : 0 < on
                    · have q2 : decide ((0 : Int) < (on : Int)) = true := by simp; omega
                      go_wp2_with fail
                      go_meet
                      case rel => exact ⟨⟨_, rfl, fun _ => ⟨by first | rfl | trivial, ho⟩⟩, rfl⟩
                    · have q2 : decide ((0 : Int) < (on : Int)) = false := by simp; omega
                      go_wp2_with fail
                      go_meet
                      case rel => exact ⟨⟨_, rfl, fun h => by cases h⟩, rfl⟩
                case rest =>
                  obtain ⟨⟨g, rfl, hg⟩, rfl⟩ := hcut
                  have HG := Lib.hid hg
                  clear hg
                  obtain ⟨wl, rfl⟩ : ∃ wx : World, wx = wc := ⟨_, rfl⟩
                  go_upto_if 70 with (fail)
                  go_cut [11] (fun v wc => (∃ t', v = .string t' ∧ (q = 0 → t' = t)) ∧ wc = wl)
                  case first => as_aux_lemma =>
                    cases g with
                    | false =>
                      go_wp2_with fail
                      go_meet
                      case rel => exact ⟨⟨t, rfl, fun _ => rfl⟩, rfl⟩
                    | true =>
                      obtain ⟨hq1, ho0⟩ := HG.out rfl
                      have HQ1 := Lib.hid hq1
                      clear hq1
                      obtain ⟨_, _, hstr⟩ := HO.out
                      obtain ⟨bo, oo, rfl, hbo, hco⟩ := hstr ho0
                      have hmod : k % on < on := Nat.mod_lt _ ho0
                      have co := (HI.out.2.2.2.cell (p := ⟨bo, oo + k % on, none⟩) hbo).trans (hco (k % on) hmod)
                      clear hstr hco
                      have q2 : (0 : Int) < (on : Int) := by omega
                      go_wp2_with fail
                      go_meet
                      case rel => exact ⟨⟨O (k % on), rfl, fun h => by have := HQ1.out; omega⟩, rfl⟩
                  case rest =>
                    clear HG
                    obtain ⟨⟨t', rfl, ht'⟩, rfl⟩ := hcut
                    have HT := Lib.hid ht'
                    clear ht'
                    obtain ⟨wl, rfl⟩ : ∃ wx : World, wx = wc := ⟨_, rfl⟩
                    go_upto_region 13 with (fail)
                    go_cut [84] (fun v wc => (∃ g : Bool, v = .bool g) ∧ wc = wl)
                    case first => as_aux_lemma =>
                      have c0 := (HI.out.2.2.2.cell (p := ⟨b, off + k * 3, none⟩) hb).trans D0.out
                      go_wp2_with fail
                      go_meet
                      case rel => exact ⟨⟨_, rfl⟩, rfl⟩
                    case rest =>
                      obtain ⟨⟨g, rfl⟩, rfl⟩ := hcut
                      obtain ⟨wl, rfl⟩ : ∃ wx : World, wx = wc := ⟨_, rfl⟩
                      cases g with
                      | true =>
                        have eS : seenS sb l 0 = seenS sa l 0 := seen_low sa sb l HS.out
                        by_cases hl0 : l = 0
                        · have g0 : (l == 0) = true := by simp [hl0]
                          have g1 : readE l 0 = 0 := by simp [readE, flowsB, hl0]
                          clear hl0
                          obtain ⟨⟨⟨zx, x0, x1, x2⟩, fx⟩, ⟨⟨za, a0, a1, a2⟩, fa⟩, ⟨⟨zb, b0, b1, b2⟩, fb⟩, _⟩ := HI.out
                          go_wp2_with fail
                          refine (read_any _ _ _ _ _).mono ?_
                          rintro e w3 ⟨rfl, hb3⟩
                          clear zx x0 x1 x2 fx za a0 a1 a2 fa zb b0 b1 b2 fb
                          replace HI := Lib.hid (HI.out.step hb3.below)
                          clear hb3
                          obtain ⟨⟨⟨zx, x0, x1, x2⟩, fx⟩, ⟨⟨za, a0, a1, a2⟩, fa⟩, ⟨⟨zb, b0, b1, b2⟩, fb⟩, _⟩ := HI.out
                          go_wp2_with fail
                          refine (read_any _ _ _ _ _).mono ?_
                          rintro e w4 ⟨rfl, hb4⟩
                          clear zx x0 x1 x2 fx za a0 a1 a2 fa zb b0 b1 b2 fb
                          replace HI := Lib.hid (HI.out.step hb4.below)
                          clear hb4
                          obtain ⟨⟨⟨zx, x0, x1, x2⟩, fx⟩, ⟨⟨za, a0, a1, a2⟩, fa⟩, ⟨⟨zb, b0, b1, b2⟩, fb⟩, _⟩ := HI.out
                          go_wp2_with fail
                          go_roundg (gk - 1)
                          case measure => omega
                          case rel => exact ⟨k + 1, sa, sb, by omega, by omega, by go_num, HS.out, HI.out⟩
                        · have g0 : (l == 0) = false := by simp [hl0]
                          have g1 : readE l 0 = 6 := by simp [readE, flowsB, hl0]
                          clear hl0
                          obtain ⟨⟨⟨zx, x0, x1, x2⟩, fx⟩, ⟨⟨za, a0, a1, a2⟩, fa⟩, ⟨⟨zb, b0, b1, b2⟩, fb⟩, _⟩ := HI.out
                          go_wp2_with fail
                          refine (read_any _ _ _ _ _).mono ?_
                          rintro e w3 ⟨rfl, hb3⟩
                          clear zx x0 x1 x2 fx za a0 a1 a2 fa zb b0 b1 b2 fb
                          replace HI := Lib.hid (HI.out.step hb3.below)
                          clear hb3
                          obtain ⟨⟨⟨zx, x0, x1, x2⟩, fx⟩, ⟨⟨za, a0, a1, a2⟩, fa⟩, ⟨⟨zb, b0, b1, b2⟩, fb⟩, _⟩ := HI.out
                          go_wp2_with fail
                          refine (read_any _ _ _ _ _).mono ?_
                          rintro e w4 ⟨rfl, hb4⟩
                          clear zx x0 x1 x2 fx za a0 a1 a2 fa zb b0 b1 b2 fb
                          replace HI := Lib.hid (HI.out.step hb4.below)
                          clear hb4
                          obtain ⟨⟨⟨zx, x0, x1, x2⟩, fx⟩, ⟨⟨za, a0, a1, a2⟩, fa⟩, ⟨⟨zb, b0, b1, b2⟩, fb⟩, _⟩ := HI.out
                          go_wp2_with fail
                          go_roundg (gk - 1)
                          case measure => omega
                          case rel => exact ⟨k + 1, sa, sb, by omega, by omega, by go_num, HS.out, HI.out⟩
                      | false =>
                        obtain ⟨⟨⟨zx, x0, x1, x2⟩, fx⟩, ⟨⟨za, a0, a1, a2⟩, fa⟩, ⟨⟨zb, b0, b1, b2⟩, fb⟩, _⟩ := HI.out
                        go_wp2_with fail
                        refine (write_any _ _ _ _ _ _).mono ?_
                        rintro e w3 ⟨rfl, hb3⟩
                        clear zx x0 x1 x2 fx za a0 a1 a2 fa zb b0 b1 b2 fb
                        have HW := Lib.hid ((AtF.newAt wl _ rfl sa l m 31).below hb3.below)
                        replace HI := Lib.hid ((HI.out.step (below1 wl _)).step hb3.below)
                        clear hb3
                        obtain ⟨⟨⟨zx, x0, x1, x2⟩, fx⟩, ⟨⟨za, a0, a1, a2⟩, fa⟩, ⟨⟨zb, b0, b1, b2⟩, fb⟩, _⟩ := HI.out
                        go_wp2_with fail
                        refine (write_any _ _ _ _ _ _).mono ?_
                        rintro e w4 ⟨rfl, hb4⟩
                        clear zx x0 x1 x2 fx za a0 a1 a2 fa zb b0 b1 b2 fb
                        have HC := Lib.hid ((AtF.newAt w3 _ rfl (wrS sa t l m q) l m 31).below hb4.below)
                        have nAC : ¬ A = w3.heap.size := by have := HI.out.2.1.1.1; omega
                        have nBC : ¬ B = w3.heap.size := by have := HI.out.2.2.1.1.1; omega
                        have nCA : ¬ w3.heap.size = A := fun h => nAC h.symm
                        have nCB : ¬ w3.heap.size = B := fun h => nBC h.symm
                        replace HW := Lib.hid ((HW.out.past (obj (wrS sa t l m q) l m)).below hb4.below)
                        replace HI := Lib.hid ((HI.out.step (below1 w3 (obj (wrS sa t l m q) l m))).step hb4.below)
                        clear hb4
                        have nAD : ¬ A = w4.heap.size := by have := HI.out.2.1.1.1; omega
                        have nBD : ¬ B = w4.heap.size := by have := HI.out.2.2.1.1.1; omega
                        have nDA : ¬ w4.heap.size = A := fun h => nAD h.symm
                        have nDB : ¬ w4.heap.size = B := fun h => nBD h.symm
                        have HD := Lib.hid (AtF.newAt w4 _ rfl (wrS sb t' l m q) l m 31)
                        replace HC := Lib.hid (HC.out.past (obj (wrS sb t' l m q) l m))
                        replace HW := Lib.hid (HW.out.past (obj (wrS sb t' l m q) l m))
                        replace HI := Lib.hid (HI.out.step (below1 w4 (obj (wrS sb t' l m q) l m)))
                        go_upto_region 21 with (fail)
                        go_cut [159] (fun v wc => v = .bool false ∧ wc = w4.alloc (obj (wrS sb t' l m q) l m))
                        case first => as_aux_lemma =>
                          obtain ⟨⟨⟨zx, x0, x1, x2⟩, fx⟩, ⟨⟨za, a0, a1, a2⟩, fa⟩, ⟨⟨zb, b0, b1, b2⟩, fb⟩, _⟩ := HI.out
                          obtain ⟨⟨zw, e0, e1, e2⟩, fw⟩ := HW.out
                          obtain ⟨⟨zc, c0, c1, c2⟩, fc⟩ := HC.out
                          rcases HQ.out with rfl | rfl
                          · obtain rfl : t' = t := HT.out rfl
                            by_cases hE : wrE t' l m 0 = 0
                            · have g1 : (wrE t' l m 0 != 0) = false := by simp [hE]
                              clear hE
                              go_wp2_with fail
                              go_meet
                              case rel => exact ⟨rfl, rfl⟩
                            · have g1 : (wrE t' l m 0 != 0) = true := by simp [hE]
                              have g2 : wrS sa t' l m 0 = sa := wrS_same hE
                              clear hE
                              go_wp2_with fail
                              go_meet
                              case rel => exact ⟨rfl, rfl⟩
                          · by_cases hl0 : l = 0
                            · have g0 : (l == 0) = true := by simp [hl0]
                              have g1 : wrE t l m 1 = 6 := by simp [wrE, flowsB, hl0]
                              have g2 : wrS sa t l m 1 = sa := by simp [wrS, flowsB, hl0]
                              clear hl0
                              go_wp2_with fail
                              go_meet
                              case rel => exact ⟨rfl, rfl⟩
                            · have g0 : (l == 0) = false := by simp [hl0]
                              clear hl0
                              by_cases hE : wrE t l m 1 = 0
                              · have g1 : (wrE t l m 1 != 0) = false := by simp [hE]
                                clear hE
                                go_wp2_with fail
                                go_meet
                                case rel => exact ⟨rfl, rfl⟩
                              · have g1 : (wrE t l m 1 != 0) = true := by simp [hE]
                                have g2 : wrS sa t l m 1 = sa := wrS_same hE
                                clear hE
                                go_wp2_with fail
                                go_meet
                                case rel => exact ⟨rfl, rfl⟩
                        case rest =>
                          clear HW
                          obtain ⟨rfl, rfl⟩ := hcut
                          have hN : l = 0 → wrS sb t' l m q = wrS sa t l m q := wr_next HQ.out HS.out HT.out
                          have eS : seenS (wrS sb t' l m q) l 0 = seenS (wrS sa t l m q) l 0 := seen_low _ _ l hN
                          have HN := Lib.hid hN
                          clear hN
                          generalize wrS sa t l m q = ca at *
                          generalize wrS sb t' l m q = cb at *
                          generalize wrE t l m q = ea at *
                          generalize wrE t' l m q = eb at *
                          obtain ⟨⟨⟨zx, x0, x1, x2⟩, fx⟩, ⟨⟨za, a0, a1, a2⟩, fa⟩, ⟨⟨zb, b0, b1, b2⟩, fb⟩, _⟩ := HI.out
                          obtain ⟨⟨zc, c0, c1, c2⟩, fc⟩ := HC.out
                          obtain ⟨⟨zd, e0, e1, e2⟩, fd⟩ := HD.out
                          go_upto_region 25 with (fail)
                          clear zx x0 x1 x2 fx za a0 a1 a2 fa zb b0 b1 b2 fb
                          clear zc c0 c1 c2 fc zd e0 e1 e2 fd
                          have HI2 := Lib.hid (Inv.stores HI.out hXA hXB nAB ca cb)
                          clear HI HC HD
                          go_cut [180] (fun v wc => v = .bool false ∧ Inv w wc A B s ca cb l m)
                          case first => as_aux_lemma =>
                            go_region_held3 (fun w' => w'.cell? ⟨w.heap.size, 0, none⟩ = some (.string s) ∧ w'.cell? ⟨w.heap.size, 1, none⟩ = some (.int .u8 l) ∧ w'.cell? ⟨w.heap.size, 2, none⟩ = some (.int .i64 m) ∧ w'.cell? ⟨A, 0, none⟩ = some (.string ca) ∧ w'.cell? ⟨A, 1, none⟩ = some (.int .u8 l) ∧ w'.cell? ⟨A, 2, none⟩ = some (.int .i64 m) ∧ w'.cell? ⟨B, 0, none⟩ = some (.string cb) ∧ w'.cell? ⟨B, 1, none⟩ = some (.int .u8 l) ∧ w'.cell? ⟨B, 2, none⟩ = some (.int .i64 m) ∧ Hid (Inv w w' A B s ca cb l m))
                              (first | exact Inv.keep (by assumption) hb6.below | exact Inv.all (Inv.drew (Hid.out HI2)))
                              (first | (go_at_call 22; refine (seen_any _ _ _ _ _).mono ?_; rintro e w6 ⟨rfl, hb6⟩))
                            go_wp2_with fail
                            go_meet
                            case rel => exact ⟨rfl, Inv.last (by assumption)⟩
                          case rest =>
                            clear HI2
                            obtain ⟨rfl, hI⟩ := hcut
                            have HI := Lib.hid hI
                            clear hI
                            go_wp2_with fail
                            go_roundg (gk - 1)
                            case measure => omega
                            case rel => exact ⟨k + 1, ca, cb, by omega, by omega, by go_num, HN.out, HI.out⟩
          · have t1 : seenS sa l 1 = sa := by simp [seenS, flowsB]
            have t2 : seenS sa 0 0 = sa := by simp [seenS, flowsB]
            by_cases hkl : k < len
            · have hk4 : k = 40 := by omega
              subst hk4
              go_upto_region 27 with (fail)
              go_region_held3 (fun w' => w'.cell? ⟨A, 0, none⟩ = some (.string sa) ∧ w'.cell? ⟨A, 1, none⟩ = some (.int .u8 l) ∧ w'.cell? ⟨A, 2, none⟩ = some (.int .i64 m) ∧ Hid (Inv w w' A B s sa sb l m))
                (first | exact Inv.keep3 (by assumption) hb6.below | exact Inv.all3 (Inv.drew (Hid.out HI)))
                (first | (go_at_call 22; refine (seen_any _ _ _ _ _).mono ?_; rintro e w6 ⟨rfl, hb6⟩) | (go_at_call 17; refine (declassify_any _ _ _ _).mono ?_; rintro e w6 ⟨rfl, hb6⟩))
              go_wp2_with fail
              go_ret
              exact ⟨rfl, (Inv.last3 (by assumption)).2.2.2⟩
            · go_upto_region 27 with (fail)
              go_region_held3 (fun w' => w'.cell? ⟨A, 0, none⟩ = some (.string sa) ∧ w'.cell? ⟨A, 1, none⟩ = some (.int .u8 l) ∧ w'.cell? ⟨A, 2, none⟩ = some (.int .i64 m) ∧ Hid (Inv w w' A B s sa sb l m))
                (first | exact Inv.keep3 (by assumption) hb6.below | exact Inv.all3 (Inv.drew (Hid.out HI)))
                (first | (go_at_call 22; refine (seen_any _ _ _ _ _).mono ?_; rintro e w6 ⟨rfl, hb6⟩) | (go_at_call 17; refine (declassify_any _ _ _ _).mono ?_; rintro e w6 ⟨rfl, hb6⟩))
              go_wp2_with fail
              go_ret
              exact ⟨rfl, (Inv.last3 (by assumption)).2.2.2⟩

theorem labelApart_walk {H : Type} (enc : TypeId × Value → H) (base : Nat) (W : World) (v0 : Value) (d0 : DataW H) (p0 : List MemPlace) (ok0 : Value.okWide Try.prog W .any base 31 v0) (k0 : DataW.Trod enc Try.prog W 0 (fun _ => true) true 31 v0 d0 p0)
    (v1 : Value) (d1 : DataW H) (p1 : List MemPlace) (ok1 : Value.okWide Try.prog W .any base 32 v1) (k1 : DataW.Trod enc Try.prog W 0 (fun _ => true) true 32 v1 d1 p1)
    (v2 : Value) (d2 : DataW H) (p2 : List MemPlace) (ok2 : Value.okWide Try.prog W .any base 51 v2) (k2 : DataW.Trod enc Try.prog W 0 (fun _ => true) true 51 v2 d2 p2) :
    Calls Try.prog 6 #[v0, v1, v2] W fun e w' => e = .returned (.bool true) ∧ Below W.heap.size W w' := by
  obtain ⟨s, l, m, rfl, _⟩ := open_text enc base W ok0 k0
  obtain ⟨a, len, cap, X, S, B, rfl, hl⟩ := open_acts enc base W ok1 k1
  obtain ⟨ao, on, oc, O, rfl, ho⟩ := open_strs' enc base W ok2 k2
  exact apart_walk s l m a len cap X S B ao on oc O W hl ho

end Go.Proofs.Yteelegmpadfoeaa.Lab
