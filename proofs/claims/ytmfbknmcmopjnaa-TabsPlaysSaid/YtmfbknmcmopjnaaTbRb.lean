/- The reference's Back, None. -/
import Derived.Test.YtmfbknmcmopjnaaTbRl
set_option linter.unusedVariables false
namespace Go.Proofs.Ytmfbknmcmopjnaa.Lab
open Go Go.RowKit Go.Shelf

def Bx (L : List Bool) (T : Nat) (m x : Int) : Prop := (L.length = 0 ∧ T = 0 ∧ m ≤ 9223372036854775807 ∧ 1 ≤ m ∧ x ≤ 600 ∧ -1 ≤ x) ∨ ∃ j a : Nat, x = (a : Int) - 1 ∧ a ≤ L.length ∧ m = (j : Int) + 1 ∧ (downs L a).getD j 0 = T ∧ m ≤ 9223372036854775807
set_option maxHeartbeats 4000000 in
set_option maxRecDepth 100000 in
theorem rback_any (v : Value) (t : Tb) (w : World) (h : BIn w v t.L) (hl : t.L.length ≤ 512) (c n : Int) (hc1 : -100000 ≤ c) (hc2 : c ≤ 100000) (hn1 : -100000 ≤ n) (hn2 : n ≤ 9223372036854775807) :
    Calls Try.prog 23 #[rV v t, .int .i64 c, .int .i64 n] w fun e w' => e = .returned (.int .i64 (backM t.L c n : Nat)) ∧ Below w.heap.size w w' := by
  obtain ⟨va, vc, rfl⟩ := h.shape
  obtain ⟨L, hL⟩ : ∃ L, L = t.L := ⟨_, rfl⟩
  rw [← hL] at h hl ⊢
  clear hL
  obtain ⟨T, hT⟩ : ∃ T, T = backM L c n := ⟨_, rfl⟩
  rw [← hT]
  obtain ⟨ln, hln⟩ : ∃ ln, ln = L.length := ⟨_, rfl⟩
  rw [← hln] at h hl ⊢
  have HI := Lib.hid h
  have HN := Lib.hid hln
  obtain ⟨la, hla⟩ : ∃ x, x = lastM L := ⟨_, rfl⟩
  obtain ⟨z, hz⟩ : ∃ z : Int, z = (ln : Int) - 1 := ⟨_, rfl⟩
  have u1 : IntKind.i64.wrap ((ln : Int) - 1) = z := by rw [IntKind.wrap_i64]; omega
  have m1 := mx 0 z (la : Nat) (by rw [hz, hla]; unfold lastM; omega)
  have hlz : (la : Int) = max 0 z := by rw [hz, hla]; unfold lastM; omega
  have HLA := Lib.hid hla
  obtain ⟨b, hb⟩ : ∃ b, b = w.heap.size := ⟨_, rfl⟩
  obtain ⟨w1, hw1⟩ : ∃ x, x = w.alloc (.cells #[.slice va ln vc, .int .u8 (t.l : Nat), .int .u8 (t.b : Nat)] RT) := ⟨_, rfl⟩
  have HB1 := Lib.hid (show Below w.heap.size w w1 by rw [hw1]; exact (Below.refl _ _).alloc (Nat.le_refl _) _)
  have HC1 := Lib.hid (show w1.cell? ⟨b, 0, none⟩ = some (.slice va ln vc) by rw [hw1, hb]; simp)
  have HS := Lib.hid (show b < w1.heap.size by rw [hw1, hb]; simp)
  by_cases hnn : n < 1
  · obtain ⟨y, hy⟩ : ∃ y : Int, y = min c (la : Int) := ⟨_, rfl⟩
    have m2 := mn c (la : Nat) y hy.symm
    have m3 := mx 0 y (T : Nat) (by
      rw [hT, hy]
      unfold backM edgeM inN
      rw [if_pos hnn, ← HLA.out]
      omega)
    clear hT hla hz hl h hy hln hlz
    go_enter Try.func23, Try.ntmps23
    go_wp2
    rw [← hw1]
    go_ret
    exact ⟨rfl, HB1.out⟩
  · obtain ⟨p, hp⟩ : ∃ p : Int, p = max 0 c := ⟨_, rfl⟩
    have m2 := mx 0 c p hp.symm
    obtain ⟨q, hq⟩ : ∃ q : Int, q = p - 1 := ⟨_, rfl⟩
    have u2 : IntKind.i64.wrap (p - 1) = q := by rw [IntKind.wrap_i64]; omega
    obtain ⟨x0, hx0⟩ : ∃ x : Int, x = min q (la : Int) := ⟨_, rfl⟩
    have m3 := mn q (la : Nat) x0 hx0.symm
    have H0 := Lib.hid (show Bx L T n x0 by
      by_cases h0 : L.length = 0
      · refine .inl ⟨h0, ?_, hn2, by omega, by omega, by omega⟩
        have : L = [] := List.length_eq_zero_iff.1 h0
        rw [hT, this]
        unfold backM
        rw [if_neg hnn, downs_eq]
        simp [lows]
      · refine .inr ⟨(n - 1).toNat, (inN c (-1) L.length).toNat, ?_, ?_, by omega, ?_, hn2⟩
        · unfold inN; omega
        · unfold inN; omega
        · rw [hT]
          unfold backM
          rw [if_neg hnn])
    have HL5 := Lib.hid hl
    clear hT hla hz hl h hln hx0 hq hp hn1 hn2 hc1 hc2 hlz
    go_enter Try.func23, Try.ntmps23
    go_wp2
    rw [← hw1, ← hb]
    clear hw1 hb
    go_loopw [2, 8] (fun v i wr => ∃ (m x : Int), v = .int .i64 m ∧ i = .int .i64 x ∧ Hid (Bx L T m x) ∧ Hid (Below w1.heap.size w1 wr)) (fun _ i wr => (intOf i + 1).toNat)
    case atStart => exact ⟨n, x0, rfl, rfl, H0, Lib.hid (Below.refl _ _)⟩
    case round =>
      obtain ⟨m, x, rfl, rfl, HJ, HB⟩ := hrel
      have c0 := (HB.out.cell (p := ⟨b, 0, none⟩) HS.out).trans HC1.out
      clear H0 m1 m2 m3 u1 u2
      by_cases hxx : 0 ≤ x
      · by_cases h0 : ln = 0
        · have HE := Lib.hid (show T = 0 by
            rcases HJ.out with ⟨_, h, _⟩ | ⟨j, a, h1, h2, _⟩
            · exact h
            · have := HN.out; omega)
          have h0' : ¬ 0 < ln := by omega
          subst h0
          go_wp2
          go_ret
          refine ⟨ret_int ?_, by first | exact HB1.out.trans (HB.out.mono HB1.out.size) | exact below_drewN (HB1.out.trans (HB.out.mono HB1.out.size)) _⟩
          rw [HE.out]
          rfl
        · have h0' : 0 < ln := by omega
          obtain ⟨j, a', hxa, hal, hmj, hT, hmm⟩ : ∃ j a : Nat, x = (a : Int) - 1 ∧ a ≤ L.length ∧ m = (j : Int) + 1 ∧ (downs L a).getD j 0 = T ∧ m ≤ 9223372036854775807 := by
            rcases HJ.out with ⟨h, _⟩ | h
            · have := HN.out; omega
            · exact h
          clear HJ
          obtain ⟨a, rfl⟩ : ∃ a, a' = a + 1 := ⟨a' - 1, by omega⟩
          obtain rfl : x = (a : Int) := by omega
          have haL : a < L.length := by omega
          have hlt : a < ln := by rw [HN.out]; exact haL
          obtain ⟨x', hx'⟩ : ∃ x' : Int, x' = (a : Int) - 1 := ⟨_, rfl⟩
          have u3 : IntKind.i64.wrap ((a : Int) - 1) = x' := by rw [IntKind.wrap_i64]; have := HL5.out; omega
          have HX' := Lib.hid hx'
          clear hx' hxa h0
          obtain ⟨g, o, hva, hc⟩ := ((HI.out.below HB1.out).below HB.out).get haL
          subst hva
          have hu : downs L (a + 1) = if L.getD a false then a :: downs L a else downs L a := rfl
          cases hx : L.getD a false with
          | true =>
            have hu' : downs L (a + 1) = a :: downs L a := by rw [hu, hx]; rfl
            rw [hu'] at hT
            rw [hx] at hc
            obtain ⟨y, hy⟩ : ∃ y, y = m - 1 := ⟨_, rfl⟩
            have u4 : IntKind.i64.wrap (m - 1) = y := by rw [IntKind.wrap_i64]; omega
            by_cases hy0 : y = 0
            · have HE := Lib.hid (show a = T by
                obtain rfl : j = 0 := by omega
                simpa using hT)
              subst hy0
              clear hT hu hu' hmj hmm hy haL hx hal
              go_wp2
              go_ret
              refine ⟨ret_int ?_, by first | exact HB1.out.trans (HB.out.mono HB1.out.size) | exact below_drewN (HB1.out.trans (HB.out.mono HB1.out.size)) _⟩
              rw [HE.out]
            · have q0 : (y == 0) = false := by simp [hy0]
              have HJ' := Lib.hid (show Bx L T y x' by
                obtain ⟨i, rfl⟩ : ∃ i, j = i + 1 := ⟨j - 1, by omega⟩
                exact .inr ⟨i, a, HX'.out, by omega, by omega, getD_step hT, by omega⟩)
              clear hT hu hu' hmj hmm hy haL hx hy0 hal
              go_wp2
              go_roundw
              case rel => exact ⟨y, x', rfl, rfl, HJ', by first | exact HB | exact Lib.hid (below_drewN HB.out _)⟩
              case measure => simp only [intOf]; have := HX'.out; omega
          | false =>
            have hu' : downs L (a + 1) = downs L a := by rw [hu, hx]; rfl
            rw [hu'] at hT
            rw [hx] at hc
            have q0 : (m == 0) = false := by
              have : m ≠ 0 := by omega
              simp [this]
            have HJ' := Lib.hid (show Bx L T m x' from .inr ⟨j, a, HX'.out, by omega, hmj, hT, hmm⟩)
            clear hT hu hu' hmj hmm haL hx hal
            go_wp2
            go_roundw
            case rel => exact ⟨m, x', rfl, rfl, HJ', by first | exact HB | exact Lib.hid (below_drewN HB.out _)⟩
            case measure => simp only [intOf]; have := HX'.out; omega
      · have HE := Lib.hid (show T = 0 by
          rcases HJ.out with ⟨_, h, _⟩ | ⟨j, a, h1, h2, h3, h4, _⟩
          · exact h
          · obtain rfl : a = 0 := by omega
            rw [← h4]
            rfl)
        go_wp2
        go_ret
        refine ⟨ret_int ?_, by first | exact HB1.out.trans (HB.out.mono HB1.out.size) | exact below_drewN (HB1.out.trans (HB.out.mono HB1.out.size)) _⟩
        rw [HE.out]
        rfl
end Go.Proofs.Ytmfbknmcmopjnaa.Lab
