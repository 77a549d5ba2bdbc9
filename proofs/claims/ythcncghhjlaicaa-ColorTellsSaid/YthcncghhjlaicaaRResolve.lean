/- What the document's answer for Resolve is. -/
import Derived.Test.YthcncghhjlaicaaResolve
import Derived.Test.YthcncghhjlaicaaRThree
namespace Go.Proofs.Ythcncghhjlaicaa.Lab
open Go.RowKit

set_option maxHeartbeats 4000000 in
theorem rresolve_any (k r g b : Nat) (hr : r < 256) (hg : g < 256) (hb : b < 256) (a : Option Addr) (n c : Nat) (ps : List V) (o : V) (w : World) (h : PalS w a n ps) :
    Calls Try.prog 12 #[colA k r g b, .slice a n c, valT o] w (ValPost (resV k r g b ps o) w) := by
  have hlen := h.len.1
  have hmax := h.len.2
  unfold maxLen at hmax
  have H := Lib.hid h
  clear h
  by_cases h2 : k = 2
  · have t2 : ((k : Int) == 2) = true := by simp; omega
    have HU := Lib.hid (show resV k r g b ps o = (257 * r, 257 * g, 257 * b) from by unfold resV; rw [if_pos h2])
    clear h2 hlen
    go_enter Try.func12, Try.ntmps12
    go_wp2_with fail
    refine (rof_any r g b hr hg hb _).mono ?_
    rintro e w5 ⟨rfl, hb5⟩
    have hv := V3.below (V3.newAt ((w.alloc (.cells #[.int .u8 k, .int .u8 r, .int .u8 g, .int .u8 b] 26)).alloc (.cells #[.int .u16 o.1, .int .u16 o.2.1, .int .u16 o.2.2] 30)) (w.heap.size + 1 + 1) (by simp) 0 0 0 30) hb5
    obtain ⟨⟨s2, s3, s4⟩, s5, s6, s7⟩ := hv.s
    go_wp2
    refine bodyPost_ret (v := valT (257 * r, 257 * g, 257 * b)) (by simp [results, Try.results12, go_sem, s2, s3, s4]) rfl (res_end HU.out rfl ?_)
    exact (((bstep ((((Below.refl _ _).alloc (Nat.le_refl _) _).alloc (by simp) _).alloc (by simp; omega) _) hb5).setCell (by simp; omega) _).setCell (by simp; omega) _).setCell (by simp; omega) _
  · have t2 : ((k : Int) == 2) = false := by simp; omega
    by_cases h1 : k = 1
    · have t1 : ((k : Int) == 1) = true := by simp; omega
      by_cases hlt : r < n
      · have HU := Lib.hid (show resV k r g b ps o = ps[r]?.getD (0, 0, 0) from by unfold resV; rw [if_neg h2, if_pos ⟨h1, by omega⟩])
        clear h1 h2 hlen
        obtain ⟨b', off, rfl, hp⟩ : ∃ b off, a = some ⟨b, off, none⟩ ∧ PalAt w b off n ps := by
          rcases H.out with ⟨h0, _⟩ | h
          · omega
          · exact h
        obtain ⟨_, c0, c1, c2⟩ := hp.2.2.2 r hlt
        have hbl := hp.1
        generalize ps[r]?.getD (0, 0, 0) = u at *
        clear hp
        have l1 : b' < w.heap.size + 1 := by omega
        have l2 : b' < w.heap.size + 1 + 1 := by omega
        have i1 : ¬ b' = w.heap.size := by omega
        have i2 : ¬ b' = w.heap.size + 1 := by omega
        have i3 : ¬ b' = w.heap.size + 1 + 1 := by omega
        clear H
        go_enter Try.func12, Try.ntmps12
        go_wp2
        refine bodyPost_ret (v := valT u) (by simp [results, Try.results12, go_sem]) rfl (res_end HU.out rfl ?_)
        exact (((Below.refl _ _).alloc (Nat.le_refl _) _).alloc (by simp) _).alloc (by simp; omega) _
      · have HU := Lib.hid (show resV k r g b ps o = o from by unfold resV; rw [if_neg h2, if_neg (by omega)])
        clear h1 h2 hlen
        go_enter Try.func12, Try.ntmps12
        go_wp2
        refine bodyPost_ret (v := valT o) (by simp [results, Try.results12, go_sem]) rfl (res_end HU.out rfl ?_)
        exact (((Below.refl _ _).alloc (Nat.le_refl _) _).alloc (by simp) _).alloc (by simp; omega) _
    · have t1 : ((k : Int) == 1) = false := by simp; omega
      have HU := Lib.hid (show resV k r g b ps o = o from by unfold resV; rw [if_neg h2, if_neg (by omega)])
      clear h1 h2 hlen
      go_enter Try.func12, Try.ntmps12
      go_wp2
      refine bodyPost_ret (v := valT o) (by simp [results, Try.results12, go_sem]) rfl (res_end HU.out rfl ?_)
      exact (((Below.refl _ _).alloc (Nat.le_refl _) _).alloc (by simp) _).alloc (by simp; omega) _
end Go.Proofs.Ythcncghhjlaicaa.Lab
