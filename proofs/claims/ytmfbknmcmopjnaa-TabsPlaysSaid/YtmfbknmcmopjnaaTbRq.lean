/- The reference's Set, Clear, Resize. -/
import Derived.Test.YtmfbknmcmopjnaaTbRp
set_option linter.unusedVariables false
namespace Go.Proofs.Ytmfbknmcmopjnaa.Lab
open Go Go.RowKit Go.Shelf

theorem BIn.but {w w' : World} {r : Nat} {v : Value} {L : List Bool} {sa : Option Addr} {sn sc : Nat} {k1 k2 : IntKind} {y1 y2 : Int} (h : BIn w v L) (hr : w.heap[r]? = some (.cells #[.slice sa sn sc, .int k1 y1, .int k2 y2] RT (0, 0))) (k : But r w w') : BIn w' v L := by
  obtain ⟨a, c, e, hh, hz⟩ := h
  refine ⟨a, c, e, fun h0 => ?_, hz⟩
  obtain ⟨g, o, ea, hg, hC⟩ := hh h0
  have hne : g ≠ r := by
    rintro rfl
    have := hC 0 h0
    rw [cell_of_row w g (o + 0) _ _ _ hr, Nat.add_zero] at this
    match o with
    | 0 => simp at this
    | 1 => simp at this
    | 2 => simp at this
    | o + 3 => simp at this
  refine ⟨g, o, ea, Nat.lt_of_lt_of_le hg k.size, fun i hi => ?_⟩
  exact (World.cell?_of_block (a := ⟨g, o + i, none⟩) (k.block g hg (fun e => hne (by injection e)))).trans (hC i hi)
/-- A result's block r of the call's own, filled by what a call has answered. -/
theorem fin4 {w wr wz : World} {r : Nat} {t : Tb} {cv : Value} {sa : Option Addr} {sn sc : Nat} {k1 k2 : IntKind} {y1 y2 : Int} (hb : wr.heap[r]? = some (.cells #[.slice sa sn sc, .int k1 y1, .int k2 y2] RT (0, 0))) (ho : BIn wr cv t.L) (hB : Below w.heap.size w wr) (hr : w.heap.size ≤ r)
    (hz : wz = ((wr.setCell ⟨r, 0, none⟩ cv).setCell ⟨r, 1, none⟩ (.int .u8 (t.l : Nat))).setCell ⟨r, 2, none⟩ (.int .u8 (t.b : Nat))) :
    wz.heap[r]? = some (.cells #[cv, .int .u8 (t.l : Nat), .int .u8 (t.b : Nat)] RT (0, 0)) ∧ Below w.heap.size w wz ∧ BIn wz cv t.L := by
  have a0 := heap_setCell_same wr r 0 _ _ cv hb
  have a1 := heap_setCell_same _ r 1 _ _ (.int .u8 (t.l : Nat)) a0
  have a2 := heap_setCell_same _ r 2 _ _ (.int .u8 (t.b : Nat)) a1
  have hbt : But r wr wz := by rw [hz]; exact ((But.set wr r 0 _).trans (But.set _ r 1 _)).trans (But.set _ r 2 _)
  exact ⟨by rw [hz]; exact a2, hB.trans (hbt.below (C := w.heap.size) hr hB.size), ho.but hb hbt⟩
set_option maxHeartbeats 4000000 in
set_option maxRecDepth 100000 in
theorem rset_any (v : Value) (t : Tb) (l : Nat) (cv : Value) (cs : List Int) (w : World) (h : BIn w v t.L) (hl : t.L.length ≤ 512) (hcs : IsIn w cv cs) (hcl : cs.length ≤ 1000) :
    Calls Try.prog 42 #[rV v t, .int .u8 (l : Nat), cv] w (RAns w (t.put true l cs)) := by
  obtain ⟨va, vc, rfl⟩ := h.shape
  obtain ⟨ca, cc, rfl⟩ := hcs.shape
  obtain ⟨n, hn⟩ : ∃ n, n = t.L.length := ⟨_, rfl⟩
  obtain ⟨m, hm⟩ : ∃ m, m = cs.length := ⟨_, rfl⟩
  have HP := Lib.hid (fun w' (k : Below w.heap.size w w') => rput_any _ t l _ cs true w' (h.below k) hl (hcs.below k) hcl)
  rw [← hn, ← hm] at HP
  rw [← hn, ← hm]
  clear h hcs hl hcl hn hm
  obtain ⟨T, hT⟩ : ∃ T, T = t.put true l cs := ⟨_, rfl⟩
  rw [← hT] at HP ⊢
  clear hT
  obtain ⟨b, hb⟩ : ∃ b, b = w.heap.size := ⟨_, rfl⟩
  obtain ⟨w1, hw1⟩ : ∃ x, x = (w.alloc (.cells #[.slice va n vc, .int .u8 (t.l : Nat), .int .u8 (t.b : Nat)] RT)).alloc (.cells #[.slice none 0 0, .int .u8 0, .int .u8 0] RT) := ⟨_, rfl⟩
  have HB1 := Lib.hid (show Below w.heap.size w w1 by rw [hw1]; exact two_allocs w _ _)
  have HR0 := Lib.hid (show w1.heap[b + 1]? = some (.cells #[.slice none 0 0, .int .u8 0, .int .u8 0] RT (0, 0)) by
    have := World.alloc_heap_new (w.alloc (.cells #[.slice va n vc, .int .u8 (t.l : Nat), .int .u8 (t.b : Nat)] RT)) (.cells #[.slice none 0 0, .int .u8 0, .int .u8 0] RT)
    rw [World.size_alloc, ← hw1, ← hb] at this
    exact this)
  have HBE := Lib.hid hb
  have HC := Lib.hid (HP.out w1 HB1.out)
  clear HP
  go_enter Try.func42, Try.ntmps42
  go_wp2_with fail
  rw [← hw1, ← hb]
  refine HC.out.mono ?_
  rintro e w3 ⟨v3, rfl, hI, bb⟩
  obtain ⟨va3, vc3, rfl⟩ := hI.shape
  have HI3 := Lib.hid hI
  have HB3 := Lib.hid (HB1.out.trans (bb.mono HB1.out.size))
  have HR3 := Lib.hid ((bb.block (b + 1) (Array.getElem?_eq_some_iff.1 HR0.out).1).trans HR0.out)
  clear hI bb hw1 hb HC
  obtain ⟨e0, e1, e2, f0, f1, f2⟩ := cells3 HR3.out
  obtain ⟨wz, hwz⟩ : ∃ x, x = ((w3.setCell ⟨b + 1, 0, none⟩ (.slice va3 T.L.length vc3)).setCell ⟨b + 1, 1, none⟩ (.int .u8 (T.l : Nat))).setCell ⟨b + 1, 2, none⟩ (.int .u8 (T.b : Nat)) := ⟨_, rfl⟩
  have HF := Lib.hid (fin4 HR3.out HI3.out HB3.out (by rw [HBE.out]; omega) hwz)
  go_wp2
  rw [← hwz]
  clear hwz e0 e1 e2 f0 f1 f2
  obtain ⟨k0, k1, k2, _⟩ := cells3 HF.out.1
  exact bodyPost_ret (v := rV (.slice va3 T.L.length vc3) T) (by simp [results, Try.results42, go_sem, k0, k1, k2]) rfl ⟨_, rfl, HF.out.2.2, HF.out.2.1⟩
set_option maxHeartbeats 4000000 in
set_option maxRecDepth 100000 in
theorem rclear_any (v : Value) (t : Tb) (l : Nat) (cv : Value) (cs : List Int) (w : World) (h : BIn w v t.L) (hl : t.L.length ≤ 512) (hcs : IsIn w cv cs) (hcl : cs.length ≤ 1000) :
    Calls Try.prog 37 #[rV v t, .int .u8 (l : Nat), cv] w (RAns w (t.put false l cs)) := by
  obtain ⟨va, vc, rfl⟩ := h.shape
  obtain ⟨ca, cc, rfl⟩ := hcs.shape
  obtain ⟨n, hn⟩ : ∃ n, n = t.L.length := ⟨_, rfl⟩
  obtain ⟨m, hm⟩ : ∃ m, m = cs.length := ⟨_, rfl⟩
  have HP := Lib.hid (fun w' (k : Below w.heap.size w w') => rput_any _ t l _ cs false w' (h.below k) hl (hcs.below k) hcl)
  rw [← hn, ← hm] at HP
  rw [← hn, ← hm]
  clear h hcs hl hcl hn hm
  obtain ⟨T, hT⟩ : ∃ T, T = t.put false l cs := ⟨_, rfl⟩
  rw [← hT] at HP ⊢
  clear hT
  obtain ⟨b, hb⟩ : ∃ b, b = w.heap.size := ⟨_, rfl⟩
  obtain ⟨w1, hw1⟩ : ∃ x, x = (w.alloc (.cells #[.slice va n vc, .int .u8 (t.l : Nat), .int .u8 (t.b : Nat)] RT)).alloc (.cells #[.slice none 0 0, .int .u8 0, .int .u8 0] RT) := ⟨_, rfl⟩
  have HB1 := Lib.hid (show Below w.heap.size w w1 by rw [hw1]; exact two_allocs w _ _)
  have HR0 := Lib.hid (show w1.heap[b + 1]? = some (.cells #[.slice none 0 0, .int .u8 0, .int .u8 0] RT (0, 0)) by
    have := World.alloc_heap_new (w.alloc (.cells #[.slice va n vc, .int .u8 (t.l : Nat), .int .u8 (t.b : Nat)] RT)) (.cells #[.slice none 0 0, .int .u8 0, .int .u8 0] RT)
    rw [World.size_alloc, ← hw1, ← hb] at this
    exact this)
  have HBE := Lib.hid hb
  have HC := Lib.hid (HP.out w1 HB1.out)
  clear HP
  go_enter Try.func37, Try.ntmps37
  go_wp2_with fail
  rw [← hw1, ← hb]
  refine HC.out.mono ?_
  rintro e w3 ⟨v3, rfl, hI, bb⟩
  obtain ⟨va3, vc3, rfl⟩ := hI.shape
  have HI3 := Lib.hid hI
  have HB3 := Lib.hid (HB1.out.trans (bb.mono HB1.out.size))
  have HR3 := Lib.hid ((bb.block (b + 1) (Array.getElem?_eq_some_iff.1 HR0.out).1).trans HR0.out)
  clear hI bb hw1 hb HC
  obtain ⟨e0, e1, e2, f0, f1, f2⟩ := cells3 HR3.out
  obtain ⟨wz, hwz⟩ : ∃ x, x = ((w3.setCell ⟨b + 1, 0, none⟩ (.slice va3 T.L.length vc3)).setCell ⟨b + 1, 1, none⟩ (.int .u8 (T.l : Nat))).setCell ⟨b + 1, 2, none⟩ (.int .u8 (T.b : Nat)) := ⟨_, rfl⟩
  have HF := Lib.hid (fin4 HR3.out HI3.out HB3.out (by rw [HBE.out]; omega) hwz)
  go_wp2
  rw [← hwz]
  clear hwz e0 e1 e2 f0 f1 f2
  obtain ⟨k0, k1, k2, _⟩ := cells3 HF.out.1
  exact bodyPost_ret (v := rV (.slice va3 T.L.length vc3) T) (by simp [results, Try.results37, go_sem, k0, k1, k2]) rfl ⟨_, rfl, HF.out.2.2, HF.out.2.1⟩
end Go.Proofs.Ytmfbknmcmopjnaa.Lab
