/- The project's Break and joined. -/
import Derived.Test.YthildghpgajgoaaRpBrk
namespace Go.Proofs.Ythildghpgajgoaa.Lab
open Go Go.RowKit

/-- Boundaries, as they come in. -/
def PsAt (w : World) (v : Value) (L : List Int) : Prop := ∃ s o c, v = .slice (some ⟨s, o, none⟩) L.length c ∧ L.length ≤ 10 ∧ s < w.heap.size ∧ (∀ j, j < L.length → w.cell? ⟨s, o + j, none⟩ = some (.int .i64 (L.getD j 0))) ∧ ∀ j, j < L.length → -100000 < L.getD j 0 ∧ L.getD j 0 < 100000
theorem PsAt.below {w w' : World} {v : Value} {L : List Int} (h : PsAt w v L) (k : Below w.heap.size w w') : PsAt w' v L := by
  obtain ⟨s, o, c, e, hl, hlt, hc, hb⟩ := h
  exact ⟨s, o, c, e, hl, Nat.lt_of_lt_of_le hlt k.size, fun j hj => (World.cell?_of_block (a := ⟨s, o + j, none⟩) (k.block s hlt)).trans (hc j hj), hb⟩
theorem PsAt.apart {w w' : World} {g : Nat} {v : Value} {L : List Int} (h : PsAt w v L) (k : Below w.heap.size w w') (hg : w.heap.size ≤ g) : PsIn w' g v L := by
  obtain ⟨s, o, c, e, hl, hlt, hc, hb⟩ := h
  exact ⟨s, o, c, e, hl, by omega, Nat.lt_of_lt_of_le hlt k.size, fun j hj => (World.cell?_of_block (a := ⟨s, o + j, none⟩) (k.block s hlt)).trans (hc j hj), hb⟩
theorem PsAt.shape {w : World} {v : Value} {L : List Int} (h : PsAt w v L) : ∃ a c, v = .slice a L.length c := by
  obtain ⟨s, o, c, e, _⟩ := h
  exact ⟨_, c, e⟩
set_option maxHeartbeats 4000000 in
theorem break_any (w : World) (v : Value) (R : Cls) (u : Value) (L : List Int) (h : RowIn w v R) (hw : Wh R) (hl : R.length ≤ 10000) (hu : PsAt w u L) : Calls Try.prog 16 #[v, u] w (NewRow w (L.foldl breakM R)) := by
  obtain ⟨a, c, rfl⟩ := h.shape
  have HC := Lib.hid (anew_any w _ R h hl)
  have HU := Lib.hid hu
  obtain ⟨ua, uc, rfl⟩ := hu.shape
  have HW := Lib.hid hw
  obtain ⟨n, hn⟩ : ∃ n, n = R.length := ⟨_, rfl⟩
  obtain ⟨m, hm⟩ : ∃ m, m = L.length := ⟨_, rfl⟩
  have HN := Lib.hid hn
  have HLN := Lib.hid (show (L.foldl breakM R).length = n by rw [len_breaks]; exact hn.symm)
  rw [← hn] at hl HC
  rw [← hn, ← hm]
  rw [← hm] at HU
  clear h hw hn hu hm
  go_enter Try.func16, Try.ntmps16
  go_wp2_with fail
  refine HC.out.mono ?_
  rintro e w1 ⟨g, c1, rfl, hc1, own1, hg1, hg2, b1⟩
  rw [← HN.out] at own1 hc1 ⊢
  have HO := Lib.hid own1
  have HB := Lib.hid b1
  have HG := Lib.hid hg1
  have HPS := Lib.hid (HU.out.apart b1 hg1)
  have HC1 := Lib.hid hc1
  have HBT := Lib.hid (cuts_any w1 _ g n c1 R _ L HO.out HN.out hl HW.out HPS.out)
  clear own1 b1 hg1 hg2 hc1 HC HU
  go_wp2_with fail
  refine HBT.out.mono ?_
  rintro e w2 ⟨rfl, own2, but2⟩
  have HO2 := Lib.hid own2
  have HB2 := Lib.hid (HB.out.trans (but2.below HG.out HB.out.size))
  have HG2 := Lib.hid (show g < w2.heap.size from (own2.lt g rfl).2)
  clear own2 but2 HO HB HPS HBT
  go_wp2
  go_ret
  exact ⟨g, c1, by rw [HLN.out]; rfl, by rw [HLN.out]; exact HC1.out, by rw [HLN.out]; exact HO2.out, HG.out, HG2.out, HB2.out⟩

/-- Pieces of rows. -/
def RsAt (w : World) (u : Value) (Ps : List Cls) : Prop := ∃ s o c, u = .slice (some ⟨s, o, none⟩) Ps.length c ∧ Ps.length ≤ 5 ∧ s < w.heap.size ∧ ∀ j, j < Ps.length → ∃ v, w.cell? ⟨s, o + j, none⟩ = some v ∧ RowIn w v (Ps.getD j [])
theorem RsAt.below {w w' : World} {u : Value} {Ps : List Cls} (h : RsAt w u Ps) (k : Below w.heap.size w w') : RsAt w' u Ps := by
  obtain ⟨s, o, c, e, hl, hlt, hc⟩ := h
  refine ⟨s, o, c, e, hl, Nat.lt_of_lt_of_le hlt k.size, fun j hj => ?_⟩
  obtain ⟨v, h1, h2⟩ := hc j hj
  exact ⟨v, (World.cell?_of_block (a := ⟨s, o + j, none⟩) (k.block s hlt)).trans h1, h2.below k⟩
theorem flatten_take (Ps : List Cls) (k : Nat) (hk : k < Ps.length) : (Ps.take (k + 1)).flatten = (Ps.take k).flatten ++ Ps.getD k [] := by
  rw [List.take_succ_eq_append_getElem hk, List.flatten_append, List.getD_eq_getElem?_getD, List.getElem?_eq_getElem hk]
  simp
theorem flatten_le (Ps : List Cls) (k : Nat) (M : Nat) (h : ∀ j, j < Ps.length → (Ps.getD j []).length ≤ M) (hk : k ≤ Ps.length) : (Ps.take k).flatten.length ≤ k * M := by
  induction k with
  | zero => simp
  | succ k ih =>
    rw [flatten_take Ps k hk, List.length_append, Nat.add_mul]
    have := ih (by omega)
    have := h k hk
    omega
set_option maxHeartbeats 4000000 in
theorem joined_any (W : World) (u : Value) (Ps : List Cls) (h : RsAt W u Ps) (hl : ∀ j, j < Ps.length → (Ps.getD j []).length ≤ 10000) : Calls Try.prog 34 #[u] W fun e w' => ∃ v, e = .returned v ∧ CRow w' W.heap.size v Ps.flatten ∧ Below W.heap.size W w' := by
  have HU := Lib.hid h
  obtain ⟨s, o, cu, rfl, h5, hs, hcell⟩ := h
  obtain ⟨m, hm⟩ : ∃ m, m = Ps.length := ⟨_, rfl⟩
  have HM := Lib.hid hm
  have HL := Lib.hid hl
  have H5 := Lib.hid h5
  have HO0 := Lib.hid (show CRow W W.heap.size (.slice none 0 0) (Ps.take 0).flatten from CRow.nil _ _)
  have HB0 := Lib.hid (Below.refl W.heap.size W)
  have hm5 : m ≤ 5 := by omega
  rw [← hm] at HU ⊢
  clear h5 hs hcell hm hl
  go_enter Try.func34, Try.ntmps34
  go_wp2
  go_loopg [3, 8] m (fun G v i wr => ∃ k : Nat, i = .int .i64 k ∧ k ≤ m ∧ m - k ≤ G ∧ Hid (CRow wr W.heap.size v (Ps.take k).flatten) ∧ Hid (Below W.heap.size W wr))
  case atStart => exact ⟨0, rfl, Nat.zero_le _, Nat.sub_le _ _, HO0, HB0⟩
  case round =>
    obtain ⟨k, rfl, hkm, hgk, HR, HB⟩ := hrel
    clear HO0 HB0
    by_cases hlt : k < m
    · obtain ⟨s2, o2, c2, e, _, hs1, hcell⟩ := HU.out.below HB.out
      injection e with e1 e2 e3
      injection e1 with e1
      injection e1 with e1 e4
      subst e1 e4 e3
      obtain ⟨x, hx, hr⟩ := hcell k (by rw [← HM.out]; exact hlt)
      obtain ⟨P, hP⟩ : ∃ P, P = Ps.getD k [] := ⟨_, rfl⟩
      rw [← hP] at hr
      have HP := Lib.hid hr
      have HF := Lib.hid (show (Ps.take (k + 1)).flatten = (Ps.take k).flatten ++ P by rw [hP]; exact flatten_take Ps k (by rw [← HM.out]; exact hlt))
      obtain ⟨A, hA⟩ : ∃ A, A = (Ps.take k).flatten := ⟨_, rfl⟩
      have hlen : A.length + P.length ≤ 100000 := by
        have h1 := flatten_le Ps k 10000 HL.out (by rw [← HM.out]; omega)
        have h2 := HL.out k (by rw [← HM.out]; exact hlt)
        rw [← hA] at h1
        rw [← hP] at h2
        have := H5.out
        have : k * 10000 ≤ 5 * 10000 := Nat.mul_le_mul_right 10000 (by omega)
        omega
      rw [← hA] at HR HF
      clear hP hr hcell hs1 e2 hA
      go_wp2_with (at_builtin; refine wpList_append_cells rfl (.tmp 12) (.tmp 13) rfl W.heap.size u3 A rfl HR.out x P rfl HP.out hlen HB.out.size ?_)
      intro v' w2 own2 hnil grow2
      have hlt2 : ∀ j, u3.ownBlock = some j → W.heap.size ≤ j := fun j hj => (HR.out.lt j hj).1
      have HR2 := Lib.hid (show CRow w2 W.heap.size v' (Ps.take (k + 1)).flatten by rw [HF.out]; exact own2)
      have HB2 := Lib.hid (HB.out.grown grow2 HB.out.size hlt2)
      clear own2 hnil grow2 hlt2 HR HB HP hx hlen
      go_wp2
      go_roundg (m - (k + 1))
      case rel => exact ⟨k + 1, by go_num, by omega, Nat.le_refl _, HR2, HB2⟩
      case measure => omega
    · obtain rfl : k = m := by omega
      have HE := Lib.hid (show CRow wr W.heap.size u3 Ps.flatten by have := HR.out; rw [HM.out, List.take_length] at this; exact this)
      clear HR
      go_wp2
      go_ret
      exact ⟨_, rfl, HE.out, HB.out⟩
end Go.Proofs.Ythildghpgajgoaa.Lab
