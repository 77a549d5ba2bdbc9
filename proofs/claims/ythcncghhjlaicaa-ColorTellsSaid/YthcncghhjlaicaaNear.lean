/- What color.Nearest answers of any value and palette. -/
import Derived.Test.YthcncghhjlaicaaFar
import Derived.Test.YthcncghhjlaicaaEq
namespace Go.Proofs.Ythcncghhjlaicaa.Lab
open Go.RowKit

abbrev V := Nat × Nat × Nat

/-- The nearest of the first k values of a palette, and how far it is. -/
def near (v : V) (ps : List V) : Nat → Int × Int
  | 0 => (-1, 0)
  | k + 1 => if (near v ps k).1 < 0 ∨ farI v (ps[k]?.getD (0, 0, 0)) < (near v ps k).2 then ((k : Int), farI v (ps[k]?.getD (0, 0, 0))) else near v ps k

theorem near_bd (v : V) (ps : List V) : ∀ k, -1 ≤ (near v ps k).1 ∧ (near v ps k).1 < k
  | 0 => by simp [near]
  | k + 1 => by
    have := near_bd v ps k
    unfold near
    split <;> simp <;> omega

/-- A palette's values lie in a row. -/
def PalAt (w : World) (b off n : Nat) (ps : List V) : Prop :=
  b < w.heap.size ∧ n ≤ maxLen ∧ ps.length = n ∧ ∀ i, i < n → U16 (ps[i]?.getD (0, 0, 0)) ∧ w.cell? ⟨b, off + i * 3, none⟩ = some (.int .u16 (ps[i]?.getD (0, 0, 0)).1) ∧ w.cell? ⟨b, off + i * 3 + 1, none⟩ = some (.int .u16 (ps[i]?.getD (0, 0, 0)).2.1) ∧ w.cell? ⟨b, off + i * 3 + 2, none⟩ = some (.int .u16 (ps[i]?.getD (0, 0, 0)).2.2)

theorem PalAt.below {w w' : World} {b off n : Nat} {ps : List V} (h : PalAt w b off n ps) (hb : Below w.heap.size w w') : PalAt w' b off n ps := by
  obtain ⟨h1, h2, h3, h4⟩ := h
  refine ⟨Nat.lt_of_lt_of_le h1 hb.size, h2, h3, fun i hi => ?_⟩
  obtain ⟨u, c0, c1, c2⟩ := h4 i hi
  exact ⟨u, (hb.cell (p := ⟨b, off + i * 3, none⟩) h1).trans c0, (hb.cell (p := ⟨b, off + i * 3 + 1, none⟩) h1).trans c1, (hb.cell (p := ⟨b, off + i * 3 + 2, none⟩) h1).trans c2⟩

set_option maxHeartbeats 4000000 in
theorem nearest_any (v : V) (hv : U16 v) (ps : List V) (b off n c : Nat) (w : World) (h : PalAt w b off n ps) :
    Calls Try.prog 15 #[valT v, .slice (some ⟨b, off, none⟩) n c] w fun e w' => e = .returned (.int .i64 (near v ps n).1) ∧ Below w.heap.size w w' := by
  have hm := h.2.1
  unfold maxLen at hm
  have H := Lib.hid h
  clear h
  go_enter Try.func15, Try.ntmps15
  go_wp2
  go_loopw [5, 6, 12] (fun pl ls i wr => ∃ k : Nat, k ≤ n ∧ i = .int .i64 k ∧ pl = .int .i64 (near v ps k).1 ∧ ls = .int .i64 (near v ps k).2 ∧ Hid (Below w.heap.size w wr ∧ V3 wr w.heap.size v.1 v.2.1 v.2.2)) (fun _ _ i _ => n - (intOf i).toNat)
  case atStart => exact ⟨0, Nat.zero_le _, rfl, rfl, rfl, Lib.hid ⟨(Below.refl _ _).alloc (Nat.le_refl _) _, V3.newAt _ _ rfl _ _ _ _⟩⟩
  case round =>
    obtain ⟨k, hk, rfl, rfl, rfl, hB⟩ := hrel
    obtain ⟨n1, n2⟩ := near_bd v ps k
    by_cases hlt : k < n
    · obtain ⟨hu, c0, c1, c2⟩ := (H.out.below hB.out.1).2.2.2 k hlt
      obtain ⟨z0, ⟨s2, s3, s4⟩, -⟩ := hB.out.2
      have hnk : near v ps (k + 1) = if (near v ps k).1 < 0 ∨ farI v (ps[k]?.getD (0, 0, 0)) < (near v ps k).2 then ((k : Int), farI v (ps[k]?.getD (0, 0, 0))) else near v ps k := rfl
      generalize ps[k]?.getD (0, 0, 0) = u at *
      have HN := Lib.hid hnk
      clear hnk
      go_wp2_with fail
      refine (far_of hv hu _).mono ?_
      rintro e w5 ⟨rfl, hb5⟩
      have HB2 := Lib.hid (show Below w.heap.size w w5 ∧ V3 w5 w.heap.size v.1 v.2.1 v.2.2 from ⟨bstep (hB.out.1.alloc hB.out.1.size _) hb5, V3.below (hB.out.2.past _) hb5⟩)
      clear hb5
      generalize farI v u = d at *
      generalize near v ps k = q at *
      by_cases hp : q.1 < 0
      · go_wp2
        go_roundw
        case rel => exact ⟨k + 1, by omega, by go_num, by rw [HN.out, if_pos (.inl hp)], by rw [HN.out, if_pos (.inl hp)], HB2⟩
        case measure => simp [intOf]; omega
      · by_cases hd : d < q.2
        · go_wp2
          go_roundw
          case rel => exact ⟨k + 1, by omega, by go_num, by rw [HN.out, if_pos (.inr hd)], by rw [HN.out, if_pos (.inr hd)], HB2⟩
          case measure => simp [intOf]; omega
        · have hno : ¬ (q.1 < 0 ∨ d < q.2) := by omega
          go_wp2
          go_roundw
          case rel => exact ⟨k + 1, by omega, by go_num, by rw [HN.out, if_neg hno], by rw [HN.out, if_neg hno], HB2⟩
          case measure => simp [intOf]; omega
    · have hkn : k = n := by omega
      subst hkn
      go_wp2
      go_ret
      exact ⟨rfl, hB.out.1⟩
end Go.Proofs.Ythcncghhjlaicaa.Lab
