/- What a grid that is none answers. -/
import Derived.Test.YtdeahnphcfcfpaaGgGood
namespace Go.Proofs.Ytdeahnphcfcfpaa.Lab
open Go Go.RowKit Go.Shelf
attribute [local go_sem] Oper.semAt_some

set_option maxHeartbeats 2000000 in
theorem each_nil : Iter Try.prog 49 #[.pointer none] #[] 0 (fun k => #[.int .i64 (k : Nat), .slice none 0 0]) (fun _ _ => True) := by
  intro l J Jx W hH hY h0
  have HJ := Lib.hid h0
  clear h0 hH hY
  refine callsIn_of_wp Try.func49 rfl trivial ?_ rfl
  simp only [Try.ntmps49, List.size_toArray, List.length_cons, List.length_nil, Nat.reduceAdd, Nat.reduceSub, Array.replicate_succ, Array.replicate_zero, List.push_toArray, List.append_toArray, List.nil_append, List.cons_append]
  gi_wp2_with (refine ⟨trivial, rfl, ?_⟩; gi_at_call 47; refine (callsIn_wide.2 (kept_none W)).mono ?_; rintro e w' ⟨rfl, rfl⟩)
  gi_loopw [9] (fun v wr => v = .int .i64 0 ∧ Hid (J 0 wr)) (fun v wr => 0)
  case atStart => exact ⟨rfl, HJ⟩
  case round =>
    obtain ⟨rfl, HK⟩ := hrel
    clear HJ
    gi_wp2
    go_end0
    exact ⟨⟨_, rfl⟩, .inl HK.out⟩
set_option maxHeartbeats 4000000 in
set_option maxRecDepth 100000 in
theorem raise_nil (w : World) (l : Int) : Calls Try.prog 35 #[.pointer none, .int .u8 l] w fun e w' => e = .returned (.tuple #[]) ∧ Below w.heap.size w w' := by
  obtain ⟨b2, hb2⟩ : ∃ b, b = w.heap.size := ⟨_, rfl⟩
  obtain ⟨b3, hb3⟩ : ∃ b, b = w.heap.size + 1 := ⟨_, rfl⟩
  obtain ⟨w2, hw2⟩ : ∃ x, x = (w.alloc (.cells #[.pointer none] 31)).alloc (.cells #[.int .u8 l] 40) := ⟨_, rfl⟩
  have HB2 := Lib.hid (show Below w.heap.size w w2 by rw [hw2]; exact ((Below.refl _ _).alloc (Nat.le_refl _) _).alloc (by simp) _)
  have c2 : w2.cell? ⟨b2, 0, none⟩ = some (.pointer none) := by rw [hw2, hb2]; simp
  refine (callsIn_wide (n := 0)).1 ?_
  refine callsIn_of_wp_marks Try.func35 rfl trivial ?_ rfl
  simp only [Try.ntmps35, List.size_toArray, List.length_cons, List.length_nil, Nat.reduceAdd, Nat.reduceSub, Array.replicate_succ, Array.replicate_zero, List.push_toArray, List.append_toArray, List.nil_append, List.cons_append]
  gi_wp2
  rw [← hw2, ← hb3, ← hb2]
  clear hw2 hb2 hb3
  refine wp_range (gf := 49) (pre := #[.pointer none]) (post := #[]) rfl (enters_of Try.func49 (by kernel_rfl) rfl) each_nil (fun _ => rfl)
    (fun _ W => Below w2.heap.size w2 W) (fun _ _ => False) ?hI ?hIx ?hH ?h0 (fun k => { tmps := #[.pointer none, .int .u8 l, .pointer (some ⟨b2, 0, none⟩), .pointer (some ⟨b3, 0, none⟩), .int .i64 (k : Nat), .slice none 0 0, .pointer none, .func (.func 49) #[.pointer none] #[], .int .i64 (k : Nat), .slice none 0 0, undef, undef, undef, undef, undef, undef, undef, undef, undef], defers := [] }) ?assign ?body ?done ?stop
  case hI => exact fun k W W' row hs hg hr => hs.grown hg hs.size (fun r e => (hr r e).1)
  case hIx => exact fun _ _ _ _ hs _ _ => hs
  case hH => exact fun _ _ _ => trivial
  case h0 => exact Below.refl _ _
  case assign =>
    intro ll k W K hK
    gi_wp2
    exact hK
  case body => exact fun _ _ _ hk => absurd hk (Nat.not_lt_zero _)
  case stop => exact fun _ _ _ _ h => h.elim
  case done =>
    rintro D W hD hb hK
    gi_wp2
    refine ⟨by simp, .inl ⟨_, _, rfl, run_takeDeferred hK, ?_⟩⟩
    exact ⟨_, results_none rfl _ _ _, rfl, Below.grown (row := some D) (HB2.out.trans (hb.mono HB2.out.size)) (grownBy_putObj' _ D (.deferred none)) (Nat.le_trans HB2.out.size hb.size) (fun r e => by cases e; exact Nat.le_trans HB2.out.size hD)⟩
set_option maxHeartbeats 4000000 in
set_option maxRecDepth 100000 in
theorem level_nil (w : World) : Calls Try.prog 37 #[.pointer none] w fun e w' => e = .returned (.int .u8 0) ∧ Below w.heap.size w w' := by
  obtain ⟨b2, hb2⟩ : ∃ b, b = w.heap.size := ⟨_, rfl⟩
  obtain ⟨w2, hw2⟩ : ∃ x, x = w.alloc (.cells #[.int .u8 0] 40) := ⟨_, rfl⟩
  have B2 : Below w.heap.size w w2 := by rw [hw2]; exact (Below.refl _ _).alloc (Nat.le_refl _) _
  have HB2 := Lib.hid B2
  have HC2 := Lib.hid (show w2.cell? ⟨b2, 0, none⟩ = some (.int .u8 0) by rw [hw2, hb2]; simp)
  have HF2 := Lib.hid (show w2.frozen? ⟨b2, 0, none⟩ = false by rw [hw2, hb2]; simp)
  have HSZ := Lib.hid (show b2 < w2.heap.size ∧ w.heap.size ≤ b2 by rw [hw2, hb2]; simp)
  clear B2
  refine (callsIn_wide (n := 0)).1 ?_
  refine callsIn_of_wp_marks Try.func37 rfl trivial ?_ rfl
  simp only [Try.ntmps37, List.size_toArray, List.length_cons, List.length_nil, Nat.reduceAdd, Nat.reduceSub, Array.replicate_succ, Array.replicate_zero, List.push_toArray, List.append_toArray, List.nil_append, List.cons_append]
  gi_wp2
  rw [← hw2, ← hb2]
  clear hw2 hb2
  refine wp_range (gf := 49) (pre := #[.pointer none]) (post := #[]) rfl (enters_of Try.func49 (by kernel_rfl) rfl) each_nil (fun _ => rfl)
    (fun _ W => Below w2.heap.size w2 W) (fun _ _ => False) ?hI ?hIx ?hH ?h0 (fun k => { tmps := #[.pointer none, undef, .pointer (some ⟨b2, 0, none⟩), undef, .slice none 0 0, undef, .pointer none, .func (.func 49) #[.pointer none] #[], .int .i64 (k : Nat), .slice none 0 0, undef, undef, undef, undef, undef, undef, undef], defers := [] }) ?assign ?body ?done ?stop
  case hI => exact fun k W W' row hs hg hr => hs.grown hg hs.size (fun r e => (hr r e).1)
  case hIx => exact fun _ _ _ _ hs _ _ => hs
  case hH => exact fun _ _ _ => trivial
  case h0 => exact Below.refl _ _
  case assign =>
    intro ll k W K hK
    gi_wp2
    exact hK
  case body => exact fun _ _ _ hk => absurd hk (Nat.not_lt_zero _)
  case stop => exact fun _ _ _ _ h => h.elim
  case done =>
    rintro D W hD hb hK
    have k1 := (hb.cell (p := ⟨b2, 0, none⟩) HSZ.out.1).trans HC2.out
    have k2 := (hb.frozen (p := ⟨b2, 0, none⟩) HSZ.out.1).trans HF2.out
    have HK := Lib.hid hK
    have HHB := Lib.hid hb
    clear hb hK
    gi_wp2
    have hK' := (KeepsOthers.setCell W ⟨b2, 0, none⟩ (.int .u8 0)).same D _ HK.out rfl
    refine ⟨by simp, .inl ⟨_, _, rfl, run_takeDeferred hK', ?_⟩⟩
    have hc5 := cell_kept (World.cell?_setCell_same' W ⟨b2, 0, none⟩ (.int .u8 0) (by rw [k1]; rfl)) (grownBy_putObj' _ D (.deferred none)) (fun r e => by cases e; exact ⟨_, hK', rfl⟩)
    refine ⟨.int .u8 0, ?_, rfl, ?_⟩
    · simp [results, Try.f37, go_sem, hc5]
    · refine Below.grown (row := some D) ((HB2.out.trans (HHB.out.mono HB2.out.size)).setCell (p := ⟨b2, 0, none⟩) HSZ.out.2 _) (grownBy_putObj' _ D (.deferred none)) ?_ (fun r e => by cases e; exact Nat.le_trans HB2.out.size hD)
      have := HHB.out.size
      have := HB2.out.size
      simp
      omega
set_option maxHeartbeats 4000000 in
set_option maxRecDepth 100000 in
theorem text_nil (w : World) : Calls Try.prog 38 #[.pointer none] w fun e w' => e = .returned (.slice none 0 0) ∧ Below w.heap.size w w' := by
  obtain ⟨b3, hb3⟩ : ∃ b, b = w.heap.size := ⟨_, rfl⟩
  obtain ⟨w2, hw2⟩ : ∃ x, x = w.alloc (.cells #[.slice none 0 0] 86) := ⟨_, rfl⟩
  have B2 : Below w.heap.size w w2 := by rw [hw2]; exact (Below.refl _ _).alloc (Nat.le_refl _) _
  have HB2 := Lib.hid B2
  have HC2 := Lib.hid (show w2.cell? ⟨b3, 0, none⟩ = some (.slice none 0 0) by rw [hw2, hb3]; simp)
  have HSZ := Lib.hid (show b3 < w2.heap.size by rw [hw2, hb3]; simp)
  clear B2
  refine (callsIn_wide (n := 0)).1 ?_
  refine callsIn_of_wp_marks Try.func38 rfl trivial ?_ rfl
  simp only [Try.ntmps38, List.size_toArray, List.length_cons, List.length_nil, Nat.reduceAdd, Nat.reduceSub, Array.replicate_succ, Array.replicate_zero, List.push_toArray, List.append_toArray, List.nil_append, List.cons_append]
  gi_wp2
  rw [← hw2, ← hb3]
  clear hw2 hb3
  refine wp_range (gf := 49) (pre := #[.pointer none]) (post := #[]) rfl (enters_of Try.func49 (by kernel_rfl) rfl) each_nil (fun _ => rfl)
    (fun _ W => Below w2.heap.size w2 W) (fun _ _ => False) ?hI ?hIx ?hH ?h0 (fun k => { tmps := #[.pointer none, undef, .slice none 0 0, .pointer (some ⟨b3, 0, none⟩), undef, .slice none 0 0, .pointer none, .func (.func 49) #[.pointer none] #[], .int .i64 (k : Nat), .slice none 0 0, undef, undef, undef, undef, undef, undef], defers := [] }) ?assign ?body ?done ?stop
  case hI => exact fun k W W' row hs hg hr => hs.grown hg hs.size (fun r e => (hr r e).1)
  case hIx => exact fun _ _ _ _ hs _ _ => hs
  case hH => exact fun _ _ _ => trivial
  case h0 => exact Below.refl _ _
  case assign =>
    intro ll k W K hK
    gi_wp2
    exact hK
  case body => exact fun _ _ _ hk => absurd hk (Nat.not_lt_zero _)
  case stop => exact fun _ _ _ _ h => h.elim
  case done =>
    rintro D W hD hb hK
    have k1 := (hb.cell (p := ⟨b3, 0, none⟩) HSZ.out).trans HC2.out
    have HK := Lib.hid hK
    have HHB := Lib.hid hb
    clear hb hK
    gi_wp2
    refine ⟨by simp, .inl ⟨_, _, rfl, run_takeDeferred HK.out, ?_⟩⟩
    refine ⟨_, results_tmp rfl _ _ _, rfl, ?_⟩
    exact Below.grown (row := some D) (HB2.out.trans (HHB.out.mono HB2.out.size)) (grownBy_putObj' _ D (.deferred none)) (Nat.le_trans HB2.out.size HHB.out.size) (fun r e => by cases e; exact Nat.le_trans HB2.out.size hD)
theorem row_nil (w : World) (k : Int) : Calls Try.prog 16 #[.pointer none, .int .i64 k] w fun e w' => e = .returned (.slice none 0 0) ∧ w = w' := by
  have HB := Lib.hid (show isInB k 0 = false by unfold isInB; simp)
  go_enter Try.func16, Try.ntmps16
  go_wp2_with fail
  refine (kept_none w).mono ?_
  rintro e w' ⟨rfl, rfl⟩
  go_wp2_with fail
  refine (isIn_any w k 0).mono ?_
  rintro e w' ⟨rfl, rfl⟩
  rw [HB.out]
  go_wp2
  go_ret
  exact ⟨rfl, rfl⟩
end Go.Proofs.Ytdeahnphcfcfpaa.Lab
