/- The project's take and Push of a ring. -/
import Derived.Test.YtnefamgjlhdffaaRgOne
set_option linter.unusedVariables false
namespace Go.Proofs.Ytnefamgjlhdffaa.Lab
open Go Go.RowKit

theorem one_hd (w : World) (q : Nat) (hq : q = w.heap.size) (u : Value) : (w.alloc (.cells #[u] 38)).cell? ⟨q, 0, none⟩ = some u := by subst hq; simp
theorem LsOk.but {w w' : World} {g : Nat} {H : List Ln} (h : LsOk w H) {cur : Array Value} {T : TypeId} {fr : Nat × Nat} (hg : w.heap[g]? = some (.cells cur T fr)) (hT : T ≠ 47) (k : But g w w') : LsOk w' H :=
  h.past k fun j hj => by injection hj with hj; subst hj; exact ⟨cur, T, fr, hg, hT⟩
theorem Hds.but {w w' : World} {g : Nat} {v : Value} {H : List Ln} (h : Hds w v H) {cur : Array Value} {T : TypeId} {fr : Nat × Nat} (hg : w.heap[g]? = some (.cells cur T fr)) (hT : T ≠ 38) (k : But g w w') : Hds w' v H := by
  refine World.ownsRow.kept h k ?_
  cases hb : v.ownBlock with
  | none => exact .inl rfl
  | some b =>
    refine .inr fun e => ?_
    injection e with e
    subst e
    obtain ⟨cu, hu⟩ := own_type h hb
    exact type_ne hg hu hT rfl
/-- A field of the ring written. -/
theorem RgAt.field {Y : Nat → Prop} {w : World} {p n f f' j : Nat} {v v' u : Value} {H' : List Ln} {l l' : Int}
    (ha : w.heap[p]? = some (.cells #[.int .i64 (n : Nat), v, .int .i64 (f : Nat), .int .u8 l] 73 (0, 0)))
    (hs : (#[.int .i64 (n : Nat), v, .int .i64 (f : Nat), .int .u8 l] : Array Value).setIfInBounds j u = #[.int .i64 (n : Nat), v', .int .i64 (f' : Nat), .int .u8 l'])
    (hr : Rows1 Y w v' H') (hp : Y p) (hn : ∀ j, Y j → j < w.heap.size) (h1 : n ≤ 1000) (h2 : H'.length ≤ n) (h3 : f' ≤ H'.length ∧ (0 < H'.length → f' < H'.length)) (h4 : 0 < f' → H'.length = n) (h5 : ∀ x ∈ H', x.R.length ≤ 1000) :
    RgAt Y (w.setCell ⟨p, j, none⟩ u) p n v' H' f' l' := by
  have k := But.set w p j u
  refine ⟨?_, ⟨hr.hds.but ha (by decide) k, hr.ok.but ha (by decide) k, hr.apart, hr.foot, hr.head⟩, hp, fun i hi => Nat.lt_of_lt_of_le (hn i hi) k.size, h1, h2, h3, h4, h5⟩
  rw [heap_setCell_same w p j _ _ u ha, hs]
set_option maxHeartbeats 4000000 in
/-- There is room: the line comes behind. -/
theorem take_room (X Y : Nat → Prop) (w : World) (p n f : Nat) (v : Value) (H : List Ln) (l : Int) (u : Ln) (h : RgAt X w p n v H f l) (hX : ∀ j, X j → Y j) (hY : ∀ j, Y j → j < w.heap.size) (hu : CRow w 0 u.v u.R) (hub : ∀ b, u.v.ownBlock = some b → Y b ∧ ¬ X b) (hul : u.R.length ≤ 1000) (hlt : H.length < n) :
    Calls Try.prog 41 #[pV p, u.v] w fun e w' => e = .returned (.tuple #[]) ∧ (∃ v', RgAt (grew Y w w') w' p n v' (H ++ [u]) 0 l) ∧ Buts X w w' := by
  obtain ⟨c0, c1, c2, c3⟩ := h.cells
  have hn1 := h.n1
  have hf0 : f = 0 := by have := h.full; omega
  subst hf0
  obtain ⟨ua, uc, eu⟩ := hu.shape
  obtain ⟨a, c, e⟩ := own_shape h.rws.hds
  obtain ⟨m, hm⟩ : ∃ m, m = H.length := ⟨_, rfl⟩
  rw [← hm] at e
  have HR := Lib.hid h
  have HU := Lib.hid hu
  have HXY := Lib.hid (And.intro hX (And.intro hY (And.intro hub hul)))
  have HM := Lib.hid hm
  have HV := Lib.hid e
  have HUV := Lib.hid eu
  rw [e] at c1
  have g1 : (m : Int) < (n : Int) := by omega
  have HLT := Lib.hid (show m < n ∧ n ≤ 1000 by omega)
  rw [eu]
  obtain ⟨ul, hul2⟩ : ∃ ul, ul = u.R.length := ⟨_, rfl⟩
  have HUL := Lib.hid hul2
  rw [← hul2]
  clear h hu hX hY hub hul hlt hm e eu hn1 hul2
  go_enter Try.func41, Try.ntmps41
  go_upto_region 0 with (fail)
  go_quiet (fail)
  obtain ⟨w0, hw0⟩ : ∃ x, x = w.drewN nq := ⟨_, rfl⟩
  have B0 := Lib.hid (show Below w.heap.size w w0 by rw [hw0]; exact below_drewN (Below.refl _ _) _)
  have HR0 := Lib.hid (HR.out.below B0.out)
  have HU0 := Lib.hid (HU.out.below B0.out)
  obtain ⟨d0, d1, d2, d3⟩ := HR0.out.cells
  rw [HV.out] at d1
  rw [← hw0]
  clear hw0 c0 c1 c2 c3
  obtain ⟨q, hq⟩ : ∃ q, q = w0.heap.size := ⟨_, rfl⟩
  obtain ⟨w1, hw1⟩ : ∃ w1, w1 = w0.alloc (.cells #[.slice ua ul uc] 38) := ⟨_, rfl⟩
  have B1 := Lib.hid (show Below w0.heap.size w0 w1 by rw [hw1]; exact (Below.refl _ _).alloc (Nat.le_refl _) _)
  have HQ := Lib.hid (show w1.cell? ⟨q, 0, none⟩ = some u.v by rw [hw1, HUV.out, HUL.out]; exact one_hd w0 q hq _)
  have HR1 := Lib.hid (HR0.out.below B1.out)
  have HU1 := Lib.hid (HU0.out.below B1.out)
  go_upto_region 1 with (fail)
  go_wp2_with (at_builtin; rw [← hw1, ← hq]; clear hw1 hq; refine wpList_append_ln rfl (.tmp 18) (.tmp 20) rfl v H (by rw [HV.out]; rfl) HR1.out.rws.hds q u rfl HQ.out HU1.out (by have := HLT.out; have := HM.out; omega) _ rfl ?_)
  intro g cap w2 hd hgr hat hlt2
  have HD := Lib.hid hd
  have HG := Lib.hid hgr
  have HAT := Lib.hid (And.intro hat hlt2)
  clear hd hgr hat hlt2 d0 d1 d2 d3
  have HP2 := Lib.hid (show w2.heap[p]? = some (.cells #[.int .i64 (n : Nat), v, .int .i64 ((0 : Nat) : Int), .int .u8 l] 73 (0, 0)) from (HG.out.block p (Nat.lt_of_lt_of_le (HR0.out.now p HR0.out.here) B1.out.size) (fun e => by
    obtain ⟨cu, hc⟩ := own_type HR1.out.rws.hds e.symm
    exact type_ne HR1.out.at' hc (by decide) rfl)).trans HR1.out.at')
  have z0 : w2.cell? ⟨p, 1, none⟩ = some v := by rw [cell_of_row w2 p 1 _ _ _ HP2.out]; simp
  have z1 : w2.frozen? ⟨p, 1, none⟩ = false := frozen_of_row w2 p 1 _ _ HP2.out
  rw [HV.out] at z0
  rw [← HM.out]
  go_wp2
  refine bodyPost_ret (results_none rfl _ _ _) rfl ?_
  obtain ⟨w3, hw3⟩ : ∃ x, x = w2.setCell ⟨p, 1, none⟩ (.slice (some ⟨g, 0, none⟩) (m + 1) cap) := ⟨_, rfl⟩
  rw [← hw3]
  have BX : Buts X w w2 := ((Buts.of B0.out).trans (Buts.of B1.out)).trans (Buts.grown HG.out (fun r e => HR.out.rws.head r e))
  have hsz : w3.heap.size = w2.heap.size := by rw [hw3]; simp
  have hg2 := HAT.out.2
  have hs1 := (B0.out.trans (B1.out.mono B0.out.size)).size
  refine ⟨rfl, ⟨.slice (some ⟨g, 0, none⟩) (m + 1) cap, ?_⟩, BX.trans (by rw [hw3]; exact Buts.but (But.set w2 p 1 _) HR.out.here)⟩
  rw [hw3]
  have hlt := HLT.out
  have hmm := HM.out
  refine RgAt.field HP2.out rfl ⟨by rw [HM.out]; exact HD.out, (HR1.out.rws.ok.append (LsOk.one HU1.out)).grown HR1.out.rws.hds HG.out, HR.out.rws.apart.add HR.out.rws.foot (fun b hb => (HXY.out.2.2.1 b hb).2), (HR.out.rws.foot.mono (fun b hb => .inl (HXY.out.1 b hb))).append (Foot.one (fun b hb => .inl (HXY.out.2.2.1 b hb).1)), fun b hb => ?_⟩ (.inl (HXY.out.1 p HR.out.here)) (fun j hj => ?_) HLT.out.2 (by rw [List.length_append, List.length_singleton]; omega) ⟨Nat.zero_le _, fun h => h⟩ (fun h => absurd h (by decide)) (fun x hx => ?_)
  · have hb' : g = b := by simpa [Value.ownBlock] using hb
    subst hb'
    rcases HAT.out.1 with h1 | h1
    · exact .inl (HXY.out.1 g (HR.out.rws.head g h1))
    · exact .inr ⟨by omega, by simp; omega⟩
  · rcases hj with hj | hj
    · exact Nat.lt_of_lt_of_le (HXY.out.2.1 j hj) BX.size
    · have := hj.2
      simp at this
      exact this
  · rcases List.mem_append.1 hx with hx | hx
    · exact HR.out.rowl x hx
    · rw [List.mem_singleton.1 hx]
      exact HXY.out.2.2.2
set_option maxHeartbeats 4000000 in
/-- There is none: the line comes where the oldest one stood. -/
theorem take_full (X Y : Nat → Prop) (w : World) (p n f : Nat) (v : Value) (H : List Ln) (l : Int) (u : Ln) (h : RgAt X w p n v H f l) (hX : ∀ j, X j → Y j) (hY : ∀ j, Y j → j < w.heap.size) (hu : CRow w 0 u.v u.R) (hub : ∀ b, u.v.ownBlock = some b → Y b ∧ ¬ X b) (hul : u.R.length ≤ 1000) (hlt : H.length = n) (h0 : 0 < n) :
    Calls Try.prog 41 #[pV p, u.v] w fun e w' => e = .returned (.tuple #[]) ∧ RgAt Y w' p n v (H.set f u) ((f + 1) % n) l ∧ Buts X w w' := by
  obtain ⟨c0, c1, c2, c3⟩ := h.cells
  have hn1 := h.n1
  have hff := h.first.2 (by omega)
  obtain ⟨g, c, e, hc, hg, ⟨cur, hgt⟩, hh⟩ := h.rws.hds.get (by omega)
  obtain ⟨ua, uc, eu⟩ := hu.shape
  have hgp : p ≠ g := type_ne h.at' hgt (by decide)
  have HR := Lib.hid h
  have HU := Lib.hid hu
  have HXY := Lib.hid (And.intro hX (And.intro hY (And.intro hub hul)))
  have HGP := Lib.hid (And.intro hgp (And.intro hg hgt))
  have HN := Lib.hid (show f < n ∧ n ≤ 1000 ∧ H.length = n ∧ 0 < n from ⟨by omega, hn1, hlt, h0⟩)
  rw [hlt] at e hc
  have HV := Lib.hid e
  have HUV := Lib.hid eu
  have hcf := hh f hff
  obtain ⟨q, hq⟩ : ∃ q, q = (f + 1) % n := ⟨_, rfl⟩
  have HQ := Lib.hid hq
  rw [← hq]
  rw [e] at c1
  have g1 : ¬ (n : Int) < (n : Int) := by omega
  have g4 : ¬ n < n := by omega
  have u1 : IntKind.i64.wrap ((f : Int) + 1) = ((f + 1 : Nat) : Int) := by rw [IntKind.wrap_i64]; omega
  obtain ⟨s, hs⟩ : ∃ s, s = f + 1 := ⟨_, rfl⟩
  rw [← hs] at u1
  have hqs : q = s % n := by rw [hq, hs]
  have u2 : ((s : Nat) : Int).tmod (n : Int) = (q : Int) := by rw [hqs]; rfl
  have u5 : ((s : Nat) : Int) % (n : Int) = (q : Int) := by rw [hqs]; rfl
  have hqn : q < n := by rw [hqs]; exact Nat.mod_lt _ (by omega)
  have u3 : IntKind.i64.wrap (q : Int) = (q : Int) := by rw [IntKind.wrap_i64]; omega
  have u4 : ¬ (n : Int) = 0 := by omega
  have u6 : f < n := by omega
  have u7 : ¬ n = 0 := by omega
  rw [eu]
  obtain ⟨ul, hul2⟩ : ∃ ul, ul = u.R.length := ⟨_, rfl⟩
  have HUL := Lib.hid hul2
  rw [← hul2]
  obtain ⟨z, hz⟩ : ∃ z, w.cell? ⟨g, f, none⟩ = some z := ⟨_, hcf⟩
  have HGF := Lib.hid (show w.cell? ⟨g, f, none⟩ = some z ∧ w.frozen? ⟨g, f, none⟩ = false from ⟨hz, frozen_of_row w g f _ _ hgt⟩)
  clear h hu hX hY hub hul hlt eu hn1 hul2 hq hs hqs hff hg hgt hh hgp e hcf hz h0
  go_enter Try.func41, Try.ntmps41
  go_upto_region 0 with (fail)
  go_quiet (fail)
  obtain ⟨w0, hw0⟩ : ∃ x, x = w.drewN nq := ⟨_, rfl⟩
  have B0 := Lib.hid (show Below w.heap.size w w0 by rw [hw0]; exact below_drewN (Below.refl _ _) _)
  have HE0 := Lib.hid (show w0.heap = w.heap by rw [hw0]; rfl)
  have HR0 := Lib.hid (HR.out.below B0.out)
  have HU0 := Lib.hid (HU.out.below B0.out)
  obtain ⟨d0, d1, d2, d3⟩ := HR0.out.cells
  rw [HV.out] at d1
  rw [← hw0]
  clear hw0 c0 c1 c2 c3
  have D12 := Lib.hid (And.intro d1 d2)
  have HLP := Lib.hid (HR0.out.now p HR0.out.here)
  go_upto_region 2 with (fail)
  have KEEP := Lib.hid (show ∀ W', Below w0.heap.size w0 W' → (fun wx => wx.cell? ⟨p, 1, none⟩ = some (.slice (some ⟨g, 0, none⟩) n c) ∧ wx.cell? ⟨p, 2, none⟩ = some (.int .i64 (f : Nat))) W' from fun W' kb => ⟨(kb.cell (p := ⟨p, 1, none⟩) HLP.out).trans D12.out.1, (kb.cell (p := ⟨p, 2, none⟩) HLP.out).trans D12.out.2⟩)
  clear d0 d1 d2 d3
  refine wp_region_held_drew (S := (fun wx => wx.cell? ⟨p, 1, none⟩ = some (.slice (some ⟨g, 0, none⟩) n c) ∧ wx.cell? ⟨p, 2, none⟩ = some (.int .i64 (f : Nat)))) (by kernel_rfl) ?_ (fun hHeld => ?_)
  · exact KEEP.out _ ((Below.refl _ _).drew)
  obtain ⟨wd, hwd⟩ : ∃ X, X = w0.drew := ⟨_, rfl⟩
  have HX := Lib.hid (show Below w0.heap.size w0 wd by rw [hwd]; exact (Below.refl _ _).drew)
  replace hHeld := KEEP.out _ HX.out
  rw [← hwd]
  clear hwd
  obtain ⟨w2, hw2⟩ : ∃ x, x = wd.setCell ⟨g, f, none⟩ (.slice ua ul uc) := ⟨_, rfl⟩
  have HW2V := Lib.hid (show w2 = wd.setCell ⟨g, f, none⟩ u.v by rw [hw2, HUV.out, HUL.out])
  have HBG := Lib.hid (show But g wd w2 by rw [hw2]; exact But.set wd g f _)
  have HGD := Lib.hid (show g < w0.heap.size by rw [HE0.out]; exact HGP.out.2.1)
  have HXC := Lib.hid (show wd.cell? ⟨g, f, none⟩ = some z ∧ wd.frozen? ⟨g, f, none⟩ = false from ⟨((HX.out.cell (p := ⟨g, f, none⟩) HGD.out).trans (B0.out.cell (p := ⟨g, f, none⟩) HGP.out.2.1)).trans HGF.out.1, ((HX.out.frozen (p := ⟨g, f, none⟩) HGD.out).trans (B0.out.frozen (p := ⟨g, f, none⟩) HGP.out.2.1)).trans HGF.out.2⟩)
  have HW2 := Lib.hid (show w2.cell? ⟨p, 1, none⟩ = some (.slice (some ⟨g, 0, none⟩) n c) ∧ w2.cell? ⟨p, 2, none⟩ = some (.int .i64 (f : Nat)) from ⟨(Buts.but (S := (· = g)) HBG.out rfl).cell (KEEP.out _ HX.out).1 HGP.out.1, (Buts.but (S := (· = g)) HBG.out rfl).cell (KEEP.out _ HX.out).2 HGP.out.1⟩)
  refine tk 0 rfl (fun w hSw => by (try dsimp only at hSw); go_simp; try with_reducible rfl) ?_
  go_frame
  refine tk 1 rfl (fun w hSw => by (try dsimp only at hSw); go_simp; try with_reducible rfl) ?_
  go_frame
  refine tk 2 rfl (fun w hSw => by (try dsimp only at hSw); go_simp; try with_reducible rfl) ?_
  go_frame
  refine tk 3 rfl (fun w hSw => by (try dsimp only at hSw); go_simp; try with_reducible rfl) ?_
  go_frame
  refine tk 4 rfl (fun w hSw => by (try dsimp only at hSw); go_simp; try with_reducible rfl) ?_
  go_frame
  refine tk 5 rfl (fun w hSw => by (try dsimp only at hSw); go_simp; try with_reducible rfl) ?_
  go_frame
  refine tk 6 rfl (fun w hSw => by (try dsimp only at hSw); go_simp; try with_reducible rfl) ?_
  go_frame
  refine tk 7 rfl (fun w hSw => by (try dsimp only at hSw); go_simp; try with_reducible rfl) ?_
  go_frame
  refine tk 8 rfl (fun w hSw => by (try dsimp only at hSw); go_simp; try with_reducible rfl) ?_
  go_frame
  refine tk 9 rfl (fun w hSw => by (try dsimp only at hSw); go_simp; try with_reducible rfl) ?_
  go_frame
  refine do_at (i := 10) rfl (by kernel_rfl) (by kernel_rfl) (fun K hK => ?_)
  have x1 := HXC.out.1
  have x2 := HXC.out.2
  go_simp
  rw [← hw2]
  clear hw2 x1 x2
  refine hK.out _ _ ?_ (fun hHeld => ?_)
  · exact HW2.out
  clear hK K
  try go_frame
  refine wpAnyH_done (by kernel_rfl) ?_ _
  clear hHeld KEEP HW2
  have HRD := Lib.hid (HR0.out.below HX.out)
  have hgd : ∃ cu, wd.heap[g]? = some (.cells cu 38 (0, 0)) := ⟨cur, (HX.out.block g HGD.out).trans ((B0.out.block g HGP.out.2.1).trans HGP.out.2.2)⟩
  obtain ⟨cu, hcu⟩ := hgd
  have HUD := Lib.hid (((HU0.out.below HX.out).kept HBG.out (by
    cases hb : u.v.ownBlock with
    | none => exact .inl rfl
    | some b =>
      refine .inr fun e => ?_
      injection e with e
      subst e
      obtain ⟨ct, ht⟩ := own_type (HU0.out.below HX.out) hb
      exact type_ne hcu ht (by decide) rfl) : CRow w2 0 u.v u.R))
  have HP2 := Lib.hid (show w2.heap[p]? = some (.cells #[.int .i64 (n : Nat), v, .int .i64 (f : Nat), .int .u8 l] 73 (0, 0)) from (HBG.out.block p (HRD.out.now p HRD.out.here) (by have := HGP.out.1; simp; omega)).trans HRD.out.at')
  have HH2 := Lib.hid (show Hds w2 v (H.set f u) from by
    have h1 : wd.ownsRow 0 38 1 (.slice (some ⟨g, 0, none⟩) n c) n (vls H) := by have := HRD.out.rws.hds; rw [HV.out] at this; unfold Hds at this; rw [HN.out.2.2.1] at this; exact this
    have h2 := (World.ownsRow.stored h1 f u.v).1
    unfold Hds
    rw [List.length_set, HN.out.2.2.1, show vls (H.set f u) = (vls H).set f u.v from List.map_set, HV.out, HW2V.out]
    exact h2)
  have HOK2 := Lib.hid (show LsOk w2 (H.set f u) from ((HRD.out.rws.ok).but hcu (by decide) HBG.out).set HUD.out)
  have HSZ2 := Lib.hid (show w.heap.size ≤ w2.heap.size from Nat.le_trans (Nat.le_trans B0.out.size HX.out.size) HBG.out.size)
  have BX2 := Lib.hid (show Buts X w w2 from ((Buts.of B0.out).trans (Buts.of HX.out)).trans (Buts.but HBG.out (HR.out.rws.head g (by rw [HV.out]; rfl))))
  clear hcu HRD HXC HGF HGD HBG HX HR0 HU0
  have D2 := Lib.hid (show w2.cell? ⟨p, 2, none⟩ = some (.int .i64 (f : Nat)) by rw [cell_of_row w2 p 2 _ _ _ HP2.out]; simp)
  have D0 := Lib.hid (show w2.cell? ⟨p, 0, none⟩ = some (.int .i64 (n : Nat)) by rw [cell_of_row w2 p 0 _ _ _ HP2.out]; simp)
  have F2 := Lib.hid (show w2.frozen? ⟨p, 2, none⟩ = false from frozen_of_row w2 p 2 _ _ HP2.out)
  have HLT2 := Lib.hid (show p < w2.heap.size from (Array.getElem?_eq_some_iff.1 HP2.out).1)
  go_upto_region 3 with (fail)
  have KEEP3 := Lib.hid (show ∀ W', Below w2.heap.size w2 W' → (fun wx => wx.cell? ⟨p, 0, none⟩ = some (.int .i64 (n : Nat))) W' from fun W' kb => (kb.cell (p := ⟨p, 0, none⟩) HLT2.out).trans D0.out)
  refine wp_region_held_drew (S := (fun wx => wx.cell? ⟨p, 0, none⟩ = some (.int .i64 (n : Nat)))) (by kernel_rfl) ?_ (fun hHeld => ?_)
  · exact KEEP3.out _ ((Below.refl _ _).drew)
  obtain ⟨we, hwd⟩ : ∃ X, X = w2.drew := ⟨_, rfl⟩
  have HXE := Lib.hid (show Below w2.heap.size w2 we by rw [hwd]; exact (Below.refl _ _).drew)
  replace hHeld := KEEP3.out _ HXE.out
  rw [← hwd]
  clear hwd
  obtain ⟨w4, hw4⟩ : ∃ x, x = we.setCell ⟨p, 2, none⟩ (.int .i64 (q : Nat)) := ⟨_, rfl⟩
  have HW4 := Lib.hid (show w4.cell? ⟨p, 0, none⟩ = some (.int .i64 (n : Nat)) by rw [hw4, World.cell?_setCell_other _ _ _ _ (by simp)]; exact KEEP3.out _ HXE.out)
  have HW4E := Lib.hid hw4
  refine tk 0 rfl (fun w hSw => by (try dsimp only at hSw); go_simp; try with_reducible rfl) ?_
  go_frame
  refine tk 1 rfl (fun w hSw => by (try dsimp only at hSw); go_simp; try with_reducible rfl) ?_
  go_frame
  refine tk 2 rfl (fun w hSw => by (try dsimp only at hSw); go_simp; try with_reducible rfl) ?_
  go_frame
  refine tk 3 rfl (fun w hSw => by (try dsimp only at hSw); go_simp; try with_reducible rfl) ?_
  go_frame
  refine tk 6 rfl (fun w hSw => by (try dsimp only at hSw); go_simp; try with_reducible rfl) ?_
  go_frame
  refine tk 7 rfl (fun w hSw => by (try dsimp only at hSw); go_simp; try with_reducible rfl) ?_
  go_frame
  refine tk 8 rfl (fun w hSw => by (try dsimp only at hSw); go_simp; try with_reducible rfl) ?_
  go_frame
  refine tk 9 rfl (fun w hSw => by (try dsimp only at hSw); go_simp; try with_reducible rfl) ?_
  go_frame
  refine do_at (i := 4) rfl (by kernel_rfl) (by kernel_rfl) (fun K hK => ?_)
  have x1 := (HXE.out.cell (p := ⟨p, 2, none⟩) HLT2.out).trans D2.out
  go_simp
  clear x1
  refine hK.out _ _ ?_ (fun hHeld => ?_)
  · exact KEEP3.out _ HXE.out
  clear hK K
  try go_frame
  refine tk 5 rfl (fun w hSw => by (try dsimp only at hSw); go_simp; try with_reducible rfl) ?_
  go_frame
  refine tk 10 rfl (fun w hSw => by (try dsimp only at hSw); go_simp; try with_reducible rfl) ?_
  go_frame
  refine tk 11 rfl (fun w hSw => by (try dsimp only at hSw); go_simp; try with_reducible rfl) ?_
  go_frame
  refine tk 12 rfl (fun w hSw => by (try dsimp only at hSw); go_simp; try with_reducible rfl) ?_
  go_frame
  refine do_at (i := 13) rfl (by kernel_rfl) (by kernel_rfl) (fun K hK => ?_)
  have x1 := (HXE.out.cell (p := ⟨p, 2, none⟩) HLT2.out).trans D2.out
  have x2 := (HXE.out.frozen (p := ⟨p, 2, none⟩) HLT2.out).trans F2.out
  go_simp
  rw [← hw4]
  clear hw4 x1 x2
  refine hK.out _ _ ?_ (fun hHeld => ?_)
  · exact HW4.out
  clear hK K
  try go_frame
  refine wpAnyH_done (by kernel_rfl) ?_ _
  clear hHeld KEEP3 HW4 D2 D0 F2
  refine bodyPost_end (results_none rfl _ _ _) rfl ?_
  have BE := HXE.out
  have HPE : we.heap[p]? = some (.cells #[.int .i64 (n : Nat), v, .int .i64 (f : Nat), .int .u8 l] 73 (0, 0)) := (BE.block p HLT2.out).trans HP2.out
  have hq := HQ.out
  have hN := HN.out
  have hqn : q < n := by rw [hq]; exact Nat.mod_lt _ (by omega)
  have hl : (H.set f u).length = n := by rw [List.length_set]; exact hN.2.2.1
  refine ⟨rfl, ?_, (BX2.out.trans (Buts.of BE)).trans (by rw [HW4E.out]; exact Buts.but (But.set we p 2 _) HR.out.here)⟩
  rw [HW4E.out]
  refine RgAt.field HPE rfl ⟨own_below HH2.out BE, HOK2.out.below BE, HR.out.rws.apart.put HR.out.rws.foot (fun b hb => (HXY.out.2.2.1 b hb).2), (HR.out.rws.foot.mono (fun b hb => HXY.out.1 b hb)).set (fun b hb => (HXY.out.2.2.1 b hb).1), fun b hb => HXY.out.1 b (HR.out.rws.head b hb)⟩ (HXY.out.1 p HR.out.here) (fun j hj => Nat.lt_of_lt_of_le (HXY.out.2.1 j hj) (Nat.le_trans HSZ2.out BE.size)) hN.2.1 (by omega) ⟨by omega, fun _ => by omega⟩ (fun _ => hl) (fun x hx => ?_)
  rcases List.mem_or_eq_of_mem_set hx with hx | hx
  · exact HR.out.rowl x hx
  · rw [hx]
    exact HXY.out.2.2.2
theorem szH (w : World) : (sizeOf 38).run Try.prog w = .ok 1 w := by kernel_rfl
theorem elH : Try.prog.elem 27 = 38 := by kernel_rfl
theorem unH : Try.prog.underlying 27 = some (.slice (Try.prog.elem 27)) := by kernel_rfl
/-- s[i:], where it lies. -/
theorem hds_from (ad : Option Addr) (n c i : Nat) (hi : i ≤ n) (hc : n ≤ c) : ∃ ad', (∀ w, (Instr.sliceAt 27 (.slice ad n c) (some (.int .i64 (i : Nat))) none none).run Try.prog w = .ok (.slice ad' (n - i) (c - i)) w) ∧ (∀ g o, ad = some ⟨g, o, none⟩ → 0 < n - i → ad' = some ⟨g, o + i, none⟩) := by
  refine ⟨if c = i then ad else ad.map fun a => a.add i, fun w => ?_, fun g o e h0 => ?_⟩
  · rw [run_sliceAt_slice w 27 _ _ _ _ unH, run_slice_l (P := Try.prog) (w := w) (t := 27) (ht := unH) (kl := .i64) (l := (i : Int)) (h0 := by omega) (h1 := by omega), elH, szH]
    simp only [Result.andThen, sliced, Int.toNat_natCast, Nat.mul_one]
  · subst e
    rw [if_neg (by omega), Option.map_some, Addr.add_mid]
theorem RgAt.mono {X Y : Nat → Prop} {w : World} {p n f : Nat} {v : Value} {H : List Ln} {l : Int} (h : RgAt X w p n v H f l) (d : ∀ j, X j → Y j) (k : ∀ j, Y j → j < w.heap.size) : RgAt Y w p n v H f l := ⟨h.at', h.rws.mono d, d p h.here, k, h.n1, h.len, h.first, h.full, h.rowl⟩
theorem Rg.mono {X Y : Nat → Prop} {w : World} {p n : Nat} {G : List Cls} {l : Int} (h : Rg X w p n G l) (d : ∀ j, X j → Y j) (k : ∀ j, Y j → j < w.heap.size) : Rg Y w p n G l := by
  obtain ⟨v, H, f, h1, h2⟩ := h
  exact ⟨v, H, f, h1.mono d k, h2⟩
theorem rws_append (H K : List Ln) : rws (H ++ K) = rws H ++ rws K := List.map_append
/-- One more line. -/
theorem take_any (X : Nat → Prop) (w : World) (p n : Nat) (G : List Cls) (l : Int) (u : Ln) (B : Nat) (h : Rg X w p n G l) (hu : CRow w B u.v u.R) (hX : ∀ j, X j → j < B) (hB : B ≤ w.heap.size) (hul : u.R.length ≤ 1000) (h0 : 0 < n) :
    Calls Try.prog 41 #[pV p, u.v] w fun e w' => e = .returned (.tuple #[]) ∧ Rg (fun j => X j ∨ (B ≤ j ∧ j < w'.heap.size)) w' p n (lastN n (G ++ [u.R])) l ∧ Buts X w w' := by
  obtain ⟨v, H, f, h1, rfl⟩ := h
  have hub : ∀ b, u.v.ownBlock = some b → (X b ∨ (B ≤ b ∧ b < w.heap.size)) ∧ ¬ X b := fun b hb => by
    have := hu.lt b hb
    exact ⟨.inr this, fun h => by have := hX b h; omega⟩
  have hY : ∀ j, (X j ∨ (B ≤ j ∧ j < w.heap.size)) → j < w.heap.size := fun j hj => hj.elim (h1.now j) (fun h => h.2)
  by_cases hl : H.length < n
  · refine (take_room X (fun j => X j ∨ (B ≤ j ∧ j < w.heap.size)) w p n f v H l u h1 (fun j hj => .inl hj) hY (hu.lower (Nat.zero_le _)) hub hul hl).mono ?_
    rintro e w' ⟨rfl, ⟨v', h2⟩, h3⟩
    have hf0 : f = 0 := by have := h1.full; omega
    have hs := h3.size
    refine ⟨rfl, ⟨v', _, 0, h2.mono (fun j hj => ?_) (fun j hj => hj.elim (fun h => Nat.lt_of_lt_of_le (h1.now j h) hs) (fun h => h.2)), ?_⟩, h3⟩
    · rcases hj with (hj | hj) | hj
      · exact .inl hj
      · exact .inr ⟨hj.1, by omega⟩
      · exact .inr ⟨by omega, hj.2⟩
    · rw [hf0, turnL_zero, turnL_zero, rws_append, lastN_few (by rw [List.length_append, List.length_map]; simp; omega)]
      rfl
  · have hn : H.length = n := by have := h1.len; omega
    refine (take_full X (fun j => X j ∨ (B ≤ j ∧ j < w.heap.size)) w p n f v H l u h1 (fun j hj => .inl hj) hY (hu.lower (Nat.zero_le _)) hub hul hn h0).mono ?_
    rintro e w' ⟨rfl, h2, h3⟩
    have hs := h3.size
    refine ⟨rfl, ⟨v, _, _, h2.mono (fun j hj => ?_) (fun j hj => hj.elim (fun h => Nat.lt_of_lt_of_le (h1.now j h) hs) (fun h => h.2)), ?_⟩, h3⟩
    · rcases hj with hj | hj
      · exact .inl hj
      · exact .inr ⟨hj.1, by omega⟩
    · have hf : f < (rws H).length := by rw [List.length_map]; exact h1.first.2 (by omega)
      have e := turnL_set (x := u.R) hf
      rw [List.length_map, hn] at e
      rw [show rws (H.set f u) = (rws H).set f u.R from List.map_set, e, lastN_snoc (by rw [turnL_len, List.length_map]; exact hn) h0]
set_option maxHeartbeats 4000000 in
set_option maxRecDepth 100000 in
/-- These lines come, one behind the other. -/
theorem push_any (X S : Nat → Prop) (w : World) (p n : Nat) (G : List Cls) (l : Int) (v : Value) (L : List Ln) (h : Rg X w p n G l) (hL : LIn S w v L) (d : ∀ j, S j → ¬ X j) (hR : ∀ x ∈ L, x.R.length ≤ 1000) (hl : L.length ≤ 100000) :
    Calls Try.prog 16 #[pV p, v] w fun e w' => e = .returned (.tuple #[]) ∧ Rg (grew X w w') w' p n (lastN n (G ++ rws L)) l ∧ Buts X w w' := by
  obtain ⟨a, c, rfl, hc⟩ := hL.shape
  obtain ⟨m, hm⟩ : ∃ m, m = L.length := ⟨_, rfl⟩
  rw [← hm] at hc
  obtain ⟨s, hs⟩ : ∃ s, s = min m n := ⟨_, rfl⟩
  obtain ⟨i, hi⟩ : ∃ i, i = m - s := ⟨_, rfl⟩
  have his : i ≤ m ∧ m - i = s ∧ s ≤ n ∧ s ≤ m := by omega
  obtain ⟨a', hcut, hat⟩ := hds_from a m c i his.1 hc
  have HAT := Lib.hid hat
  have HL := Lib.hid hL
  have HG := Lib.hid h
  have HD := Lib.hid d
  have HRL := Lib.hid hR
  have HM := Lib.hid (And.intro hm (And.intro hs (And.intro hi (And.intro his (And.intro hl h.len.2.1)))))
  have hc0 : w.cell? ⟨p, 0, none⟩ = some (.int .i64 (n : Nat)) := by
    obtain ⟨v0, H, f, h1, _⟩ := h
    exact h1.cells.1
  have k0 : ∀ x, X x → x < w.heap.size := h.now.2
  have HK0 := Lib.hid k0
  have u1 : (if n < m then (n : Int) else (m : Int)) = (s : Int) := by split <;> omega
  have u3 : (if (n : Int) < (m : Int) then (n : Int) else (m : Int)) = (s : Int) := by split <;> omega
  have u2 : IntKind.i64.wrap ((m : Int) - (s : Int)) = (i : Int) := by rw [IntKind.wrap_i64]; omega
  rw [his.2.1] at hcut
  obtain ⟨cc, hcc⟩ : ∃ x, x = c - i := ⟨_, rfl⟩
  rw [← hcc] at hcut
  rw [← hm]
  clear h hL d hR hm hs hi his hat hc hl k0 hcc
  go_enter Try.func16, Try.ntmps16
  go_wp2
  clear hcut u1 u2 u3 hc0
  go_loopg [6, 23, 25, 26, 27, 28, 29, 30] s (fun gl b6 b23 b25 b26 b27 b28 b29 b30 wr => ∃ (k : Nat) (Xk : Nat → Prop), b23 = .int .i64 k ∧ k ≤ s ∧ s - k ≤ gl ∧ Hid (Rg Xk wr p n (lastN n (G ++ rws ((L.drop i).take k))) l ∧ (∀ j, Xk j → X j ∨ w.heap.size ≤ j) ∧ (∀ j, X j → Xk j)) ∧ Hid (Buts X w wr))
  case atStart =>
    refine ⟨0, X, rfl, Nat.zero_le _, Nat.le_refl _, Lib.hid ⟨?_, fun j hj => .inl hj, fun j hj => hj⟩, Lib.hid (Buts.refl _ _)⟩
    rw [List.take_zero, show rws [] = [] from rfl, List.append_nil, lastN_few HG.out.len.1]
    exact HG.out
  case round =>
    obtain ⟨k, Xk, rfl, hks, hgk, HI, HBT⟩ := hrel
    by_cases hlt : k < s
    · have hM := HM.out
      have HKS := Lib.hid hlt
      have hikL : i + k < L.length := by omega
      obtain ⟨g, o, ea, hg, hS, hC⟩ := (HL.out.buts HBT.out HD.out).sh.elim (fun a0 h => h.elim fun c0 h => (show ∃ g o, a = some ⟨g, o, none⟩ ∧ g < wr.heap.size ∧ S g ∧ ∀ i, (hi : i < L.length) → wr.cell? ⟨g, o + i, none⟩ = some (L[i]).v from by
        obtain ⟨e, h1, h2, h3⟩ := h
        injection e with e1 _ _
        rw [e1]
        exact h3 (by omega)))
      obtain rfl := HAT.out g o ea (by omega)
      have hck := hC (i + k) hikL
      rw [← Nat.add_assoc] at hck
      obtain ⟨x, hx⟩ : ∃ x, x = L[i + k] := ⟨_, rfl⟩
      rw [← hx] at hck
      have HX := Lib.hid (show (L.drop i).take (k + 1) = (L.drop i).take k ++ [x] by
        rw [List.take_succ_eq_append_getElem (by rw [List.length_drop]; omega), List.getElem_drop, ← hx])
      have hxm : x ∈ L := by rw [hx]; exact List.getElem_mem hikL
      have HXR := Lib.hid (show RowIn wr x.v x.R ∧ x.R.length ≤ 1000 from ⟨(HL.out.buts HBT.out HD.out).row x hxm, HRL.out x hxm⟩)
      obtain ⟨xa, xc, ex⟩ := HXR.out.1.shape
      rw [ex] at hck
      have HXV := Lib.hid ex
      obtain ⟨xl, hxl⟩ : ∃ xl, xl = x.R.length := ⟨_, rfl⟩
      have HXL := Lib.hid hxl
      rw [← hxl] at hck HXV
      clear hC hS hg ea hx hxm ex hM hikL hxl
      go_wp2_with fail
      rw [← HXV.out]
      refine (clone_any wr x.v x.R HXR.out.1 (by have := HXR.out.2; omega)).mono ?_
      rintro e w1 ⟨u, rfl, ow, b1⟩
      have HB1 := Lib.hid b1
      have HO := Lib.hid ow
      clear ow b1 hck
      go_wp2_with fail
      refine (take_any Xk w1 p n _ l ⟨u, x.R⟩ wr.heap.size (HI.out.1.below HB1.out) HO.out HI.out.1.now.2 HB1.out.size HXR.out.2 (by have := HM.out; have := HKS.out; omega)).mono ?_
      rintro e w2 ⟨rfl, h2, b2⟩
      have HI2 := Lib.hid h2
      have HB2 := Lib.hid b2
      clear h2 b2
      go_wp2
      go_roundg (s - (k + 1))
      case rel =>
        have hM := HM.out
        have hk9 : k < 1000 := by omega
        refine ⟨k + 1, fun j => Xk j ∨ (wr.heap.size ≤ j ∧ j < w2.heap.size), by (first | go_num | (refine congrArg _ ?_; unfold wrap64; omega)), hlt, Nat.le_refl _, Lib.hid ⟨?_, fun j hj => ?_, fun j hj => .inl (HI.out.2.2 j hj)⟩, Lib.hid ?_⟩
        · have e := HI2.out
          rw [lastN_app, List.append_assoc] at e
          rw [HX.out, rws_append]
          exact e
        · rcases hj with hj | hj
          · exact HI.out.2.1 j hj
          · exact .inr (by have := HBT.out.size; omega)
        · refine (HBT.out.trans (Buts.of HB1.out)).trans' HB2.out (fun j hj hjx => ?_)
          rcases HI.out.2.1 j hjx with h | h
          · exact h
          · omega
      case measure => omega
    · obtain rfl : k = s := by omega
      clear hlt hgk hks
      go_wp2
      refine bodyPost_end (results_none rfl _ _ _) rfl ?_
      have hM := HM.out
      refine ⟨rfl, (show Rg _ wr p n (lastN n (G ++ rws L)) l from ?_), HBT.out⟩
      have e : (L.drop i).take k = L.drop i := List.take_of_length_le (by rw [List.length_drop]; omega)
      have e2 : rws (L.drop i) = lastN n (rws L) := by
        unfold lastN rws
        rw [List.map_drop, List.length_map, ← hM.1, ← hM.2.1, ← hM.2.2.1]
      have e3 := HI.out.1
      rw [e, e2, lastN_last] at e3
      exact e3.mono (fun j hj => (HI.out.2.1 j hj).elim .inl (fun h => .inr ⟨h, e3.now.2 j hj⟩)) (fun j hj => hj.elim (fun h => Nat.lt_of_lt_of_le (HK0.out j h) HBT.out.size) (fun h => h.2))
end Go.Proofs.Ytnefamgjlhdffaa.Lab
