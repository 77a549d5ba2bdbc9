/- The Go law AttrParams: the parameters of any attribute, as numbers and as bytes. -/
import Derived.Test.YtlmhnebgkginkaaDoorAtRefW
import Derived.Test.YtlmhnebgkginkaaDoorAtSame
import Derived.Test.YtlmhnebgkginkaaDoorAtWorks
import Derived.Test.YtlmhnebgkginkaaDoorAtDraft
import Derived.Test.YtlmhnebgkginkaaDoorAtFlags
import Derived.Deep.CutBlock
import Derived.Deep.DeepCutAuto
namespace Go.Proofs.YtlmhnebgkginkaaDoor.Lab
open Go Go.RowKit

theorem infoU16 : (Tryd.prog.info? 24).map (fun i => (i.zero, i.size, i.bytes)) = some (some (.int .u16 0), 1, 2) := by kernel_rfl
abbrev u16V (l : List Nat) : List Value := l.map fun x => .int .u16 ((x : Nat) : Int)
/-- A row of flags of the call's own. -/
def URow (w : World) (lo : Nat) (v : Value) (l : List Nat) : Prop := w.ownsRow lo 24 1 v l.length (u16V l)
theorem URow.below {w w' : World} {lo : Nat} {v : Value} {l : List Nat} (h : URow w lo v l) (hb : Below w.heap.size w w') : URow w' lo v l := own_below h hb
theorem URow.shape {w : World} {lo : Nat} {v : Value} {l : List Nat} (h : URow w lo v l) : ∃ a c, v = .slice a l.length c := by
  rcases h.2 with ⟨rfl, h0⟩ | ⟨g, cap, cur, rfl, _⟩
  · exact ⟨none, 0, by rw [h0]⟩
  · exact ⟨_, cap, rfl⟩
theorem URow.u16s {w : World} {lo : Nat} {v : Value} {l : List Nat} (h : URow w lo v l) (hl : l.length ≤ 1000) (hx : ∀ x ∈ l, x < 65536) : U16s w v l := by
  rcases h.2 with ⟨rfl, h0⟩ | ⟨g, cap, cur, rfl, _⟩
  · exact ⟨none, 0, by rw [h0], by unfold maxLen; omega, hx, fun h' => by omega⟩
  · refine ⟨_, cap, rfl, by unfold maxLen; omega, hx, fun h0 => ⟨g, 0, rfl, (h.lt g rfl).2, fun j hj => ?_⟩⟩
    have hc := h.cells (g := g) rfl j (.int .u16 ((l.getD j 0 : Nat) : Int)) (by simp [List.getD_eq_getElem?_getD, hj])
    rwa [Addr.add_mid] at hc
def clr (cs : List Nat) (k : Nat) : List Nat := (cs.take k).drop 1
theorem clr_succ (cs : List Nat) (k : Nat) (h1 : 1 ≤ k) (hk : k < cs.length) : clr cs (k + 1) = clr cs k ++ [cs.getD k 0] := by
  unfold clr
  rw [List.take_succ_eq_append_getElem hk, List.drop_append_of_le_length (by rw [List.length_take]; omega), List.getD_eq_getElem?_getD, List.getElem?_eq_getElem hk]
  rfl
theorem clr_len (cs : List Nat) (k : Nat) (hk : k ≤ cs.length) : (clr cs k).length = k - 1 := by
  unfold clr
  rw [List.length_drop, List.length_take]
  omega
set_option maxHeartbeats 16000000 in
set_option maxRecDepth 100000 in
theorem prm_law (w : World) (a : At) (ha : a.ok) (d : Dr) (hd : d.ok) (v : Value) (cs : List Nat) (hv : U16s w v cs) (hP : Pow w) : Calls Tryd.prog 4 #[attV a, drV d, v] w fun e w' => e = .returned (.bool true) ∧ Below w.heap.size w w' := by
  obtain ⟨w1, hw1⟩ : ∃ w1, w1 = (w.alloc (.cells #[.int .u8 a.fg.k, .int .u8 a.fg.r, .int .u8 a.fg.g, .int .u8 a.fg.b, .int .u8 a.bg.k, .int .u8 a.bg.r, .int .u8 a.bg.g, .int .u8 a.bg.b, .int .u16 (a.fl : Nat)] 26)).alloc (.cells #[.int .u16 (d.fl : Nat), .int .u8 (d.k : Nat), .int .u8 (d.f0 : Nat), .int .u8 (d.f1 : Nat), .int .u8 (d.f2 : Nat), .int .u8 (d.b0 : Nat), .int .u8 (d.b1 : Nat), .int .u8 (d.b2 : Nat)] 39) := ⟨_, rfl⟩
  have b1 : Below w.heap.size w w1 := by rw [hw1]; exact ((Below.refl _ _).alloc (Nat.le_refl _) _).alloc (by simp) _
  have hsz : w1.heap.size = w.heap.size + 2 := by rw [hw1]; simp
  have HS := Lib.hid (show w1.cell? ⟨w.heap.size, 0, none⟩ = some (.int .u8 a.fg.k) ∧ w1.cell? ⟨w.heap.size, 1, none⟩ = some (.int .u8 a.fg.r) ∧ w1.cell? ⟨w.heap.size, 2, none⟩ = some (.int .u8 a.fg.g) ∧ w1.cell? ⟨w.heap.size, 3, none⟩ = some (.int .u8 a.fg.b) ∧ w1.cell? ⟨w.heap.size, 4, none⟩ = some (.int .u8 a.bg.k) ∧ w1.cell? ⟨w.heap.size, 5, none⟩ = some (.int .u8 a.bg.r) ∧ w1.cell? ⟨w.heap.size, 6, none⟩ = some (.int .u8 a.bg.g) ∧ w1.cell? ⟨w.heap.size, 7, none⟩ = some (.int .u8 a.bg.b) ∧ w1.cell? ⟨w.heap.size, 8, none⟩ = some (.int .u16 (a.fl : Nat)) ∧ w1.cell? ⟨w.heap.size + 1, 0, none⟩ = some (.int .u16 (d.fl : Nat)) ∧ w1.cell? ⟨w.heap.size + 1, 1, none⟩ = some (.int .u8 (d.k : Nat)) ∧ w1.cell? ⟨w.heap.size + 1, 2, none⟩ = some (.int .u8 (d.f0 : Nat)) ∧ w1.cell? ⟨w.heap.size + 1, 3, none⟩ = some (.int .u8 (d.f1 : Nat)) ∧ w1.cell? ⟨w.heap.size + 1, 4, none⟩ = some (.int .u8 (d.f2 : Nat)) ∧ w1.cell? ⟨w.heap.size + 1, 5, none⟩ = some (.int .u8 (d.b0 : Nat)) ∧ w1.cell? ⟨w.heap.size + 1, 6, none⟩ = some (.int .u8 (d.b1 : Nat)) ∧ w1.cell? ⟨w.heap.size + 1, 7, none⟩ = some (.int .u8 (d.b2 : Nat)) by
    have hb : Below (w.alloc (.cells #[.int .u8 a.fg.k, .int .u8 a.fg.r, .int .u8 a.fg.g, .int .u8 a.fg.b, .int .u8 a.bg.k, .int .u8 a.bg.r, .int .u8 a.bg.g, .int .u8 a.bg.b, .int .u16 (a.fl : Nat)] 26)).heap.size (w.alloc (.cells #[.int .u8 a.fg.k, .int .u8 a.fg.r, .int .u8 a.fg.g, .int .u8 a.fg.b, .int .u8 a.bg.k, .int .u8 a.bg.r, .int .u8 a.bg.g, .int .u8 a.bg.b, .int .u16 (a.fl : Nat)] 26)) w1 := by rw [hw1]; exact (Below.refl _ _).alloc (Nat.le_refl _) _
    exact ⟨(hb.cell (p := ⟨w.heap.size, 0, none⟩) (by simp)).trans (by simp), (hb.cell (p := ⟨w.heap.size, 1, none⟩) (by simp)).trans (by simp), (hb.cell (p := ⟨w.heap.size, 2, none⟩) (by simp)).trans (by simp), (hb.cell (p := ⟨w.heap.size, 3, none⟩) (by simp)).trans (by simp), (hb.cell (p := ⟨w.heap.size, 4, none⟩) (by simp)).trans (by simp), (hb.cell (p := ⟨w.heap.size, 5, none⟩) (by simp)).trans (by simp), (hb.cell (p := ⟨w.heap.size, 6, none⟩) (by simp)).trans (by simp), (hb.cell (p := ⟨w.heap.size, 7, none⟩) (by simp)).trans (by simp), (hb.cell (p := ⟨w.heap.size, 8, none⟩) (by simp)).trans (by simp), by rw [hw1]; simp, by rw [hw1]; simp, by rw [hw1]; simp, by rw [hw1]; simp, by rw [hw1]; simp, by rw [hw1]; simp, by rw [hw1]; simp, by rw [hw1]; simp⟩)
  have HKD := Lib.hid (show ∀ W : World, Below w1.heap.size w1 W → W.cell? ⟨w.heap.size, 0, none⟩ = some (.int .u8 a.fg.k) ∧ W.cell? ⟨w.heap.size, 1, none⟩ = some (.int .u8 a.fg.r) ∧ W.cell? ⟨w.heap.size, 2, none⟩ = some (.int .u8 a.fg.g) ∧ W.cell? ⟨w.heap.size, 3, none⟩ = some (.int .u8 a.fg.b) ∧ W.cell? ⟨w.heap.size, 4, none⟩ = some (.int .u8 a.bg.k) ∧ W.cell? ⟨w.heap.size, 5, none⟩ = some (.int .u8 a.bg.r) ∧ W.cell? ⟨w.heap.size, 6, none⟩ = some (.int .u8 a.bg.g) ∧ W.cell? ⟨w.heap.size, 7, none⟩ = some (.int .u8 a.bg.b) ∧ W.cell? ⟨w.heap.size, 8, none⟩ = some (.int .u16 (a.fl : Nat)) ∧ W.cell? ⟨w.heap.size + 1, 0, none⟩ = some (.int .u16 (d.fl : Nat)) ∧ W.cell? ⟨w.heap.size + 1, 1, none⟩ = some (.int .u8 (d.k : Nat)) ∧ W.cell? ⟨w.heap.size + 1, 2, none⟩ = some (.int .u8 (d.f0 : Nat)) ∧ W.cell? ⟨w.heap.size + 1, 3, none⟩ = some (.int .u8 (d.f1 : Nat)) ∧ W.cell? ⟨w.heap.size + 1, 4, none⟩ = some (.int .u8 (d.f2 : Nat)) ∧ W.cell? ⟨w.heap.size + 1, 5, none⟩ = some (.int .u8 (d.b0 : Nat)) ∧ W.cell? ⟨w.heap.size + 1, 6, none⟩ = some (.int .u8 (d.b1 : Nat)) ∧ W.cell? ⟨w.heap.size + 1, 7, none⟩ = some (.int .u8 (d.b2 : Nat)) from fun W hb => by
    obtain ⟨s0, s1, s2, s3, s4, s5, s6, s7, s8, s9, s10, s11, s12, s13, s14, s15, s16⟩ := HS.out
    exact ⟨(hb.cell (p := ⟨w.heap.size, 0, none⟩) (by simp only; omega)).trans s0, (hb.cell (p := ⟨w.heap.size, 1, none⟩) (by simp only; omega)).trans s1, (hb.cell (p := ⟨w.heap.size, 2, none⟩) (by simp only; omega)).trans s2, (hb.cell (p := ⟨w.heap.size, 3, none⟩) (by simp only; omega)).trans s3, (hb.cell (p := ⟨w.heap.size, 4, none⟩) (by simp only; omega)).trans s4, (hb.cell (p := ⟨w.heap.size, 5, none⟩) (by simp only; omega)).trans s5, (hb.cell (p := ⟨w.heap.size, 6, none⟩) (by simp only; omega)).trans s6, (hb.cell (p := ⟨w.heap.size, 7, none⟩) (by simp only; omega)).trans s7, (hb.cell (p := ⟨w.heap.size, 8, none⟩) (by simp only; omega)).trans s8, (hb.cell (p := ⟨w.heap.size + 1, 0, none⟩) (by simp only; omega)).trans s9, (hb.cell (p := ⟨w.heap.size + 1, 1, none⟩) (by simp only; omega)).trans s10, (hb.cell (p := ⟨w.heap.size + 1, 2, none⟩) (by simp only; omega)).trans s11, (hb.cell (p := ⟨w.heap.size + 1, 3, none⟩) (by simp only; omega)).trans s12, (hb.cell (p := ⟨w.heap.size + 1, 4, none⟩) (by simp only; omega)).trans s13, (hb.cell (p := ⟨w.heap.size + 1, 5, none⟩) (by simp only; omega)).trans s14, (hb.cell (p := ⟨w.heap.size + 1, 6, none⟩) (by simp only; omega)).trans s15, (hb.cell (p := ⟨w.heap.size + 1, 7, none⟩) (by simp only; omega)).trans s16⟩)
  have HB1 := Lib.hid b1
  have HP1 := Lib.hid (hP.on b1)
  have HV1 := Lib.hid (hv.below b1)
  obtain ⟨b, hb⟩ : ∃ b, b = dAt d := ⟨_, rfl⟩
  have HOA := Lib.hid ha
  have HOB := Lib.hid (show b.ok by rw [hb]; exact dAt_ok hd)
  have C1 := Lib.hid (show ∀ W, Calls Tryd.prog 18 #[drV d] W fun e w' => e = .returned (attV b) ∧ Below W.heap.size W w' from fun W => by rw [hb]; exact draft_any W d hd)
  have hmx : cs.length ≤ maxLen := by obtain ⟨_, _, _, h, _⟩ := hv; exact h
  unfold maxLen at hmx
  obtain ⟨va, vc, rfl⟩ : ∃ a c, v = .slice a cs.length c := by
    obtain ⟨a, c, e, _⟩ := hv
    exact ⟨a, c, e⟩
  obtain ⟨n, hn⟩ : ∃ n, n = cs.length := ⟨_, rfl⟩
  rw [← hn] at HV1 hmx ⊢
  have HN := Lib.hid hn
  obtain ⟨ib, hi, hz0, hz1, hz2⟩ := info_parts infoU16
  clear hn hb b1 hsz hd hP ha hv HS
  go_enter Tryd.func4, Tryd.ntmps4
  go_upto_region 1 with (fail)
  rw [← hw1]
  clear hw1
  have BB : Below w1.heap.size w1 w1.drew := ⟨rfl, rfl, rfl, Nat.le_refl _, fun _ _ => rfl⟩
  refine wp_region_held_drew (S := fun w' => w'.cell? ⟨w.heap.size, 0, none⟩ = some (.int .u8 a.fg.k) ∧ w'.cell? ⟨w.heap.size, 1, none⟩ = some (.int .u8 a.fg.r) ∧ w'.cell? ⟨w.heap.size, 2, none⟩ = some (.int .u8 a.fg.g) ∧ w'.cell? ⟨w.heap.size, 3, none⟩ = some (.int .u8 a.fg.b) ∧ w'.cell? ⟨w.heap.size, 4, none⟩ = some (.int .u8 a.bg.k) ∧ w'.cell? ⟨w.heap.size, 5, none⟩ = some (.int .u8 a.bg.r) ∧ w'.cell? ⟨w.heap.size, 6, none⟩ = some (.int .u8 a.bg.g) ∧ w'.cell? ⟨w.heap.size, 7, none⟩ = some (.int .u8 a.bg.b) ∧ w'.cell? ⟨w.heap.size, 8, none⟩ = some (.int .u16 (a.fl : Nat)) ∧ w'.cell? ⟨w.heap.size + 1, 0, none⟩ = some (.int .u16 (d.fl : Nat)) ∧ w'.cell? ⟨w.heap.size + 1, 1, none⟩ = some (.int .u8 (d.k : Nat)) ∧ w'.cell? ⟨w.heap.size + 1, 2, none⟩ = some (.int .u8 (d.f0 : Nat)) ∧ w'.cell? ⟨w.heap.size + 1, 3, none⟩ = some (.int .u8 (d.f1 : Nat)) ∧ w'.cell? ⟨w.heap.size + 1, 4, none⟩ = some (.int .u8 (d.f2 : Nat)) ∧ w'.cell? ⟨w.heap.size + 1, 5, none⟩ = some (.int .u8 (d.b0 : Nat)) ∧ w'.cell? ⟨w.heap.size + 1, 6, none⟩ = some (.int .u8 (d.b1 : Nat)) ∧ w'.cell? ⟨w.heap.size + 1, 7, none⟩ = some (.int .u8 (d.b2 : Nat))) (by kernel_rfl) ?_ (fun hHeld => ?_)
  · exact HKD.out _ BB
  obtain ⟨u0, hu0⟩ : ∃ u0, u0 = w1.drew := ⟨_, rfl⟩
  rw [← hu0] at BB hHeld ⊢
  clear hu0
  have HX := Lib.hid BB
  clear BB
  refine take_at (i := 0) (v := ?_) rfl (by kernel_rfl) (by kernel_rfl) (by kernel_rfl) (fun _ _ _ h => h) (by kernel_rfl) (by assumption) ?_ ?_
  rotate_left
  · (intro w hSw; (try dsimp only at hSw); go_simp; try with_reducible rfl)
  simp only [Act.put, List.setIfInBounds_toArray, List.set_cons_zero, List.set_cons_succ]
  refine take_at (i := 1) (v := ?_) rfl (by kernel_rfl) (by kernel_rfl) (by kernel_rfl) (fun _ _ _ h => h) (by kernel_rfl) (by assumption) ?_ ?_
  rotate_left
  · (intro w hSw; (try dsimp only at hSw); go_simp; try with_reducible rfl)
  simp only [Act.put, List.setIfInBounds_toArray, List.set_cons_zero, List.set_cons_succ]
  refine take_at (i := 4) (v := ?_) rfl (by kernel_rfl) (by kernel_rfl) (by kernel_rfl) (fun _ _ _ h => h) (by kernel_rfl) (by assumption) ?_ ?_
  rotate_left
  · (intro w hSw; (try dsimp only at hSw); go_simp; try with_reducible rfl)
  simp only [Act.put, List.setIfInBounds_toArray, List.set_cons_zero, List.set_cons_succ]
  refine do_at (i := 2) rfl (by kernel_rfl) (by kernel_rfl) (fun K hK => ?_)
  go_simp
  refine (C1.out _).mono ?_
  rintro e u1 ⟨rfl, bb⟩
  replace HX := Lib.hid (HX.out.trans (bb.mono HX.out.size))
  clear bb
  go_wp2_with fail
  refine hK.out _ _ ?_ (fun hHeld => ?_)
  · exact HKD.out _ HX.out
  clear hK K
  try simp only [Act.put, List.setIfInBounds_toArray, List.set_cons_zero, List.set_cons_succ]
  refine take_at (i := 3) (v := ?_) rfl (by kernel_rfl) (by kernel_rfl) (by kernel_rfl) (fun _ _ _ h => h) (by kernel_rfl) (by assumption) ?_ ?_
  rotate_left
  · (intro w hSw; (try dsimp only at hSw); go_simp; try with_reducible rfl)
  simp only [Act.put, List.setIfInBounds_toArray, List.set_cons_zero, List.set_cons_succ]
  refine wpAnyH_done (by kernel_rfl) ?_ _
  have HW2 := Lib.hid HX.out
  clear HX hHeld HKD C1
  have i0 : ∀ w, (Instr.index 42 (.agg #[.int .u8 a.fg.k, .int .u8 a.fg.r, .int .u8 a.fg.g, .int .u8 a.fg.b, .int .u8 a.bg.k, .int .u8 a.bg.r, .int .u8 a.bg.g, .int .u8 a.bg.b, .int .u16 (a.fl : Nat), .int .u8 b.fg.k, .int .u8 b.fg.r, .int .u8 b.fg.g, .int .u8 b.fg.b, .int .u8 b.bg.k, .int .u8 b.bg.r, .int .u8 b.bg.g, .int .u8 b.bg.b, .int .u16 (b.fl : Nat)]) (.int .i64 0)).run Tryd.prog w = .ok (attV a) w := fun w => by kernel_rfl
  have i1 : ∀ w, (Instr.index 42 (.agg #[.int .u8 a.fg.k, .int .u8 a.fg.r, .int .u8 a.fg.g, .int .u8 a.fg.b, .int .u8 a.bg.k, .int .u8 a.bg.r, .int .u8 a.bg.g, .int .u8 a.bg.b, .int .u16 (a.fl : Nat), .int .u8 b.fg.k, .int .u8 b.fg.r, .int .u8 b.fg.g, .int .u8 b.fg.b, .int .u8 b.bg.k, .int .u8 b.bg.r, .int .u8 b.bg.g, .int .u8 b.bg.b, .int .u16 (b.fl : Nat)]) (.int .i64 1)).run Tryd.prog w = .ok (attV b) w := fun w => by kernel_rfl
  have HIX := Lib.hid (And.intro i0 i1)
  clear i0 i1
  go_wp2
  go_loopg [17] 3 (fun gq i wr => ∃ k : Nat, gq + k = 3 ∧ k ≤ 2 ∧ i = .int .i64 k ∧ Hid (Below w1.heap.size w1 wr))
  case atStart => exact ⟨0, rfl, by decide, rfl, HW2⟩
  case round =>
    obtain ⟨k, hgk, hk2, rfl, HW⟩ := hrel
    obtain ⟨wo, rfl⟩ : ∃ wo : World, wo = wr := ⟨_, rfl⟩
    clear HW2
    by_cases hlt : k < 2
    · have hltd : decide ((k : Int) < 2) = true := by simp; omega
      have hk1 : IntKind.i64.wrap ((k : Int) + 1) = (k : Int) + 1 := by rw [IntKind.wrap_i64]; omega
      obtain ⟨x, hxo, hidx⟩ : ∃ x : At, x.ok ∧ ∀ w, (Instr.index 42 (.agg #[.int .u8 a.fg.k, .int .u8 a.fg.r, .int .u8 a.fg.g, .int .u8 a.fg.b, .int .u8 a.bg.k, .int .u8 a.bg.r, .int .u8 a.bg.g, .int .u8 a.bg.b, .int .u16 (a.fl : Nat), .int .u8 b.fg.k, .int .u8 b.fg.r, .int .u8 b.fg.g, .int .u8 b.fg.b, .int .u8 b.bg.k, .int .u8 b.bg.r, .int .u8 b.bg.g, .int .u8 b.bg.b, .int .u16 (b.fl : Nat)]) (.int .i64 (k : Int))).run Tryd.prog w = .ok (attV x) w := by
        have hc : k = 0 ∨ k = 1 := by omega
        rcases hc with rfl | rfl
        · exact ⟨a, HOA.out, HIX.out.1⟩
        · exact ⟨b, HOB.out, HIX.out.2⟩
      have HXO := Lib.hid hxo
      clear hxo
      obtain ⟨w3, hw3⟩ : ∃ w3, w3 = wo.alloc (.cells #[.int .u8 x.fg.k, .int .u8 x.fg.r, .int .u8 x.fg.g, .int .u8 x.fg.b, .int .u8 x.bg.k, .int .u8 x.bg.r, .int .u8 x.bg.g, .int .u8 x.bg.b, .int .u16 (x.fl : Nat)] 26) := ⟨_, rfl⟩
      obtain ⟨z, hz⟩ : ∃ z, z = wo.heap.size := ⟨_, rfl⟩
      have b3 : Below wo.heap.size wo w3 := by rw [hw3]; exact (Below.refl _ _).alloc (Nat.le_refl _) _
      have HA3 := Lib.hid (show AtAt w3 z x by rw [hw3, hz]; exact AtAt.newAt wo _ rfl x _)
      have HW3 := Lib.hid (HW.out.trans (b3.mono HW.out.size))
      go_upto_region 4 with (fail)
      rw [← hw3, ← hz]
      clear hw3 hz b3 hidx
      obtain ⟨sx, hsx⟩ : ∃ s : ByteArray, s = ⟨(allT (paramsM x)).toArray⟩ := ⟨_, rfl⟩
      obtain ⟨rx, hrx⟩ : ∃ q, q = rightM x := ⟨_, rfl⟩
      have CF := Lib.hid (show ∀ W, Below w1.heap.size w1 W → Calls Tryd.prog 21 #[attV x] W fun e w' => e = .returned (.string sx) ∧ Below W.heap.size W w' from fun W hb => by rw [hsx]; exact format_any W x HXO.out (HP1.out.on hb))
      have CFR := Lib.hid (show ∀ W, Calls Tryd.prog 22 #[attV x] W fun e w' => e = .returned (.string sx) ∧ Below W.heap.size W w' from fun W => by rw [hsx]; exact rformat_any W x HXO.out)
      have CR := Lib.hid (show ∀ W, Calls Tryd.prog 15 #[attV x] W fun e w' => e = .returned (.bool rx) ∧ Below W.heap.size W w' from fun W => by rw [hrx]; exact right_any W x HXO.out.2.2)
      have CRR := Lib.hid (show ∀ W, Calls Tryd.prog 16 #[attV x] W fun e w' => e = .returned (.bool rx) ∧ Below W.heap.size W w' from fun W => by rw [hrx]; exact rright_any W x HXO.out.2.2)
      have CP := Lib.hid (fun W => params_any W x HXO.out)
      have CPR := Lib.hid (fun W => rparams_any W x HXO.out)
      clear hsx hrx
      have HKEEP := Lib.hid (show ∀ W : World, Below w3.heap.size w3 W → W.cell? ⟨z, 0, none⟩ = some (.int .u8 x.fg.k) ∧ W.cell? ⟨z, 1, none⟩ = some (.int .u8 x.fg.r) ∧ W.cell? ⟨z, 2, none⟩ = some (.int .u8 x.fg.g) ∧ W.cell? ⟨z, 3, none⟩ = some (.int .u8 x.fg.b) ∧ W.cell? ⟨z, 4, none⟩ = some (.int .u8 x.bg.k) ∧ W.cell? ⟨z, 5, none⟩ = some (.int .u8 x.bg.r) ∧ W.cell? ⟨z, 6, none⟩ = some (.int .u8 x.bg.g) ∧ W.cell? ⟨z, 7, none⟩ = some (.int .u8 x.bg.b) ∧ W.cell? ⟨z, 8, none⟩ = some (.int .u16 (x.fl : Nat)) from fun W hb => by
        obtain ⟨a0, ⟨s0, s1, s2, s3, s4, s5, s6, s7, s8⟩, _⟩ := HA3.out
        exact ⟨(hb.cell (p := ⟨z, 0, none⟩) a0).trans s0, (hb.cell (p := ⟨z, 1, none⟩) a0).trans s1, (hb.cell (p := ⟨z, 2, none⟩) a0).trans s2, (hb.cell (p := ⟨z, 3, none⟩) a0).trans s3, (hb.cell (p := ⟨z, 4, none⟩) a0).trans s4, (hb.cell (p := ⟨z, 5, none⟩) a0).trans s5, (hb.cell (p := ⟨z, 6, none⟩) a0).trans s6, (hb.cell (p := ⟨z, 7, none⟩) a0).trans s7, (hb.cell (p := ⟨z, 8, none⟩) a0).trans s8⟩)
      have BB : Below w3.heap.size w3 w3.drew := ⟨rfl, rfl, rfl, Nat.le_refl _, fun _ _ => rfl⟩
      refine wp_region_held_drew (S := fun w' => w'.cell? ⟨z, 0, none⟩ = some (.int .u8 x.fg.k) ∧ w'.cell? ⟨z, 1, none⟩ = some (.int .u8 x.fg.r) ∧ w'.cell? ⟨z, 2, none⟩ = some (.int .u8 x.fg.g) ∧ w'.cell? ⟨z, 3, none⟩ = some (.int .u8 x.fg.b) ∧ w'.cell? ⟨z, 4, none⟩ = some (.int .u8 x.bg.k) ∧ w'.cell? ⟨z, 5, none⟩ = some (.int .u8 x.bg.r) ∧ w'.cell? ⟨z, 6, none⟩ = some (.int .u8 x.bg.g) ∧ w'.cell? ⟨z, 7, none⟩ = some (.int .u8 x.bg.b) ∧ w'.cell? ⟨z, 8, none⟩ = some (.int .u16 (x.fl : Nat))) (by kernel_rfl) ?_ (fun hHeld => ?_)
      · exact HKEEP.out _ BB
      obtain ⟨u0, hu0⟩ : ∃ u0, u0 = w3.drew := ⟨_, rfl⟩
      rw [← hu0] at BB hHeld ⊢
      clear hu0
      have HX := Lib.hid BB
      clear BB
      refine take_at (i := 0) (v := ?_) rfl (by kernel_rfl) (by kernel_rfl) (by kernel_rfl) (fun _ _ _ h => h) (by kernel_rfl) (by assumption) ?_ ?_
      rotate_left
      · (intro w hSw; (try dsimp only at hSw); go_simp; try with_reducible rfl)
      simp only [Act.put, List.setIfInBounds_toArray, List.set_cons_zero, List.set_cons_succ]
      refine take_at (i := 2) (v := ?_) rfl (by kernel_rfl) (by kernel_rfl) (by kernel_rfl) (fun _ _ _ h => h) (by kernel_rfl) (by assumption) ?_ ?_
      rotate_left
      · (intro w hSw; (try dsimp only at hSw); go_simp; try with_reducible rfl)
      simp only [Act.put, List.setIfInBounds_toArray, List.set_cons_zero, List.set_cons_succ]
      refine do_at (i := 1) rfl (by kernel_rfl) (by kernel_rfl) (fun K hK => ?_)
      go_simp
      refine (CP.out _).mono ?_
      rintro e u1 ⟨m1, rfl, R1, bb⟩
      replace HX := Lib.hid (HX.out.trans (bb.mono HX.out.size))
      have M1 := Lib.hid R1.mat
      clear bb R1
      go_wp2_with fail
      refine hK.out _ _ ?_ (fun hHeld => ?_)
      · exact HKEEP.out _ HX.out
      clear hK K
      try simp only [Act.put, List.setIfInBounds_toArray, List.set_cons_zero, List.set_cons_succ]
      refine do_at (i := 3) rfl (by kernel_rfl) (by kernel_rfl) (fun K hK => ?_)
      go_simp
      refine (CPR.out _).mono ?_
      rintro e u2 ⟨m2, rfl, R2, bb⟩
      replace HX := Lib.hid (HX.out.trans (bb.mono HX.out.size))
      have M2 := Lib.hid R2.mat
      replace M1 := Lib.hid (M1.out.below bb)
      clear bb R2
      go_wp2_with fail
      refine hK.out _ _ ?_ (fun hHeld => ?_)
      · exact HKEEP.out _ HX.out
      clear hK K
      try simp only [Act.put, List.setIfInBounds_toArray, List.set_cons_zero, List.set_cons_succ]
      refine do_at (i := 4) rfl (by kernel_rfl) (by kernel_rfl) (fun K hK => ?_)
      go_simp
      refine (rsame_eq _ _ _ m1 m2 (paramsM x) M1.out M2.out).mono ?_
      rintro e u3 ⟨rfl, bb⟩
      replace HX := Lib.hid (HX.out.trans (bb.mono HX.out.size))
      clear M1 M2
      clear bb
      go_wp2_with fail
      refine hK.out _ _ ?_ (fun hHeld => ?_)
      · exact HKEEP.out _ HX.out
      clear hK K
      try simp only [Act.put, List.setIfInBounds_toArray, List.set_cons_zero, List.set_cons_succ]
      refine take_at (i := 5) (v := ?_) rfl (by kernel_rfl) (by kernel_rfl) (by kernel_rfl) (fun _ _ _ h => h) (by kernel_rfl) (by assumption) ?_ ?_
      rotate_left
      · (intro w hSw; (try dsimp only at hSw); go_simp; try with_reducible rfl)
      simp only [Act.put, List.setIfInBounds_toArray, List.set_cons_zero, List.set_cons_succ]
      refine take_at (i := 6) (v := ?_) rfl (by kernel_rfl) (by kernel_rfl) (by kernel_rfl) (fun _ _ _ h => h) (by kernel_rfl) (by assumption) ?_ ?_
      rotate_left
      · (intro w hSw; (try dsimp only at hSw); go_simp; try with_reducible rfl)
      simp only [Act.put, List.setIfInBounds_toArray, List.set_cons_zero, List.set_cons_succ]
      refine take_at (i := 7) (v := ?_) rfl (by kernel_rfl) (by kernel_rfl) (by kernel_rfl) (fun _ _ _ h => h) (by kernel_rfl) (by assumption) ?_ ?_
      rotate_left
      · (intro w hSw; (try dsimp only at hSw); go_simp; try with_reducible rfl)
      simp only [Act.put, List.setIfInBounds_toArray, List.set_cons_zero, List.set_cons_succ]
      refine take_at (i := 9) (v := ?_) rfl (by kernel_rfl) (by kernel_rfl) (by kernel_rfl) (fun _ _ _ h => h) (by kernel_rfl) (by assumption) ?_ ?_
      rotate_left
      · (intro w hSw; (try dsimp only at hSw); go_simp; try with_reducible rfl)
      simp only [Act.put, List.setIfInBounds_toArray, List.set_cons_zero, List.set_cons_succ]
      refine do_at (i := 8) rfl (by kernel_rfl) (by kernel_rfl) (fun K hK => ?_)
      go_simp
      refine (CF.out _ (HW3.out.trans (HX.out.mono HW3.out.size))).mono ?_
      rintro e u4 ⟨rfl, bb⟩
      replace HX := Lib.hid (HX.out.trans (bb.mono HX.out.size))
      clear bb
      go_wp2_with fail
      refine hK.out _ _ ?_ (fun hHeld => ?_)
      · exact HKEEP.out _ HX.out
      clear hK K
      try simp only [Act.put, List.setIfInBounds_toArray, List.set_cons_zero, List.set_cons_succ]
      refine do_at (i := 10) rfl (by kernel_rfl) (by kernel_rfl) (fun K hK => ?_)
      go_simp
      refine (CFR.out _).mono ?_
      rintro e u5 ⟨rfl, bb⟩
      replace HX := Lib.hid (HX.out.trans (bb.mono HX.out.size))
      clear bb
      go_wp2_with fail
      refine hK.out _ _ ?_ (fun hHeld => ?_)
      · exact HKEEP.out _ HX.out
      clear hK K
      try simp only [Act.put, List.setIfInBounds_toArray, List.set_cons_zero, List.set_cons_succ]
      refine take_at (i := 11) (v := ?_) rfl (by kernel_rfl) (by kernel_rfl) (by kernel_rfl) (fun _ _ _ h => h) (by kernel_rfl) (by assumption) ?_ ?_
      rotate_left
      · (intro w hSw; (try dsimp only at hSw); go_simp; try with_reducible rfl)
      simp only [Act.put, List.setIfInBounds_toArray, List.set_cons_zero, List.set_cons_succ]
      refine take_at (i := 12) (v := ?_) rfl (by kernel_rfl) (by kernel_rfl) (by kernel_rfl) (fun _ _ _ h => h) (by kernel_rfl) (by assumption) ?_ ?_
      rotate_left
      · (intro w hSw; (try dsimp only at hSw); go_simp; try with_reducible rfl)
      simp only [Act.put, List.setIfInBounds_toArray, List.set_cons_zero, List.set_cons_succ]
      refine take_at (i := 13) (v := ?_) rfl (by kernel_rfl) (by kernel_rfl) (by kernel_rfl) (fun _ _ _ h => h) (by kernel_rfl) (by assumption) ?_ ?_
      rotate_left
      · (intro w hSw; (try dsimp only at hSw); go_simp; try with_reducible rfl)
      simp only [Act.put, List.setIfInBounds_toArray, List.set_cons_zero, List.set_cons_succ]
      refine take_at (i := 14) (v := ?_) rfl (by kernel_rfl) (by kernel_rfl) (by kernel_rfl) (fun _ _ _ h => h) (by kernel_rfl) (by assumption) ?_ ?_
      rotate_left
      · (intro w hSw; (try dsimp only at hSw); go_simp; try with_reducible rfl)
      simp only [Act.put, List.setIfInBounds_toArray, List.set_cons_zero, List.set_cons_succ]
      refine take_at (i := 16) (v := ?_) rfl (by kernel_rfl) (by kernel_rfl) (by kernel_rfl) (fun _ _ _ h => h) (by kernel_rfl) (by assumption) ?_ ?_
      rotate_left
      · (intro w hSw; (try dsimp only at hSw); go_simp; try with_reducible rfl)
      simp only [Act.put, List.setIfInBounds_toArray, List.set_cons_zero, List.set_cons_succ]
      refine do_at (i := 15) rfl (by kernel_rfl) (by kernel_rfl) (fun K hK => ?_)
      go_simp
      refine (CR.out _).mono ?_
      rintro e u6 ⟨rfl, bb⟩
      replace HX := Lib.hid (HX.out.trans (bb.mono HX.out.size))
      clear bb
      go_wp2_with fail
      refine hK.out _ _ ?_ (fun hHeld => ?_)
      · exact HKEEP.out _ HX.out
      clear hK K
      try simp only [Act.put, List.setIfInBounds_toArray, List.set_cons_zero, List.set_cons_succ]
      refine do_at (i := 17) rfl (by kernel_rfl) (by kernel_rfl) (fun K hK => ?_)
      go_simp
      refine (CRR.out _).mono ?_
      rintro e u7 ⟨rfl, bb⟩
      replace HX := Lib.hid (HX.out.trans (bb.mono HX.out.size))
      clear bb
      go_wp2_with fail
      refine hK.out _ _ ?_ (fun hHeld => ?_)
      · exact HKEEP.out _ HX.out
      clear hK K
      try simp only [Act.put, List.setIfInBounds_toArray, List.set_cons_zero, List.set_cons_succ]
      refine take_at (i := 18) (v := ?_) rfl (by kernel_rfl) (by kernel_rfl) (by kernel_rfl) (fun _ _ _ h => h) (by kernel_rfl) (by assumption) ?_ ?_
      rotate_left
      · (intro w hSw; (try dsimp only at hSw); go_simp; try with_reducible rfl)
      simp only [Act.put, List.setIfInBounds_toArray, List.set_cons_zero, List.set_cons_succ]
      refine take_at (i := 19) (v := ?_) rfl (by kernel_rfl) (by kernel_rfl) (by kernel_rfl) (fun _ _ _ h => h) (by kernel_rfl) (by assumption) ?_ ?_
      rotate_left
      · (intro w hSw; (try dsimp only at hSw); go_simp; try with_reducible rfl)
      simp only [Act.put, List.setIfInBounds_toArray, List.set_cons_zero, List.set_cons_succ]
      refine wpAnyH_done (by kernel_rfl) ?_ _
      have HW4 := Lib.hid (HW3.out.trans (HX.out.mono HW3.out.size))
      have HA4 := Lib.hid (HA3.out.below HX.out)
      clear HX hHeld HKEEP CF CFR CR CRR CP CPR HA3 HW3
      obtain ⟨w5, hw5⟩ : ∃ w5, w5 = u7.alloc (.cells #[.int .u8 x.fg.k, .int .u8 x.fg.r, .int .u8 x.fg.g, .int .u8 x.fg.b, .int .u8 x.bg.k, .int .u8 x.bg.r, .int .u8 x.bg.g, .int .u8 x.bg.b, .int .u16 (x.fl : Nat)] 26) := ⟨_, rfl⟩
      obtain ⟨y, hy⟩ : ∃ y, y = u7.heap.size := ⟨_, rfl⟩
      have b5 : Below u7.heap.size u7 w5 := by rw [hw5]; exact (Below.refl _ _).alloc (Nat.le_refl _) _
      have HY5 := Lib.hid (show AtAt w5 y x by rw [hw5, hy]; exact AtAt.newAt u7 _ rfl x _)
      have HA5 := Lib.hid (HA4.out.below b5)
      have HW5 := Lib.hid (HW4.out.trans (b5.mono HW4.out.size))
      have HYZ := Lib.hid (show z < y ∧ w1.heap.size ≤ y ∧ y < w5.heap.size from ⟨by have := HA4.out.1; omega, by rw [hy]; exact HW4.out.size, HY5.out.1⟩)
      obtain ⟨_, ⟨y1, y2, y3, y4, y5, y6, y7, y8, y9⟩, yf⟩ := HA4.out
      go_upto_region 7 with (fail)
      rw [← hw5, ← hy]
      clear hw5 hy b5 HA4 HW4 y1 y2 y3 y4 y5 y6 y7 y8 y9 yf
      have HU5 := Lib.hid (show URow w5 (y + 1) (.slice none 0 0) (clr cs 1) by
        have e : clr cs 1 = [] := by unfold clr; cases cs <;> rfl
        rw [e]
        exact World.ownsRow_nil _ _ _ 1)
      have HY5' := Lib.hid (show AtAt w5 y { x with fl := foldF x.fl (clr cs 1) } by
        have e : clr cs 1 = [] := by unfold clr; cases cs <;> rfl
        rw [e]
        exact HY5.out)
      have HS5 := Lib.hid (show y + 1 ≤ w5.heap.size from HYZ.out.2.2)
      clear HY5
      obtain ⟨gO, rfl⟩ : ∃ gO, gO = gk := ⟨_, rfl⟩
      go_wp2
      go_loopg [10, 11] 7 (fun gq v i wr => ∃ k : Nat, gq + k = 8 ∧ 1 ≤ k ∧ k ≤ 6 ∧ (k = 1 ∨ k ≤ n) ∧ i = .int .i64 k ∧ Hid (URow wr (y + 1) v (clr cs k)) ∧ Hid (AtAt wr y { x with fl := foldF x.fl (clr cs k) }) ∧ Hid (AtAt wr z x) ∧ Hid (Below w1.heap.size w1 wr) ∧ Hid (y + 1 ≤ wr.heap.size))
      case atStart => exact ⟨1, rfl, by decide, by decide, .inl rfl, rfl, HU5, HY5', HA5, HW5, HS5⟩
      case round =>
        obtain ⟨j, hgj, hj1, hj6, hjn, rfl, HU, HY, HA, HWJ, HSJ⟩ := hrel
        obtain ⟨wj, rfl⟩ : ∃ wj : World, wj = wr := ⟨_, rfl⟩
        clear HU5 HY5' HA5 HW5 HS5
        obtain ⟨ua, uc, rfl⟩ := HU.out.shape
        have hcl : (clr cs j).length = j - 1 := by
          rcases hjn with rfl | h
          · unfold clr; cases cs <;> rfl
          · exact clr_len cs j (by rw [← HN.out]; exact h)
        obtain ⟨nl, hnl⟩ : ∃ nl, nl = (clr cs j).length := ⟨_, rfl⟩
        have HNL := Lib.hid hnl
        have hnl6 : nl ≤ 6 := by omega
        rw [← hnl] at HU ⊢
        clear hnl hcl
        by_cases hgo : j < n ∧ j < 6
        · obtain ⟨hjn', hj6'⟩ := hgo
          have f1 : decide ((j : Int) < (n : Int)) = true := by simp; omega
          have f2 : decide ((j : Int) < 6) = true := by simp; omega
          have f3 : (j : Int) < n := by omega
          have f4 : (j : Int) < 6 := by omega
          have hj1' : IntKind.i64.wrap ((j : Int) + 1) = (j : Int) + 1 := by rw [IntKind.wrap_i64]; omega
          have hjc : j < cs.length := by rw [← HN.out]; exact hjn'
          obtain ⟨_, _, e1, _, hcb, hcell⟩ := HV1.out
          obtain ⟨g, o, e2, hg, hc⟩ := hcell (by omega)
          injection e1 with e1 e3 e4
          subst e1 e2
          obtain ⟨f, hf⟩ : ∃ f, f = cs.getD j 0 := ⟨_, rfl⟩
          have hf16 : f < 65536 := hcb f (by rw [hf]; exact getD_mem 0 hjc)
          have x1 := (HWJ.out.cell (p := ⟨g, o + j, none⟩) hg).trans (hc j hjc)
          rw [← hf] at x1
          have HCS := Lib.hid (show clr cs (j + 1) = clr cs j ++ [f] by rw [hf]; exact clr_succ cs j hj1 hjc)
          have hU := HU.out
          have hUo : wj.ownsRow (y + 1) 24 1 (.slice ua nl uc) nl (u16V (clr cs j)) := by have := hU; unfold URow at this; rwa [← HNL.out] at this
          have x1' : (wj.alloc (.cells #[.int .u16 (f : Int)] 24)).cell? ⟨g, o + j, none⟩ = some (.int .u16 (f : Int)) := ((show Below wj.heap.size wj (wj.alloc (.cells #[.int .u16 (f : Int)] 24)) from (Below.refl _ _).alloc (Nat.le_refl _) _).cell (p := ⟨g, o + j, none⟩) (World.block_lt_of_cell? (a := ⟨g, o + j, none⟩) _ x1)).trans x1
          clear hf hcb hcell hc e3 e4 hU HU x1'
          go_wp2_with (at_builtin; refine wpList_append_own _ rfl (.tmp 51) (.tmp 56) 40 rfl (y + 1) 24 ib (.int .u16 0) 1 2 Tryd.underlying40 hi hz0 hz1 hz2 rfl (by decide) (.slice ua nl uc) nl (u16V (clr cs j)) rfl (hUo.alloc _) ⟨wj.heap.size, 0, none⟩ 1 1 [.int .u16 (f : Int)] rfl rfl ?c1 ?c2 ?c3 ?c4 ?c5 ?_)
          case c1 => exact new_cells wj [.int .u16 (f : Int)] 24 _ rfl
          case c2 => simp [Value.oneCell']
          case c3 => unfold maxLen; omega
          case c4 => omega
          case c5 => have := HSJ.out; simp; omega
          intro v' w6 own2 grow2 _
          have b6 : Below (y + 1) wj w6 := ((Below.refl (y + 1) wj).alloc HSJ.out _).grown grow2 (by have := HSJ.out; simp; omega) (fun j hj => (hUo.lt j hj).1)
          have HU6 := Lib.hid (show URow w6 (y + 1) v' (clr cs (j + 1)) by
            rw [HCS.out]
            unfold URow
            rw [List.length_append, ← HNL.out]
            simpa [u16V] using own2)
          have HY6 := Lib.hid (HY.out.same b6.size (b6.block y (Nat.lt_succ_self y)))
          have HA6 := Lib.hid (HA.out.same b6.size (b6.block z (by have := HYZ.out; omega)))
          have HW6 := Lib.hid (HWJ.out.trans (b6.mono (by have := HYZ.out; omega)))
          have HS6 := Lib.hid (Nat.le_trans HSJ.out b6.size)
          have HKF := Lib.hid (show ∀ W : World, Below w1.heap.size w1 W → W.cell? ⟨g, o + j, none⟩ = some (.int .u16 (f : Int)) from fun W hb => (hb.cell (p := ⟨g, o + j, none⟩) hg).trans ((HWJ.out.cell (p := ⟨g, o + j, none⟩) hg).symm.trans x1))
          obtain ⟨fj, hfj⟩ : ∃ fj, fj = foldF x.fl (clr cs j) := ⟨_, rfl⟩
          have hfj16 : fj < 65536 := by rw [hfj]; exact Nat.lt_of_le_of_lt (foldF_le _ _) HXO.out.2.2
          obtain ⟨f2, hf2⟩ : ∃ f2, f2 = fj &&& (65535 - f) := ⟨_, rfl⟩
          have hbit : bits .andNot .u16 (fj : Int) (f : Int) = (f2 : Int) := by rw [hf2]; exact u16_andN fj f hfj16 hf16
          have HF2 := Lib.hid (show f2 = foldF x.fl (clr cs (j + 1)) by rw [HCS.out, foldF_snoc, hf2, hfj])
          rw [← hfj] at HY6
          obtain ⟨uu, uuc, rfl⟩ := HU6.out.shape
          obtain ⟨nu, hnu⟩ : ∃ nu, nu = (clr cs (j + 1)).length := ⟨_, rfl⟩
          rw [← hnu] at HU6 ⊢
          have HNU := Lib.hid hnu
          clear own2 grow2 b6 hUo HCS HY HA HWJ HSJ x1 hfj hf2 hf16 hfj16 hnu hg hjc
          have BB : Below w6.heap.size w6 w6.drew := ⟨rfl, rfl, rfl, Nat.le_refl _, fun _ _ => rfl⟩
          have HX := Lib.hid (HW6.out.trans (BB.mono HW6.out.size))
          have HYX := Lib.hid (HY6.out.below BB)
          have HAX := Lib.hid (HA6.out.below BB)
          have HUX := Lib.hid (HU6.out.below BB)
          have HSX := Lib.hid (show y + 1 ≤ w6.drew.heap.size from HS6.out)
          clear BB HY6 HA6 HU6 HS6 HW6
          go_upto_region 12 with (fail)
          refine wp_region_held_drew (S := fun w' => w'.cell? ⟨g, o + j, none⟩ = some (.int .u16 (f : Int))) (by kernel_rfl) ?_ (fun hHeld => ?_)
          · exact HKF.out _ HX.out
          obtain ⟨u0, hu0⟩ : ∃ u0, u0 = w6.drew := ⟨_, rfl⟩
          rw [← hu0] at HX HYX HAX HUX HSX hHeld ⊢
          clear hu0
          refine take_at (i := 0) (v := ?_) rfl (by kernel_rfl) (by kernel_rfl) (by kernel_rfl) (fun _ _ _ h => h) (by kernel_rfl) (by assumption) ?_ ?_
          rotate_left
          · (intro w hSw; (try dsimp only at hSw); go_simp; try with_reducible rfl)
          simp only [Act.put, List.setIfInBounds_toArray, List.set_cons_zero, List.set_cons_succ]
          refine take_at (i := 2) (v := ?_) rfl (by kernel_rfl) (by kernel_rfl) (by kernel_rfl) (fun _ _ _ h => h) (by kernel_rfl) (by assumption) ?_ ?_
          rotate_left
          · (intro w hSw; (try dsimp only at hSw); go_simp; try with_reducible rfl)
          simp only [Act.put, List.setIfInBounds_toArray, List.set_cons_zero, List.set_cons_succ]
          refine take_at (i := 3) (v := ?_) rfl (by kernel_rfl) (by kernel_rfl) (by kernel_rfl) (fun _ _ _ h => h) (by kernel_rfl) (by assumption) ?_ ?_
          rotate_left
          · (intro w hSw; (try dsimp only at hSw); go_simp; try with_reducible rfl)
          simp only [Act.put, List.setIfInBounds_toArray, List.set_cons_zero, List.set_cons_succ]
          refine take_at (i := 4) (v := ?_) rfl (by kernel_rfl) (by kernel_rfl) (by kernel_rfl) (fun _ _ _ h => h) (by kernel_rfl) (by assumption) ?_ ?_
          rotate_left
          · (intro w hSw; (try dsimp only at hSw); go_simp; try with_reducible rfl)
          simp only [Act.put, List.setIfInBounds_toArray, List.set_cons_zero, List.set_cons_succ]
          refine take_at (i := 5) (v := ?_) rfl (by kernel_rfl) (by kernel_rfl) (by kernel_rfl) (fun _ _ _ h => h) (by kernel_rfl) (by assumption) ?_ ?_
          rotate_left
          · (intro w hSw; (try dsimp only at hSw); go_simp; try with_reducible rfl)
          simp only [Act.put, List.setIfInBounds_toArray, List.set_cons_zero, List.set_cons_succ]
          refine do_at (i := 1) rfl (by kernel_rfl) (by kernel_rfl) (fun K hK => ?_)
          obtain ⟨_, ⟨_, _, _, _, _, _, _, _, y9⟩, yf⟩ := HYX.out
          dsimp only at y9
          go_wp2_with fail
          clear y9 yf
          refine hK.out _ _ ?_ (fun hHeld => ?_)
          · exact HKF.out _ HX.out
          clear hK K
          try simp only [Act.put, List.setIfInBounds_toArray, List.set_cons_zero, List.set_cons_succ]
          refine take_at (i := 6) (v := ?_) rfl (by kernel_rfl) (by kernel_rfl) (by kernel_rfl) (fun _ _ _ h => h) (by kernel_rfl) (by assumption) ?_ ?_
          rotate_left
          · (intro w hSw; (try dsimp only at hSw); go_simp; try with_reducible rfl)
          simp only [Act.put, List.setIfInBounds_toArray, List.set_cons_zero, List.set_cons_succ]
          refine take_at (i := 7) (v := ?_) rfl (by kernel_rfl) (by kernel_rfl) (by kernel_rfl) (fun _ _ _ h => h) (by kernel_rfl) (by assumption) ?_ ?_
          rotate_left
          · (intro w hSw; (try dsimp only at hSw); go_simp; try with_reducible rfl)
          simp only [Act.put, List.setIfInBounds_toArray, List.set_cons_zero, List.set_cons_succ]
          refine do_at (i := 8) rfl (by kernel_rfl) (by kernel_rfl) (fun K hK => ?_)
          obtain ⟨_, ⟨_, _, _, _, _, _, _, _, y9⟩, yf⟩ := HYX.out
          dsimp only at y9
          go_wp2_with fail
          clear y9 yf
          obtain ⟨u8, hu8⟩ : ∃ u, u = u0.setCell ⟨y, 8, none⟩ (.int .u16 (f2 : Int)) := ⟨_, rfl⟩
          rw [← hu8]
          have HY8 := Lib.hid (show AtAt u8 y { x with fl := foldF x.fl (clr cs (j + 1)) } by rw [hu8, ← HF2.out]; exact HYX.out.putFl f2)
          have HA8 := Lib.hid (show AtAt u8 z x by rw [hu8]; exact HAX.out.same (by simp) (Below.heap_setCell _ _ _ _ (by have := HYZ.out; simp only; omega)))
          have HU8 := Lib.hid (show URow u8 (y + 1) (.slice uu nu uuc) (clr cs (j + 1)) by
            rw [hu8]
            refine World.ownsRow.kept HUX.out (w' := u0.setCell ⟨y, 8, none⟩ (.int .u16 (f2 : Int))) (row := some y) ⟨rfl, rfl, rfl, by simp, fun b _ hne => Below.heap_setCell _ _ _ _ (fun e => hne (by rw [e]))⟩ (.inr fun e => ?_)
            have := (HUX.out.lt y e).1
            omega)
          have HX8 := Lib.hid (show Below w1.heap.size w1 u8 by rw [hu8]; exact HX.out.setCell HYZ.out.2.1 _)
          have HS8 := Lib.hid (show y + 1 ≤ u8.heap.size by rw [hu8]; simpa using HSX.out)
          clear hu8 HYX HAX HUX HX HSX
          have HX := HX8
          refine hK.out _ _ ?_ (fun hHeld => ?_)
          · exact HKF.out _ HX.out
          clear hK K
          try simp only [Act.put, List.setIfInBounds_toArray, List.set_cons_zero, List.set_cons_succ]
          refine wpAnyH_done (by kernel_rfl) ?_ _
          clear hHeld HKF HX
          go_wp2
          go_roundg (gk - 1)
          case rel => exact ⟨j + 1, by omega, by omega, by omega, .inr (by omega), by go_num, by rw [HNU.out] at HU8 ⊢; exact HU8, HY8, HA8, HX8, HS8⟩
          case measure => omega
        · have HMEM := Lib.hid (show ∀ x ∈ cs, x < 65536 by obtain ⟨_, _, _, _, h, _⟩ := HV1.out; exact h)
          by_cases hjn2 : j < n
          · have f1 : decide ((j : Int) < (n : Int)) = true := by simp; omega
            have f1' : (j : Int) < n := by omega
            have f2 : decide ((j : Int) < 6) = false := by simp; omega
            have f2' : ¬ (j : Int) < 6 := by omega
            have hn0 : 0 < n := by omega
            clear hgo hjn2 hjn
            have g1 : (0 : Int) < n := by omega
            have g2 : decide ((n : Int) > 0) = true := by simp; omega
            have g3 : decide ((0 : Int) < n) = true := by simp; omega
            obtain ⟨_, _, e1, _, hcb, hcell⟩ := HV1.out
            obtain ⟨g, o, e2, hg, hc⟩ := hcell (by rw [← HN.out]; omega)
            injection e1 with e1 e3 e4
            subst e1 e2
            obtain ⟨s, hs⟩ : ∃ s, s = cs.getD 0 0 := ⟨_, rfl⟩
            have hs16 : s < 65536 := hcb s (by rw [hs]; exact getD_mem 0 (by rw [← HN.out]; omega))
            have x1 := (HWJ.out.cell (p := ⟨g, o + 0, none⟩) hg).trans (hc 0 (by rw [← HN.out]; omega))
            rw [← hs] at x1
            simp only [Nat.add_zero] at x1
            clear hcb hcell hc e3 e4 hs hg
            obtain ⟨fj, hfj⟩ : ∃ fj, fj = foldF x.fl (clr cs j) := ⟨_, rfl⟩
            have hfj16 : fj < 65536 := by rw [hfj]; exact Nat.lt_of_le_of_lt (foldF_le _ _) HXO.out.2.2
            obtain ⟨f3, hf3⟩ : ∃ f3, f3 = fj ||| s := ⟨_, rfl⟩
            have hbit : bits .or .u16 (fj : Int) (s : Int) = (f3 : Int) := by rw [hf3]; exact u16_orN fj s hfj16 hs16
            have HF3 := Lib.hid (show f3 = flagsL x.fl s (clr cs j) by rw [hf3, hfj]; rfl)
            have HYJ := Lib.hid (show AtAt wj y { x with fl := fj } by rw [hfj]; exact HY.out)
            clear hfj hf3 hfj16 HY
            obtain ⟨_, ⟨_, _, _, _, _, _, _, _, y9⟩, yf⟩ := HYJ.out
            dsimp only at y9
            obtain ⟨w8, hw8⟩ : ∃ u, u = wj.setCell ⟨y, 8, none⟩ (.int .u16 (f3 : Int)) := ⟨_, rfl⟩
            obtain ⟨A3, hA3⟩ : ∃ A : At, A = { x with fl := flagsL x.fl s (clr cs j) } := ⟨_, rfl⟩
            have HY8 := Lib.hid (show AtAt w8 y A3 by rw [hw8, hA3, ← HF3.out]; exact HYJ.out.putFl f3)
            have HA8 := Lib.hid (show AtAt w8 z x by rw [hw8]; exact HA.out.same (by simp) (Below.heap_setCell _ _ _ _ (by have := HYZ.out; simp only; omega)))
            have HU8 := Lib.hid (show URow w8 (y + 1) (.slice ua nl uc) (clr cs j) by
              rw [hw8]
              refine World.ownsRow.kept HU.out (w' := wj.setCell ⟨y, 8, none⟩ (.int .u16 (f3 : Int))) (row := some y) ⟨rfl, rfl, rfl, by simp, fun b _ hne => Below.heap_setCell _ _ _ _ (fun e => hne (by rw [e]))⟩ (.inr fun e => ?_)
              have := (HU.out.lt y e).1
              omega)
            have HX8 := Lib.hid (show Below w1.heap.size w1 w8 by rw [hw8]; exact HWJ.out.setCell HYZ.out.2.1 _)
            have HUS := Lib.hid (show U16s w8 (.slice ua nl uc) (clr cs j) from HU8.out.u16s (by rw [← HNL.out]; omega) (fun x hx => HMEM.out x (List.mem_of_mem_take (List.mem_of_mem_drop hx))))
            have CFL := Lib.hid (show ∀ W, Below w8.heap.size w8 W → Calls Tryd.prog 23 #[attV x, .int .u16 (s : Nat), .slice ua nl uc] W fun e w' => e = .returned (attV A3) ∧ Below W.heap.size W w' from fun W hb => by
              have := flags_any W x s (clr cs j) (.slice ua nl uc) HXO.out.2.2 hs16 (HUS.out.below hb)
              rw [hA3]
              exact this)
            have hqx := fun w => (eqAtt w A3 A3).trans (by rw [eqA_self])
            go_upto_region 17 with (fail)
            rw [← hw8]
            clear hw8 hA3 HYJ y9 yf HU HU8 HA HWJ HUS hbit x1
            have HKEEP := Lib.hid (show ∀ W : World, Below w8.heap.size w8 W → W.cell? ⟨z, 0, none⟩ = some (.int .u8 x.fg.k) ∧ W.cell? ⟨z, 1, none⟩ = some (.int .u8 x.fg.r) ∧ W.cell? ⟨z, 2, none⟩ = some (.int .u8 x.fg.g) ∧ W.cell? ⟨z, 3, none⟩ = some (.int .u8 x.fg.b) ∧ W.cell? ⟨z, 4, none⟩ = some (.int .u8 x.bg.k) ∧ W.cell? ⟨z, 5, none⟩ = some (.int .u8 x.bg.r) ∧ W.cell? ⟨z, 6, none⟩ = some (.int .u8 x.bg.g) ∧ W.cell? ⟨z, 7, none⟩ = some (.int .u8 x.bg.b) ∧ W.cell? ⟨z, 8, none⟩ = some (.int .u16 (x.fl : Nat)) ∧ W.cell? ⟨y, 0, none⟩ = some (.int .u8 A3.fg.k) ∧ W.cell? ⟨y, 1, none⟩ = some (.int .u8 A3.fg.r) ∧ W.cell? ⟨y, 2, none⟩ = some (.int .u8 A3.fg.g) ∧ W.cell? ⟨y, 3, none⟩ = some (.int .u8 A3.fg.b) ∧ W.cell? ⟨y, 4, none⟩ = some (.int .u8 A3.bg.k) ∧ W.cell? ⟨y, 5, none⟩ = some (.int .u8 A3.bg.r) ∧ W.cell? ⟨y, 6, none⟩ = some (.int .u8 A3.bg.g) ∧ W.cell? ⟨y, 7, none⟩ = some (.int .u8 A3.bg.b) ∧ W.cell? ⟨y, 8, none⟩ = some (.int .u16 (A3.fl : Nat)) from fun W hb => by
              obtain ⟨a0, ⟨s0, s1, s2, s3, s4, s5, s6, s7, s8⟩, _⟩ := HA8.out
              obtain ⟨a1, ⟨s9, s10, s11, s12, s13, s14, s15, s16, s17⟩, _⟩ := HY8.out
              exact ⟨(hb.cell (p := ⟨z, 0, none⟩) a0).trans s0, (hb.cell (p := ⟨z, 1, none⟩) a0).trans s1, (hb.cell (p := ⟨z, 2, none⟩) a0).trans s2, (hb.cell (p := ⟨z, 3, none⟩) a0).trans s3, (hb.cell (p := ⟨z, 4, none⟩) a0).trans s4, (hb.cell (p := ⟨z, 5, none⟩) a0).trans s5, (hb.cell (p := ⟨z, 6, none⟩) a0).trans s6, (hb.cell (p := ⟨z, 7, none⟩) a0).trans s7, (hb.cell (p := ⟨z, 8, none⟩) a0).trans s8, (hb.cell (p := ⟨y, 0, none⟩) a1).trans s9, (hb.cell (p := ⟨y, 1, none⟩) a1).trans s10, (hb.cell (p := ⟨y, 2, none⟩) a1).trans s11, (hb.cell (p := ⟨y, 3, none⟩) a1).trans s12, (hb.cell (p := ⟨y, 4, none⟩) a1).trans s13, (hb.cell (p := ⟨y, 5, none⟩) a1).trans s14, (hb.cell (p := ⟨y, 6, none⟩) a1).trans s15, (hb.cell (p := ⟨y, 7, none⟩) a1).trans s16, (hb.cell (p := ⟨y, 8, none⟩) a1).trans s17⟩)
            have BB : Below w8.heap.size w8 w8.drew := ⟨rfl, rfl, rfl, Nat.le_refl _, fun _ _ => rfl⟩
            refine wp_region_held_drew (S := fun w' => w'.cell? ⟨z, 0, none⟩ = some (.int .u8 x.fg.k) ∧ w'.cell? ⟨z, 1, none⟩ = some (.int .u8 x.fg.r) ∧ w'.cell? ⟨z, 2, none⟩ = some (.int .u8 x.fg.g) ∧ w'.cell? ⟨z, 3, none⟩ = some (.int .u8 x.fg.b) ∧ w'.cell? ⟨z, 4, none⟩ = some (.int .u8 x.bg.k) ∧ w'.cell? ⟨z, 5, none⟩ = some (.int .u8 x.bg.r) ∧ w'.cell? ⟨z, 6, none⟩ = some (.int .u8 x.bg.g) ∧ w'.cell? ⟨z, 7, none⟩ = some (.int .u8 x.bg.b) ∧ w'.cell? ⟨z, 8, none⟩ = some (.int .u16 (x.fl : Nat)) ∧ w'.cell? ⟨y, 0, none⟩ = some (.int .u8 A3.fg.k) ∧ w'.cell? ⟨y, 1, none⟩ = some (.int .u8 A3.fg.r) ∧ w'.cell? ⟨y, 2, none⟩ = some (.int .u8 A3.fg.g) ∧ w'.cell? ⟨y, 3, none⟩ = some (.int .u8 A3.fg.b) ∧ w'.cell? ⟨y, 4, none⟩ = some (.int .u8 A3.bg.k) ∧ w'.cell? ⟨y, 5, none⟩ = some (.int .u8 A3.bg.r) ∧ w'.cell? ⟨y, 6, none⟩ = some (.int .u8 A3.bg.g) ∧ w'.cell? ⟨y, 7, none⟩ = some (.int .u8 A3.bg.b) ∧ w'.cell? ⟨y, 8, none⟩ = some (.int .u16 (A3.fl : Nat))) (by kernel_rfl) ?_ (fun hHeld => ?_)
            · exact HKEEP.out _ BB
            obtain ⟨u8, hu8⟩ : ∃ u, u = w8.drew := ⟨_, rfl⟩
            rw [← hu8] at BB hHeld ⊢
            clear hu8
            have HX := Lib.hid BB
            clear BB
            refine take_at (i := 0) (v := ?_) rfl (by kernel_rfl) (by kernel_rfl) (by kernel_rfl) (fun _ _ _ h => h) (by kernel_rfl) (by assumption) ?_ ?_
            rotate_left
            · (intro w hSw; (try dsimp only at hSw); go_simp; try with_reducible rfl)
            simp only [Act.put, List.setIfInBounds_toArray, List.set_cons_zero, List.set_cons_succ]
            refine take_at (i := 1) (v := ?_) rfl (by kernel_rfl) (by kernel_rfl) (by kernel_rfl) (fun _ _ _ h => h) (by kernel_rfl) (by assumption) ?_ ?_
            rotate_left
            · (intro w hSw; (try dsimp only at hSw); go_simp; try with_reducible rfl)
            simp only [Act.put, List.setIfInBounds_toArray, List.set_cons_zero, List.set_cons_succ]
            refine take_at (i := 2) (v := ?_) rfl (by kernel_rfl) (by kernel_rfl) (by kernel_rfl) (fun _ _ _ h => h) (by kernel_rfl) (by assumption) ?_ ?_
            rotate_left
            · (intro w hSw; (try dsimp only at hSw); go_simp; try with_reducible rfl)
            simp only [Act.put, List.setIfInBounds_toArray, List.set_cons_zero, List.set_cons_succ]
            refine take_at (i := 4) (v := ?_) rfl (by kernel_rfl) (by kernel_rfl) (by kernel_rfl) (fun _ _ _ h => h) (by kernel_rfl) (by assumption) ?_ ?_
            rotate_left
            · (intro w hSw; (try dsimp only at hSw); go_simp; try with_reducible rfl)
            simp only [Act.put, List.setIfInBounds_toArray, List.set_cons_zero, List.set_cons_succ]
            refine do_at (i := 3) rfl (by kernel_rfl) (by kernel_rfl) (fun K hK => ?_)
            go_simp
            refine (CFL.out _ HX.out).mono ?_
            rintro e u9 ⟨rfl, bb⟩
            replace HX := Lib.hid (HX.out.trans (bb.mono HX.out.size))
            clear bb
            go_wp2_with fail
            refine hK.out _ _ ?_ (fun hHeld => ?_)
            · exact HKEEP.out _ HX.out
            clear hK K
            try simp only [Act.put, List.setIfInBounds_toArray, List.set_cons_zero, List.set_cons_succ]
            refine take_at (i := 5) (v := ?_) rfl (by kernel_rfl) (by kernel_rfl) (by kernel_rfl) (fun _ _ _ h => h) (by kernel_rfl) (by assumption) ?_ ?_
            rotate_left
            · (intro w hSw; (try dsimp only at hSw); go_simp; try with_reducible rfl)
            simp only [Act.put, List.setIfInBounds_toArray, List.set_cons_zero, List.set_cons_succ]
            refine wpAnyH_done (by kernel_rfl) ?_ _
            have HWN := Lib.hid (HX8.out.trans (HX.out.mono HX8.out.size))
            clear HX HKEEP hHeld hqx CFL
            go_wp2
            go_roundg (gO - 1)
            case rel => exact ⟨k + 1, by omega, by omega, by go_num, HWN⟩
            case measure => omega
          · have f1 : decide ((j : Int) < (n : Int)) = false := by simp; omega
            have f1' : ¬ (j : Int) < n := by omega
            by_cases hn0 : n = 0
            · clear hgo hjn2 hjn
              have g1 : ¬ (0 : Int) < n := by omega
              have g2 : decide ((n : Int) > 0) = false := by simp; omega
              have g3 : decide ((0 : Int) < n) = false := by simp; omega
              clear hn0
              obtain ⟨s, hs⟩ : ∃ s : Nat, s = 0 := ⟨_, rfl⟩
              have hs16 : s < 65536 := by omega
              obtain ⟨fj, hfj⟩ : ∃ fj, fj = foldF x.fl (clr cs j) := ⟨_, rfl⟩
              have hfj16 : fj < 65536 := by rw [hfj]; exact Nat.lt_of_le_of_lt (foldF_le _ _) HXO.out.2.2
              obtain ⟨f3, hf3⟩ : ∃ f3, f3 = fj ||| s := ⟨_, rfl⟩
              have hbit : bits .or .u16 (fj : Int) (s : Int) = (f3 : Int) := by rw [hf3]; exact u16_orN fj s hfj16 hs16
              have HF3 := Lib.hid (show f3 = flagsL x.fl s (clr cs j) by rw [hf3, hfj]; rfl)
              have HYJ := Lib.hid (show AtAt wj y { x with fl := fj } by rw [hfj]; exact HY.out)
              have hbit0 : bits .or .u16 (fj : Int) 0 = (f3 : Int) := by rw [hs] at hbit; simpa using hbit
              clear hfj hf3 hfj16 HY
              obtain ⟨_, ⟨_, _, _, _, _, _, _, _, y9⟩, yf⟩ := HYJ.out
              dsimp only at y9
              obtain ⟨w8, hw8⟩ : ∃ u, u = wj.setCell ⟨y, 8, none⟩ (.int .u16 (f3 : Int)) := ⟨_, rfl⟩
              obtain ⟨A3, hA3⟩ : ∃ A : At, A = { x with fl := flagsL x.fl s (clr cs j) } := ⟨_, rfl⟩
              have HY8 := Lib.hid (show AtAt w8 y A3 by rw [hw8, hA3, ← HF3.out]; exact HYJ.out.putFl f3)
              have HA8 := Lib.hid (show AtAt w8 z x by rw [hw8]; exact HA.out.same (by simp) (Below.heap_setCell _ _ _ _ (by have := HYZ.out; simp only; omega)))
              have HU8 := Lib.hid (show URow w8 (y + 1) (.slice ua nl uc) (clr cs j) by
                rw [hw8]
                refine World.ownsRow.kept HU.out (w' := wj.setCell ⟨y, 8, none⟩ (.int .u16 (f3 : Int))) (row := some y) ⟨rfl, rfl, rfl, by simp, fun b _ hne => Below.heap_setCell _ _ _ _ (fun e => hne (by rw [e]))⟩ (.inr fun e => ?_)
                have := (HU.out.lt y e).1
                omega)
              have HX8 := Lib.hid (show Below w1.heap.size w1 w8 by rw [hw8]; exact HWJ.out.setCell HYZ.out.2.1 _)
              have HUS := Lib.hid (show U16s w8 (.slice ua nl uc) (clr cs j) from HU8.out.u16s (by rw [← HNL.out]; omega) (fun x hx => HMEM.out x (List.mem_of_mem_take (List.mem_of_mem_drop hx))))
              have CFL := Lib.hid (show ∀ W, Below w8.heap.size w8 W → Calls Tryd.prog 23 #[attV x, .int .u16 0, .slice ua nl uc] W fun e w' => e = .returned (attV A3) ∧ Below W.heap.size W w' from fun W hb => by
                have := flags_any W x s (clr cs j) (.slice ua nl uc) HXO.out.2.2 hs16 (HUS.out.below hb)
                rw [hA3]
                rw [hs] at this ⊢; exact this)
              have hqx := fun w => (eqAtt w A3 A3).trans (by rw [eqA_self])
              go_upto_region 17 with (fail)
              rw [← hw8]
              clear hw8 hA3 HYJ y9 yf HU HU8 HA HWJ HUS hbit hbit0
              have HKEEP := Lib.hid (show ∀ W : World, Below w8.heap.size w8 W → W.cell? ⟨z, 0, none⟩ = some (.int .u8 x.fg.k) ∧ W.cell? ⟨z, 1, none⟩ = some (.int .u8 x.fg.r) ∧ W.cell? ⟨z, 2, none⟩ = some (.int .u8 x.fg.g) ∧ W.cell? ⟨z, 3, none⟩ = some (.int .u8 x.fg.b) ∧ W.cell? ⟨z, 4, none⟩ = some (.int .u8 x.bg.k) ∧ W.cell? ⟨z, 5, none⟩ = some (.int .u8 x.bg.r) ∧ W.cell? ⟨z, 6, none⟩ = some (.int .u8 x.bg.g) ∧ W.cell? ⟨z, 7, none⟩ = some (.int .u8 x.bg.b) ∧ W.cell? ⟨z, 8, none⟩ = some (.int .u16 (x.fl : Nat)) ∧ W.cell? ⟨y, 0, none⟩ = some (.int .u8 A3.fg.k) ∧ W.cell? ⟨y, 1, none⟩ = some (.int .u8 A3.fg.r) ∧ W.cell? ⟨y, 2, none⟩ = some (.int .u8 A3.fg.g) ∧ W.cell? ⟨y, 3, none⟩ = some (.int .u8 A3.fg.b) ∧ W.cell? ⟨y, 4, none⟩ = some (.int .u8 A3.bg.k) ∧ W.cell? ⟨y, 5, none⟩ = some (.int .u8 A3.bg.r) ∧ W.cell? ⟨y, 6, none⟩ = some (.int .u8 A3.bg.g) ∧ W.cell? ⟨y, 7, none⟩ = some (.int .u8 A3.bg.b) ∧ W.cell? ⟨y, 8, none⟩ = some (.int .u16 (A3.fl : Nat)) from fun W hb => by
                obtain ⟨a0, ⟨s0, s1, s2, s3, s4, s5, s6, s7, s8⟩, _⟩ := HA8.out
                obtain ⟨a1, ⟨s9, s10, s11, s12, s13, s14, s15, s16, s17⟩, _⟩ := HY8.out
                exact ⟨(hb.cell (p := ⟨z, 0, none⟩) a0).trans s0, (hb.cell (p := ⟨z, 1, none⟩) a0).trans s1, (hb.cell (p := ⟨z, 2, none⟩) a0).trans s2, (hb.cell (p := ⟨z, 3, none⟩) a0).trans s3, (hb.cell (p := ⟨z, 4, none⟩) a0).trans s4, (hb.cell (p := ⟨z, 5, none⟩) a0).trans s5, (hb.cell (p := ⟨z, 6, none⟩) a0).trans s6, (hb.cell (p := ⟨z, 7, none⟩) a0).trans s7, (hb.cell (p := ⟨z, 8, none⟩) a0).trans s8, (hb.cell (p := ⟨y, 0, none⟩) a1).trans s9, (hb.cell (p := ⟨y, 1, none⟩) a1).trans s10, (hb.cell (p := ⟨y, 2, none⟩) a1).trans s11, (hb.cell (p := ⟨y, 3, none⟩) a1).trans s12, (hb.cell (p := ⟨y, 4, none⟩) a1).trans s13, (hb.cell (p := ⟨y, 5, none⟩) a1).trans s14, (hb.cell (p := ⟨y, 6, none⟩) a1).trans s15, (hb.cell (p := ⟨y, 7, none⟩) a1).trans s16, (hb.cell (p := ⟨y, 8, none⟩) a1).trans s17⟩)
              have BB : Below w8.heap.size w8 w8.drew := ⟨rfl, rfl, rfl, Nat.le_refl _, fun _ _ => rfl⟩
              refine wp_region_held_drew (S := fun w' => w'.cell? ⟨z, 0, none⟩ = some (.int .u8 x.fg.k) ∧ w'.cell? ⟨z, 1, none⟩ = some (.int .u8 x.fg.r) ∧ w'.cell? ⟨z, 2, none⟩ = some (.int .u8 x.fg.g) ∧ w'.cell? ⟨z, 3, none⟩ = some (.int .u8 x.fg.b) ∧ w'.cell? ⟨z, 4, none⟩ = some (.int .u8 x.bg.k) ∧ w'.cell? ⟨z, 5, none⟩ = some (.int .u8 x.bg.r) ∧ w'.cell? ⟨z, 6, none⟩ = some (.int .u8 x.bg.g) ∧ w'.cell? ⟨z, 7, none⟩ = some (.int .u8 x.bg.b) ∧ w'.cell? ⟨z, 8, none⟩ = some (.int .u16 (x.fl : Nat)) ∧ w'.cell? ⟨y, 0, none⟩ = some (.int .u8 A3.fg.k) ∧ w'.cell? ⟨y, 1, none⟩ = some (.int .u8 A3.fg.r) ∧ w'.cell? ⟨y, 2, none⟩ = some (.int .u8 A3.fg.g) ∧ w'.cell? ⟨y, 3, none⟩ = some (.int .u8 A3.fg.b) ∧ w'.cell? ⟨y, 4, none⟩ = some (.int .u8 A3.bg.k) ∧ w'.cell? ⟨y, 5, none⟩ = some (.int .u8 A3.bg.r) ∧ w'.cell? ⟨y, 6, none⟩ = some (.int .u8 A3.bg.g) ∧ w'.cell? ⟨y, 7, none⟩ = some (.int .u8 A3.bg.b) ∧ w'.cell? ⟨y, 8, none⟩ = some (.int .u16 (A3.fl : Nat))) (by kernel_rfl) ?_ (fun hHeld => ?_)
              · exact HKEEP.out _ BB
              obtain ⟨u8, hu8⟩ : ∃ u, u = w8.drew := ⟨_, rfl⟩
              rw [← hu8] at BB hHeld ⊢
              clear hu8
              have HX := Lib.hid BB
              clear BB
              refine take_at (i := 0) (v := ?_) rfl (by kernel_rfl) (by kernel_rfl) (by kernel_rfl) (fun _ _ _ h => h) (by kernel_rfl) (by assumption) ?_ ?_
              rotate_left
              · (intro w hSw; (try dsimp only at hSw); go_simp; try with_reducible rfl)
              simp only [Act.put, List.setIfInBounds_toArray, List.set_cons_zero, List.set_cons_succ]
              refine take_at (i := 1) (v := ?_) rfl (by kernel_rfl) (by kernel_rfl) (by kernel_rfl) (fun _ _ _ h => h) (by kernel_rfl) (by assumption) ?_ ?_
              rotate_left
              · (intro w hSw; (try dsimp only at hSw); go_simp; try with_reducible rfl)
              simp only [Act.put, List.setIfInBounds_toArray, List.set_cons_zero, List.set_cons_succ]
              refine take_at (i := 2) (v := ?_) rfl (by kernel_rfl) (by kernel_rfl) (by kernel_rfl) (fun _ _ _ h => h) (by kernel_rfl) (by assumption) ?_ ?_
              rotate_left
              · (intro w hSw; (try dsimp only at hSw); go_simp; try with_reducible rfl)
              simp only [Act.put, List.setIfInBounds_toArray, List.set_cons_zero, List.set_cons_succ]
              refine take_at (i := 4) (v := ?_) rfl (by kernel_rfl) (by kernel_rfl) (by kernel_rfl) (fun _ _ _ h => h) (by kernel_rfl) (by assumption) ?_ ?_
              rotate_left
              · (intro w hSw; (try dsimp only at hSw); go_simp; try with_reducible rfl)
              simp only [Act.put, List.setIfInBounds_toArray, List.set_cons_zero, List.set_cons_succ]
              refine do_at (i := 3) rfl (by kernel_rfl) (by kernel_rfl) (fun K hK => ?_)
              go_simp
              refine (CFL.out _ HX.out).mono ?_
              rintro e u9 ⟨rfl, bb⟩
              replace HX := Lib.hid (HX.out.trans (bb.mono HX.out.size))
              clear bb
              go_wp2_with fail
              refine hK.out _ _ ?_ (fun hHeld => ?_)
              · exact HKEEP.out _ HX.out
              clear hK K
              try simp only [Act.put, List.setIfInBounds_toArray, List.set_cons_zero, List.set_cons_succ]
              refine take_at (i := 5) (v := ?_) rfl (by kernel_rfl) (by kernel_rfl) (by kernel_rfl) (fun _ _ _ h => h) (by kernel_rfl) (by assumption) ?_ ?_
              rotate_left
              · (intro w hSw; (try dsimp only at hSw); go_simp; try with_reducible rfl)
              simp only [Act.put, List.setIfInBounds_toArray, List.set_cons_zero, List.set_cons_succ]
              refine wpAnyH_done (by kernel_rfl) ?_ _
              have HWN := Lib.hid (HX8.out.trans (HX.out.mono HX8.out.size))
              clear HX HKEEP hHeld hqx CFL
              go_wp2
              go_roundg (gO - 1)
              case rel => exact ⟨k + 1, by omega, by omega, by go_num, HWN⟩
              case measure => omega
            · clear hgo hjn2 hjn
              have g1 : (0 : Int) < n := by omega
              have g2 : decide ((n : Int) > 0) = true := by simp; omega
              have g3 : decide ((0 : Int) < n) = true := by simp; omega
              obtain ⟨_, _, e1, _, hcb, hcell⟩ := HV1.out
              obtain ⟨g, o, e2, hg, hc⟩ := hcell (by rw [← HN.out]; omega)
              injection e1 with e1 e3 e4
              subst e1 e2
              obtain ⟨s, hs⟩ : ∃ s, s = cs.getD 0 0 := ⟨_, rfl⟩
              have hs16 : s < 65536 := hcb s (by rw [hs]; exact getD_mem 0 (by rw [← HN.out]; omega))
              have x1 := (HWJ.out.cell (p := ⟨g, o + 0, none⟩) hg).trans (hc 0 (by rw [← HN.out]; omega))
              rw [← hs] at x1
              simp only [Nat.add_zero] at x1
              clear hcb hcell hc e3 e4 hs hg
              obtain ⟨fj, hfj⟩ : ∃ fj, fj = foldF x.fl (clr cs j) := ⟨_, rfl⟩
              have hfj16 : fj < 65536 := by rw [hfj]; exact Nat.lt_of_le_of_lt (foldF_le _ _) HXO.out.2.2
              obtain ⟨f3, hf3⟩ : ∃ f3, f3 = fj ||| s := ⟨_, rfl⟩
              have hbit : bits .or .u16 (fj : Int) (s : Int) = (f3 : Int) := by rw [hf3]; exact u16_orN fj s hfj16 hs16
              have HF3 := Lib.hid (show f3 = flagsL x.fl s (clr cs j) by rw [hf3, hfj]; rfl)
              have HYJ := Lib.hid (show AtAt wj y { x with fl := fj } by rw [hfj]; exact HY.out)
              clear hfj hf3 hfj16 HY
              obtain ⟨_, ⟨_, _, _, _, _, _, _, _, y9⟩, yf⟩ := HYJ.out
              dsimp only at y9
              obtain ⟨w8, hw8⟩ : ∃ u, u = wj.setCell ⟨y, 8, none⟩ (.int .u16 (f3 : Int)) := ⟨_, rfl⟩
              obtain ⟨A3, hA3⟩ : ∃ A : At, A = { x with fl := flagsL x.fl s (clr cs j) } := ⟨_, rfl⟩
              have HY8 := Lib.hid (show AtAt w8 y A3 by rw [hw8, hA3, ← HF3.out]; exact HYJ.out.putFl f3)
              have HA8 := Lib.hid (show AtAt w8 z x by rw [hw8]; exact HA.out.same (by simp) (Below.heap_setCell _ _ _ _ (by have := HYZ.out; simp only; omega)))
              have HU8 := Lib.hid (show URow w8 (y + 1) (.slice ua nl uc) (clr cs j) by
                rw [hw8]
                refine World.ownsRow.kept HU.out (w' := wj.setCell ⟨y, 8, none⟩ (.int .u16 (f3 : Int))) (row := some y) ⟨rfl, rfl, rfl, by simp, fun b _ hne => Below.heap_setCell _ _ _ _ (fun e => hne (by rw [e]))⟩ (.inr fun e => ?_)
                have := (HU.out.lt y e).1
                omega)
              have HX8 := Lib.hid (show Below w1.heap.size w1 w8 by rw [hw8]; exact HWJ.out.setCell HYZ.out.2.1 _)
              have HUS := Lib.hid (show U16s w8 (.slice ua nl uc) (clr cs j) from HU8.out.u16s (by rw [← HNL.out]; omega) (fun x hx => HMEM.out x (List.mem_of_mem_take (List.mem_of_mem_drop hx))))
              have CFL := Lib.hid (show ∀ W, Below w8.heap.size w8 W → Calls Tryd.prog 23 #[attV x, .int .u16 (s : Nat), .slice ua nl uc] W fun e w' => e = .returned (attV A3) ∧ Below W.heap.size W w' from fun W hb => by
                have := flags_any W x s (clr cs j) (.slice ua nl uc) HXO.out.2.2 hs16 (HUS.out.below hb)
                rw [hA3]
                exact this)
              have hqx := fun w => (eqAtt w A3 A3).trans (by rw [eqA_self])
              go_upto_region 17 with (fail)
              rw [← hw8]
              clear hw8 hA3 HYJ y9 yf HU HU8 HA HWJ HUS hbit x1
              have HKEEP := Lib.hid (show ∀ W : World, Below w8.heap.size w8 W → W.cell? ⟨z, 0, none⟩ = some (.int .u8 x.fg.k) ∧ W.cell? ⟨z, 1, none⟩ = some (.int .u8 x.fg.r) ∧ W.cell? ⟨z, 2, none⟩ = some (.int .u8 x.fg.g) ∧ W.cell? ⟨z, 3, none⟩ = some (.int .u8 x.fg.b) ∧ W.cell? ⟨z, 4, none⟩ = some (.int .u8 x.bg.k) ∧ W.cell? ⟨z, 5, none⟩ = some (.int .u8 x.bg.r) ∧ W.cell? ⟨z, 6, none⟩ = some (.int .u8 x.bg.g) ∧ W.cell? ⟨z, 7, none⟩ = some (.int .u8 x.bg.b) ∧ W.cell? ⟨z, 8, none⟩ = some (.int .u16 (x.fl : Nat)) ∧ W.cell? ⟨y, 0, none⟩ = some (.int .u8 A3.fg.k) ∧ W.cell? ⟨y, 1, none⟩ = some (.int .u8 A3.fg.r) ∧ W.cell? ⟨y, 2, none⟩ = some (.int .u8 A3.fg.g) ∧ W.cell? ⟨y, 3, none⟩ = some (.int .u8 A3.fg.b) ∧ W.cell? ⟨y, 4, none⟩ = some (.int .u8 A3.bg.k) ∧ W.cell? ⟨y, 5, none⟩ = some (.int .u8 A3.bg.r) ∧ W.cell? ⟨y, 6, none⟩ = some (.int .u8 A3.bg.g) ∧ W.cell? ⟨y, 7, none⟩ = some (.int .u8 A3.bg.b) ∧ W.cell? ⟨y, 8, none⟩ = some (.int .u16 (A3.fl : Nat)) from fun W hb => by
                obtain ⟨a0, ⟨s0, s1, s2, s3, s4, s5, s6, s7, s8⟩, _⟩ := HA8.out
                obtain ⟨a1, ⟨s9, s10, s11, s12, s13, s14, s15, s16, s17⟩, _⟩ := HY8.out
                exact ⟨(hb.cell (p := ⟨z, 0, none⟩) a0).trans s0, (hb.cell (p := ⟨z, 1, none⟩) a0).trans s1, (hb.cell (p := ⟨z, 2, none⟩) a0).trans s2, (hb.cell (p := ⟨z, 3, none⟩) a0).trans s3, (hb.cell (p := ⟨z, 4, none⟩) a0).trans s4, (hb.cell (p := ⟨z, 5, none⟩) a0).trans s5, (hb.cell (p := ⟨z, 6, none⟩) a0).trans s6, (hb.cell (p := ⟨z, 7, none⟩) a0).trans s7, (hb.cell (p := ⟨z, 8, none⟩) a0).trans s8, (hb.cell (p := ⟨y, 0, none⟩) a1).trans s9, (hb.cell (p := ⟨y, 1, none⟩) a1).trans s10, (hb.cell (p := ⟨y, 2, none⟩) a1).trans s11, (hb.cell (p := ⟨y, 3, none⟩) a1).trans s12, (hb.cell (p := ⟨y, 4, none⟩) a1).trans s13, (hb.cell (p := ⟨y, 5, none⟩) a1).trans s14, (hb.cell (p := ⟨y, 6, none⟩) a1).trans s15, (hb.cell (p := ⟨y, 7, none⟩) a1).trans s16, (hb.cell (p := ⟨y, 8, none⟩) a1).trans s17⟩)
              have BB : Below w8.heap.size w8 w8.drew := ⟨rfl, rfl, rfl, Nat.le_refl _, fun _ _ => rfl⟩
              refine wp_region_held_drew (S := fun w' => w'.cell? ⟨z, 0, none⟩ = some (.int .u8 x.fg.k) ∧ w'.cell? ⟨z, 1, none⟩ = some (.int .u8 x.fg.r) ∧ w'.cell? ⟨z, 2, none⟩ = some (.int .u8 x.fg.g) ∧ w'.cell? ⟨z, 3, none⟩ = some (.int .u8 x.fg.b) ∧ w'.cell? ⟨z, 4, none⟩ = some (.int .u8 x.bg.k) ∧ w'.cell? ⟨z, 5, none⟩ = some (.int .u8 x.bg.r) ∧ w'.cell? ⟨z, 6, none⟩ = some (.int .u8 x.bg.g) ∧ w'.cell? ⟨z, 7, none⟩ = some (.int .u8 x.bg.b) ∧ w'.cell? ⟨z, 8, none⟩ = some (.int .u16 (x.fl : Nat)) ∧ w'.cell? ⟨y, 0, none⟩ = some (.int .u8 A3.fg.k) ∧ w'.cell? ⟨y, 1, none⟩ = some (.int .u8 A3.fg.r) ∧ w'.cell? ⟨y, 2, none⟩ = some (.int .u8 A3.fg.g) ∧ w'.cell? ⟨y, 3, none⟩ = some (.int .u8 A3.fg.b) ∧ w'.cell? ⟨y, 4, none⟩ = some (.int .u8 A3.bg.k) ∧ w'.cell? ⟨y, 5, none⟩ = some (.int .u8 A3.bg.r) ∧ w'.cell? ⟨y, 6, none⟩ = some (.int .u8 A3.bg.g) ∧ w'.cell? ⟨y, 7, none⟩ = some (.int .u8 A3.bg.b) ∧ w'.cell? ⟨y, 8, none⟩ = some (.int .u16 (A3.fl : Nat))) (by kernel_rfl) ?_ (fun hHeld => ?_)
              · exact HKEEP.out _ BB
              obtain ⟨u8, hu8⟩ : ∃ u, u = w8.drew := ⟨_, rfl⟩
              rw [← hu8] at BB hHeld ⊢
              clear hu8
              have HX := Lib.hid BB
              clear BB
              refine take_at (i := 0) (v := ?_) rfl (by kernel_rfl) (by kernel_rfl) (by kernel_rfl) (fun _ _ _ h => h) (by kernel_rfl) (by assumption) ?_ ?_
              rotate_left
              · (intro w hSw; (try dsimp only at hSw); go_simp; try with_reducible rfl)
              simp only [Act.put, List.setIfInBounds_toArray, List.set_cons_zero, List.set_cons_succ]
              refine take_at (i := 1) (v := ?_) rfl (by kernel_rfl) (by kernel_rfl) (by kernel_rfl) (fun _ _ _ h => h) (by kernel_rfl) (by assumption) ?_ ?_
              rotate_left
              · (intro w hSw; (try dsimp only at hSw); go_simp; try with_reducible rfl)
              simp only [Act.put, List.setIfInBounds_toArray, List.set_cons_zero, List.set_cons_succ]
              refine take_at (i := 2) (v := ?_) rfl (by kernel_rfl) (by kernel_rfl) (by kernel_rfl) (fun _ _ _ h => h) (by kernel_rfl) (by assumption) ?_ ?_
              rotate_left
              · (intro w hSw; (try dsimp only at hSw); go_simp; try with_reducible rfl)
              simp only [Act.put, List.setIfInBounds_toArray, List.set_cons_zero, List.set_cons_succ]
              refine take_at (i := 4) (v := ?_) rfl (by kernel_rfl) (by kernel_rfl) (by kernel_rfl) (fun _ _ _ h => h) (by kernel_rfl) (by assumption) ?_ ?_
              rotate_left
              · (intro w hSw; (try dsimp only at hSw); go_simp; try with_reducible rfl)
              simp only [Act.put, List.setIfInBounds_toArray, List.set_cons_zero, List.set_cons_succ]
              refine do_at (i := 3) rfl (by kernel_rfl) (by kernel_rfl) (fun K hK => ?_)
              go_simp
              refine (CFL.out _ HX.out).mono ?_
              rintro e u9 ⟨rfl, bb⟩
              replace HX := Lib.hid (HX.out.trans (bb.mono HX.out.size))
              clear bb
              go_wp2_with fail
              refine hK.out _ _ ?_ (fun hHeld => ?_)
              · exact HKEEP.out _ HX.out
              clear hK K
              try simp only [Act.put, List.setIfInBounds_toArray, List.set_cons_zero, List.set_cons_succ]
              refine take_at (i := 5) (v := ?_) rfl (by kernel_rfl) (by kernel_rfl) (by kernel_rfl) (fun _ _ _ h => h) (by kernel_rfl) (by assumption) ?_ ?_
              rotate_left
              · (intro w hSw; (try dsimp only at hSw); go_simp; try with_reducible rfl)
              simp only [Act.put, List.setIfInBounds_toArray, List.set_cons_zero, List.set_cons_succ]
              refine wpAnyH_done (by kernel_rfl) ?_ _
              have HWN := Lib.hid (HX8.out.trans (HX.out.mono HX8.out.size))
              clear HX HKEEP hHeld hqx CFL
              go_wp2
              go_roundg (gO - 1)
              case rel => exact ⟨k + 1, by omega, by omega, by go_num, HWN⟩
              case measure => omega
    · have hltd : decide ((k : Int) < 2) = false := by simp; omega
      have HBE := Lib.hid (HB1.out.trans (HW.out.mono HB1.out.size))
      go_wp2_with fail
      refine (works_any _ (HP1.out.on HW.out)).mono ?_
      rintro e u9 ⟨rfl, bb⟩
      have HBF := Lib.hid (HBE.out.trans (bb.mono HBE.out.size))
      clear bb
      go_wp2
      go_ret
      exact ⟨rfl, HBF.out⟩
end Go.Proofs.YtlmhnebgkginkaaDoor.Lab
