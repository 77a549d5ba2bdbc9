/- The Go law AttrParts: what is said by a row of parameters, and then by another one. -/
import Derived.Test.YtlmhnebgkginkaaDoorAtRows
import Derived.Test.YtlmhnebgkginkaaDoorAtWorks
import Derived.Test.YtlmhnebgkginkaaDoorAtDraft
import Derived.Deep.CutBlock
import Derived.Deep.DeepCutAuto
namespace Go.Proofs.YtlmhnebgkginkaaDoor.Lab
open Go Go.RowKit

theorem RowsI.app {p q : Rws} (h : RowsI p) (k : RowsI q) : RowsI (p ++ q) := fun r hr => by
  rcases List.mem_append.1 hr with h' | h'
  · exact h r h'
  · exact k r h'
theorem RowsI.zz (k : Nat) : RowsI (Lab.zz k) := fun r hr x hx => by
  obtain rfl := List.eq_of_mem_replicate hr
  have : x = 0 := by simpa using hx
  omega
theorem RowsI.lit (x : Int) (h : -9223372036854775808 ≤ x ∧ x ≤ 9223372036854775807) : RowsI [[x]] := fun r hr y hy => by
  obtain rfl : r = [x] := by simpa using hr
  obtain rfl : y = x := by simpa using hy
  exact h
theorem rows_ne {r : Rws} (h : 0 < r.length) : r ≠ [] := by rintro rfl; simp at h
set_option maxHeartbeats 8000000 in
set_option maxRecDepth 100000 in
theorem parts_law (w : World) (d : Dr) (hd : d.ok) (v1 v2 : Value) (l1 l2 : List Int) (hs1 : S16 w v1 l1) (hs2 : S16 w v2 l2) (hP : Pow w) : Calls Tryd.prog 6 #[drV d, v1, v2] w fun e w' => e = .returned (.bool true) ∧ Below w.heap.size w w' := by
  obtain ⟨w1, hw1⟩ : ∃ w1, w1 = w.alloc (.cells #[.int .u16 (d.fl : Nat), .int .u8 (d.k : Nat), .int .u8 (d.f0 : Nat), .int .u8 (d.f1 : Nat), .int .u8 (d.f2 : Nat), .int .u8 (d.b0 : Nat), .int .u8 (d.b1 : Nat), .int .u8 (d.b2 : Nat)] 39) := ⟨_, rfl⟩
  have b1 : Below w.heap.size w w1 := by rw [hw1]; exact (Below.refl _ _).alloc (Nat.le_refl _) _
  have hsz : w.heap.size < w1.heap.size := by rw [hw1]; simp
  have HS := Lib.hid (show w1.cell? ⟨w.heap.size, 0, none⟩ = some (.int .u16 (d.fl : Nat)) ∧ w1.cell? ⟨w.heap.size, 1, none⟩ = some (.int .u8 (d.k : Nat)) ∧ w1.cell? ⟨w.heap.size, 2, none⟩ = some (.int .u8 (d.f0 : Nat)) ∧ w1.cell? ⟨w.heap.size, 3, none⟩ = some (.int .u8 (d.f1 : Nat)) ∧ w1.cell? ⟨w.heap.size, 4, none⟩ = some (.int .u8 (d.f2 : Nat)) ∧ w1.cell? ⟨w.heap.size, 5, none⟩ = some (.int .u8 (d.b0 : Nat)) ∧ w1.cell? ⟨w.heap.size, 6, none⟩ = some (.int .u8 (d.b1 : Nat)) ∧ w1.cell? ⟨w.heap.size, 7, none⟩ = some (.int .u8 (d.b2 : Nat)) by
    rw [hw1]
    exact ⟨by simp, by simp, by simp, by simp, by simp, by simp, by simp, by simp⟩)
  have HKD := Lib.hid (show ∀ W : World, Below w1.heap.size w1 W → W.cell? ⟨w.heap.size, 0, none⟩ = some (.int .u16 (d.fl : Nat)) ∧ W.cell? ⟨w.heap.size, 1, none⟩ = some (.int .u8 (d.k : Nat)) ∧ W.cell? ⟨w.heap.size, 2, none⟩ = some (.int .u8 (d.f0 : Nat)) ∧ W.cell? ⟨w.heap.size, 3, none⟩ = some (.int .u8 (d.f1 : Nat)) ∧ W.cell? ⟨w.heap.size, 4, none⟩ = some (.int .u8 (d.f2 : Nat)) ∧ W.cell? ⟨w.heap.size, 5, none⟩ = some (.int .u8 (d.b0 : Nat)) ∧ W.cell? ⟨w.heap.size, 6, none⟩ = some (.int .u8 (d.b1 : Nat)) ∧ W.cell? ⟨w.heap.size, 7, none⟩ = some (.int .u8 (d.b2 : Nat)) from fun W hb => by
    obtain ⟨s0, s1, s2, s3, s4, s5, s6, s7⟩ := HS.out
    exact ⟨(hb.cell (p := ⟨w.heap.size, 0, none⟩) hsz).trans s0, (hb.cell (p := ⟨w.heap.size, 1, none⟩) hsz).trans s1, (hb.cell (p := ⟨w.heap.size, 2, none⟩) hsz).trans s2, (hb.cell (p := ⟨w.heap.size, 3, none⟩) hsz).trans s3, (hb.cell (p := ⟨w.heap.size, 4, none⟩) hsz).trans s4, (hb.cell (p := ⟨w.heap.size, 5, none⟩) hsz).trans s5, (hb.cell (p := ⟨w.heap.size, 6, none⟩) hsz).trans s6, (hb.cell (p := ⟨w.heap.size, 7, none⟩) hsz).trans s7⟩)
  have HB1 := Lib.hid b1
  have HP1 := Lib.hid (hP.on b1)
  have HS1 := Lib.hid (hs1.below b1)
  have HS2 := Lib.hid (hs2.below b1)
  obtain ⟨a, ha⟩ : ∃ a, a = dAt d := ⟨_, rfl⟩
  have HOA := Lib.hid (show a.ok by rw [ha]; exact dAt_ok hd)
  have C1 := Lib.hid (show ∀ W, Calls Tryd.prog 18 #[drV d] W fun e w' => e = .returned (attV a) ∧ Below W.heap.size W w' from fun W => by rw [ha]; exact draft_any W d hd)
  clear ha b1 hsz hd hP HS hs1 hs2
  go_enter Tryd.func6, Tryd.ntmps6
  go_wp2_with fail
  rw [← hw1]
  clear hw1
  refine (works_any w1 HP1.out).mono ?_
  rintro e w2 ⟨rfl, b2⟩
  have HW2 := Lib.hid b2
  clear b2 HP1
  obtain ⟨s0, s1, s2, s3, s4, s5, s6, s7⟩ := HKD.out _ HW2.out
  go_wp2_with fail
  refine (C1.out _).mono ?_
  rintro e w3 ⟨rfl, b3⟩
  have HW3 := Lib.hid (HW2.out.trans (b3.mono HW2.out.size))
  clear b3 HW2 s0 s1 s2 s3 s4 s5 s6 s7 HKD C1
  obtain ⟨w4, hw4⟩ : ∃ w4, w4 = w3.alloc (.cells #[.int .u8 a.fg.k, .int .u8 a.fg.r, .int .u8 a.fg.g, .int .u8 a.fg.b, .int .u8 a.bg.k, .int .u8 a.bg.r, .int .u8 a.bg.g, .int .u8 a.bg.b, .int .u16 (a.fl : Nat)] 26) := ⟨_, rfl⟩
  obtain ⟨z, hz⟩ : ∃ z, z = w3.heap.size := ⟨_, rfl⟩
  have HA4 := Lib.hid (show AtAt w4 z a by rw [hw4, hz]; exact AtAt.newAt w3 _ rfl a _)
  have HW4 := Lib.hid (show Below w1.heap.size w1 w4 by rw [hw4]; exact HW3.out.trans (((Below.refl _ _).alloc (Nat.le_refl _) _).mono HW3.out.size))
  go_upto_region 4 with (fail)
  rw [← hw4, ← hz]
  clear hw4 hz HW3
  go_wp2_with fail
  refine (row_any _ _ l1 (HS1.out.below HW4.out)).mono ?_
  rintro e w5 ⟨pv, Pp, rfl, R5, ok5, b5⟩
  have HW5 := Lib.hid (HW4.out.trans (b5.mono HW4.out.size))
  have HA5 := Lib.hid (HA4.out.below b5)
  have HR5 := Lib.hid (R5.lower (lo' := w1.heap.size) HW4.out.size)
  have HOP := Lib.hid ok5
  clear R5 ok5 b5 HW4 HA4 HS1
  go_wp2_with fail
  refine (row_any _ _ l2 (HS2.out.below HW5.out)).mono ?_
  rintro e w6 ⟨qv, Qq, rfl, R6, ok6, b6⟩
  have HW6 := Lib.hid (HW5.out.trans (b6.mono HW5.out.size))
  have HA6 := Lib.hid (HA5.out.below b6)
  have HRP := Lib.hid (HR5.out.below b6)
  have HRQ := Lib.hid (R6.lower (lo' := w1.heap.size) HW5.out.size)
  have HOQ := Lib.hid ok6
  clear R6 ok6 b6 HW5 HA5 HS2 HR5
  obtain ⟨lo, hlo⟩ : ∃ lo, lo = w1.heap.size := ⟨_, rfl⟩
  have HLO := Lib.hid (show lo ≤ w6.heap.size by rw [hlo]; exact HW6.out.size)
  rw [← hlo] at HRP HRQ
  clear hlo
  obtain ⟨pa, pc, rfl⟩ : ∃ a c, pv = .slice a Pp.length c := by
    rcases HRP.out.open with ⟨e, e'⟩ | ⟨g, c, e, _⟩
    · exact ⟨none, 0, by rw [e, e']; rfl⟩
    · exact ⟨_, c, e⟩
  obtain ⟨qa, qc, rfl⟩ : ∃ a c, qv = .slice a Qq.length c := by
    rcases HRQ.out.open with ⟨e, e'⟩ | ⟨g, c, e, _⟩
    · exact ⟨none, 0, by rw [e, e']; rfl⟩
    · exact ⟨_, c, e⟩
  obtain ⟨np, hnp⟩ : ∃ n, n = Pp.length := ⟨_, rfl⟩
  obtain ⟨nq, hnq⟩ : ∃ n, n = Qq.length := ⟨_, rfl⟩
  rw [← hnp] at HRP ⊢
  rw [← hnq] at HRQ ⊢
  have HNP := Lib.hid hnp
  have HNQ := Lib.hid hnq
  clear hnp hnq
  have HBF := Lib.hid (HB1.out.trans (HW6.out.mono HB1.out.size))
  clear HB1 HW6
  have hq0 : ∀ w, (Op.equalIn 10000 26 (.agg #[.int .u8 0, .int .u8 0, .int .u8 0, .int .u8 0, .int .u8 0, .int .u8 0, .int .u8 0, .int .u8 0, .int .u16 0]) (.agg #[.int .u8 0, .int .u8 0, .int .u8 0, .int .u8 0, .int .u8 0, .int .u8 0, .int .u8 0, .int .u8 0, .int .u16 0])).run Tryd.prog w = .ok true w := fun w => (eqAtt w At.zero At.zero).trans (by rw [eqA_self])
  obtain ⟨_, ⟨y1, y2, y3, y4, y5, y6, y7, y8, y9⟩, yf⟩ := HA6.out
  by_cases hp0 : np = 0
  · have f1 : ((np : Int) == 0) = true := by simp; omega
    clear hp0 HRP HRQ HNP HNQ
    go_wp2_with fail
    refine (sgr_any _ (fun _ => True) _ [] a HOA.out (fun r hr => by simp at hr) (MatAt.nil _ _ _ _)).mono ?_
    rintro e w7 ⟨rfl, b7⟩
    rw [show sgrM a [] = At.zero from rfl]
    have HBE := Lib.hid (HBF.out.trans (b7.mono HBF.out.size))
    clear b7
    go_wp2
    go_ret
    exact ⟨rfl, HBE.out⟩
  by_cases hq00 : nq = 0
  · have f1 : ((np : Int) == 0) = false := by simp; omega
    have f2 : ((nq : Int) == 0) = true := by simp; omega
    clear hp0 hq00 HRP HRQ HNP HNQ
    go_wp2_with fail
    refine (sgr_any _ (fun _ => True) _ [] a HOA.out (fun r hr => by simp at hr) (MatAt.nil _ _ _ _)).mono ?_
    rintro e w7 ⟨rfl, b7⟩
    rw [show sgrM a [] = At.zero from rfl]
    have HBE := Lib.hid (HBF.out.trans (b7.mono HBF.out.size))
    clear b7
    go_wp2
    go_ret
    exact ⟨rfl, HBE.out⟩
  have f1 : ((np : Int) == 0) = false := by simp; omega
  have f2 : ((nq : Int) == 0) = false := by simp; omega
  have hp1 : 0 < Pp.length := by rw [← HNP.out]; omega
  have hq1 : 0 < Qq.length := by rw [← HNQ.out]; omega
  have np40 : np ≤ 40 := by rw [HNP.out]; exact HOP.out.1
  have nq40 : nq ≤ 40 := by rw [HNQ.out]; exact HOQ.out.1
  obtain ⟨gp, rfl⟩ : ∃ g, pa = some ⟨g, 0, none⟩ := by
    rcases HRP.out.open with ⟨e, e'⟩ | ⟨g, c, e, _⟩
    · rw [e'] at hp1; simp at hp1
    · injection e with e; exact ⟨g, e⟩
  obtain ⟨gq, rfl⟩ : ∃ g, qa = some ⟨g, 0, none⟩ := by
    rcases HRQ.out.open with ⟨e, e'⟩ | ⟨g, c, e, _⟩
    · rw [e'] at hq1; simp at hq1
    · injection e with e; exact ⟨g, e⟩
  have SP := Lib.hid (SRow.of HRP.out HNP.out)
  have SQ := Lib.hid (SRow.of HRQ.out HNQ.out)
  have MQ := Lib.hid HRQ.out.mat
  have HPE := Lib.hid (rows_ne hp1)
  have HQE := Lib.hid (rows_ne hq1)
  clear HRP HRQ hp0 hq00 hp1 hq1
  have HKEEP := Lib.hid (show ∀ W : World, Below w6.heap.size w6 W → W.cell? ⟨z, 0, none⟩ = some (.int .u8 a.fg.k) ∧ W.cell? ⟨z, 1, none⟩ = some (.int .u8 a.fg.r) ∧ W.cell? ⟨z, 2, none⟩ = some (.int .u8 a.fg.g) ∧ W.cell? ⟨z, 3, none⟩ = some (.int .u8 a.fg.b) ∧ W.cell? ⟨z, 4, none⟩ = some (.int .u8 a.bg.k) ∧ W.cell? ⟨z, 5, none⟩ = some (.int .u8 a.bg.r) ∧ W.cell? ⟨z, 6, none⟩ = some (.int .u8 a.bg.g) ∧ W.cell? ⟨z, 7, none⟩ = some (.int .u8 a.bg.b) ∧ W.cell? ⟨z, 8, none⟩ = some (.int .u16 (a.fl : Nat)) from fun W hb => by
    obtain ⟨a0, ⟨s0, s1, s2, s3, s4, s5, s6, s7, s8⟩, _⟩ := HA6.out
    exact ⟨(hb.cell (p := ⟨z, 0, none⟩) a0).trans s0, (hb.cell (p := ⟨z, 1, none⟩) a0).trans s1, (hb.cell (p := ⟨z, 2, none⟩) a0).trans s2, (hb.cell (p := ⟨z, 3, none⟩) a0).trans s3, (hb.cell (p := ⟨z, 4, none⟩) a0).trans s4, (hb.cell (p := ⟨z, 5, none⟩) a0).trans s5, (hb.cell (p := ⟨z, 6, none⟩) a0).trans s6, (hb.cell (p := ⟨z, 7, none⟩) a0).trans s7, (hb.cell (p := ⟨z, 8, none⟩) a0).trans s8⟩)
  -- what Sgr makes
  obtain ⟨Wh, hWh⟩ : ∃ Wh, Wh = Pp ++ zz 4 := ⟨_, rfl⟩
  have HWh := Lib.hid hWh
  obtain ⟨y, hy⟩ : ∃ y, y = sgrM a Wh := ⟨_, rfl⟩
  obtain ⟨x, hx⟩ : ∃ x, x = sgrM y Qq := ⟨_, rfl⟩
  obtain ⟨x0, hx0⟩ : ∃ x0, x0 = sgrM At.zero Qq := ⟨_, rfl⟩
  have IW := Lib.hid (show RowsI Wh by rw [hWh]; exact HOP.out.i64.app (RowsI.zz 4))
  have CB := Lib.hid (show ∀ (W : World) (v : Value), MatAt W (fun _ => True) v (Wh ++ Qq) → Calls Tryd.prog 12 #[attV a, v] W fun e w' => e = .returned (attV x) ∧ Below W.heap.size W w' from fun W v h => by
    have := sgr_any W _ v _ a HOA.out (IW.out.app HOQ.out.i64) h
    rw [hWh, parts_both a Pp Qq HPE.out HQE.out, ← hWh, ← hy, ← hx] at this
    exact this)
  have CW := Lib.hid (show ∀ (W : World) (v : Value), MatAt W (fun _ => True) v Wh → Calls Tryd.prog 12 #[attV a, v] W fun e w' => e = .returned (attV y) ∧ Below W.heap.size W w' from fun W v h => by
    have := sgr_any W _ v _ a HOA.out IW.out h
    rw [← hy] at this
    exact this)
  have CQ := Lib.hid (show ∀ (W : World) (v : Value), MatAt W (fun _ => True) v Qq → Calls Tryd.prog 12 #[attV y, v] W fun e w' => e = .returned (attV x) ∧ Below W.heap.size W w' from fun W v h => by
    have := sgr_any W _ v _ y (by rw [hy]; exact sgrM_ok HOA.out _) HOQ.out.i64 h
    rw [← hx] at this
    exact this)
  have CC := Lib.hid (show ∀ (W : World) (v : Value), MatAt W (fun _ => True) v (Wh ++ [[0]] ++ Qq) → Calls Tryd.prog 12 #[attV a, v] W fun e w' => e = .returned (attV x0) ∧ Below W.heap.size W w' from fun W v h => by
    have := sgr_any W _ v _ a HOA.out ((IW.out.app (RowsI.lit 0 (by decide))).app HOQ.out.i64) h
    rw [hWh, parts_clear a Pp Qq HPE.out HQE.out, ← hx0] at this
    exact this)
  have CZ := Lib.hid (show ∀ (W : World) (v : Value), MatAt W (fun _ => True) v Qq → Calls Tryd.prog 12 #[.agg #[.int .u8 0, .int .u8 0, .int .u8 0, .int .u8 0, .int .u8 0, .int .u8 0, .int .u8 0, .int .u8 0, .int .u16 0], v] W fun e w' => e = .returned (attV x0) ∧ Below W.heap.size W w' from fun W v h => by
    have := sgr_any W _ v _ At.zero At.zero_ok HOQ.out.i64 h
    rw [← hx0] at this
    exact this)
  have CN := Lib.hid (show ∀ (W : World) (v : Value), MatAt W (fun _ => True) v (Wh ++ [[-1]]) → Calls Tryd.prog 12 #[attV a, v] W fun e w' => e = .returned (.agg #[.int .u8 0, .int .u8 0, .int .u8 0, .int .u8 0, .int .u8 0, .int .u8 0, .int .u8 0, .int .u8 0, .int .u16 0]) ∧ Below W.heap.size W w' from fun W v h => by
    have := sgr_any W _ v _ a HOA.out (IW.out.app (RowsI.lit (-1) (by decide))) h
    rw [hWh, parts_none a Pp HPE.out] at this
    exact this)
  clear hWh hy hx hx0 HPE HQE HOP HOQ IW HOA y1 y2 y3 y4 y5 y6 y7 y8 y9 yf HA6
  obtain ⟨B6, hB6⟩ : ∃ B, B = w6.heap.size := ⟨_, rfl⟩
  have b0 : Below w6.heap.size w6 (w6.alloc (.cells #[] 50)) := (Below.refl _ _).alloc (Nat.le_refl _) _
  have S0 := Lib.hid (SP.out.below b0)
  have N0 := Lib.hid (WRow.none w6 lo w6.heap.size (Nat.le_refl _))
  have HB0 := Lib.hid b0
  clear b0 SP
  go_wp2_with (at_builtin; refine wpList_rows rfl (.tmp 34) (.tmp 35) rfl rfl N0.out rfl S0.out ?c1 ?c2 ?_)
  case c1 => rw [List.length_nil, ← HNP.out]; omega
  case c2 => exact HB0.out.size
  intro v7 w7 hW7 hB7
  replace hW7 : WRow w7 lo w6.heap.size v7 Pp := by simpa using hW7
  have HB7 := Lib.hid (HB0.out.trans hB7)
  obtain ⟨g7, c7, rfl, _⟩ := hW7.shape (by rw [← HNP.out]; simp at f1; omega)
  rw [← HNP.out] at hW7 ⊢
  have HW7 := Lib.hid hW7
  clear hW7 hB7 N0 S0 HB0 f1 f2
  go_wp2
  go_loopg [10, 11] 5 (fun gq v i wr => ∃ (k g c : Nat), gq + k = 5 ∧ k ≤ 4 ∧ i = .int .i64 k ∧ v = .slice (some ⟨g, 0, none⟩) (np + k) c ∧ Hid (WRow wr lo w6.heap.size (.slice (some ⟨g, 0, none⟩) (np + k) c) (Pp ++ zz k)) ∧ Hid (Below w6.heap.size w6 wr))
  case atStart => exact ⟨0, g7, c7, rfl, by decide, rfl, rfl, Lib.hid (by simpa using HW7.out), HB7⟩
  case round =>
    obtain ⟨k, g, c, hgk, hk4, rfl, rfl, HR, HB⟩ := hrel
    obtain ⟨wo, rfl⟩ : ∃ wo : World, wo = wr := ⟨_, rfl⟩
    clear HW7 HB7
    have hloo : lo ≤ wo.heap.size := Nat.le_trans HLO.out HB.out.size
    by_cases hlt : k < 4
    · have d4 : decide ((k : Int) < 4) = true := by simp; omega
      have hlti : (k : Int) < 4 := by omega
      have hk1 : IntKind.i64.wrap ((k : Int) + 1) = (k : Int) + 1 := by rw [IntKind.wrap_i64]; omega
      have bb : Below wo.heap.size wo ((wo.alloc (.cells #[.int .i64 0, .int .i64 0] 3)).alloc (.cells #[.slice (some ⟨wo.heap.size, 0, none⟩) 2 2] 50)) := ((Below.refl _ _).alloc (Nat.le_refl _) _).alloc (by simp) _
      have HL := Lib.hid (SRow.lit wo lo [0, 0] 2 wo.heap.size rfl rfl hloo (by decide) rfl (rfl : ((wo.alloc (.cells #[.int .i64 0, .int .i64 0] 3)).alloc (.cells #[.slice (some ⟨wo.heap.size, 0, none⟩) 2 2] 50)) = _))
      have HRb := Lib.hid (HR.out.below bb)
      have HBB := Lib.hid (HB.out.trans (bb.mono HB.out.size))
      clear HR HB bb
      go_wp2_with (at_builtin; refine wpList_rows rfl (.tmp 41) (.tmp 43) rfl rfl HRb.out rfl HL.out ?c1 ?c2 ?_)
      case c1 => simp only [List.length_append, List.length_replicate, List.length_cons, List.length_nil, ← HNP.out]; omega
      case c2 => exact HBB.out.size
      intro v8 w8 hW8 hB8
      have HB8 := Lib.hid (HBB.out.trans hB8)
      replace hW8 : WRow w8 lo w6.heap.size v8 (Pp ++ zz (k + 1)) := by
        rw [show Pp ++ zz (k + 1) = (Pp ++ zz k) ++ [[0, 0]] by rw [List.append_assoc, ← List.replicate_succ']]
        simpa using hW8
      obtain ⟨g8, c8, rfl, _⟩ := hW8.shape (by rw [List.length_append, List.length_replicate]; omega)
      rw [List.length_append, List.length_replicate, ← HNP.out] at hW8 ⊢
      have HW8 := Lib.hid hW8
      clear hW8 hB8 HRb HL HBB
      go_wp2
      go_roundg (gk - 1)
      case rel => exact ⟨k + 1, g8, c8, by omega, by omega, by go_num, rfl, HW8, HB8⟩
      case measure => omega
    · obtain rfl : k = 4 := by omega
      have hlt4 : (4 : Nat) ≤ 4 := Nat.le_refl _
      clear hlt hgk hk4
      obtain ⟨nw, hnw⟩ : ∃ n, n = np + 4 := ⟨_, rfl⟩
      rw [← hnw] at HR ⊢
      have hnw44 : nw ≤ 44 ∧ 0 < nw := by omega
      obtain ⟨hnw44, hnw0⟩ := hnw44
      have HNW := Lib.hid (show nw = Wh.length by rw [HWh.out, List.length_append, List.length_replicate, ← HNP.out]; exact hnw)
      clear hnw
      rw [← HWh.out] at HR
      have b0 : Below wo.heap.size wo (wo.alloc (.cells #[] 50)) := (Below.refl _ _).alloc (Nat.le_refl _) _
      have S0 := Lib.hid ((HR.out.src HNW.out).below b0)
      have N0 := Lib.hid (WRow.none wo lo wo.heap.size (Nat.le_refl _))
      have HB0 := Lib.hid b0
      clear b0
      go_wp2_with (at_builtin; refine wpList_rows rfl (.tmp 45) (.tmp 46) rfl rfl N0.out rfl S0.out ?c1 ?c2 ?_)
      case c1 => rw [List.length_nil, ← HNW.out]; omega
      case c2 => exact HB0.out.size
      intro v8 w8 hW8 hB8
      replace hW8 : WRow w8 lo wo.heap.size v8 Wh := by simpa using hW8
      have HB8 := Lib.hid (HB0.out.trans hB8)
      obtain ⟨g8, c8, rfl, _⟩ := hW8.shape (by rw [← HNW.out]; omega)
      rw [← HNW.out] at hW8 ⊢
      have HW8 := Lib.hid hW8
      have HQ8 := Lib.hid ((SQ.out.below HB.out).below HB8.out)
      clear hW8 hB8 N0 S0 HB0
      go_wp2_with (at_builtin; refine wpList_rows rfl (.tmp 47) (.tmp 48) rfl rfl HW8.out rfl HQ8.out ?c1 ?c2 ?_)
      case c1 => rw [← HNW.out, ← HNQ.out]; omega
      case c2 => exact HB8.out.size
      intro v9 w9 hW9 hB9
      have HB9 := Lib.hid (HB8.out.trans hB9)
      replace hW9 : WRow w9 lo wo.heap.size v9 (Wh ++ Qq) := by simpa using hW9
      obtain ⟨g9, c9, rfl, _⟩ := hW9.shape (by rw [List.length_append, ← HNW.out]; omega)
      obtain ⟨n9, hn9⟩ : ∃ n, n = (Wh ++ Qq).length := ⟨_, rfl⟩
      rw [← hn9] at hW9 ⊢
      have M9 := Lib.hid (hW9.rows hloo).mat
      have HWH := Lib.hid (HR.out.below HB9.out)
      have MW := Lib.hid (HWH.out.rows HLO.out).mat
      have MQ9 := Lib.hid ((MQ.out.below HB.out).below HB9.out)
      have HW9 := Lib.hid (HB.out.trans (HB9.out.mono HB.out.size))
      clear hW9 hB9 hn9 HW8 HQ8 HB8 HB9 HR HB MQ
      have hqx := fun w => (eqAtt w x x).trans (by rw [eqA_self])
      go_upto_region 13 with (fail)
      have BB : Below w6.heap.size w6 w9.drew := HW9.out.trans (Below.mono (show Below w9.heap.size w9 w9.drew from ⟨rfl, rfl, rfl, Nat.le_refl _, fun _ _ => rfl⟩) HW9.out.size)
      have DD : Below w9.heap.size w9 w9.drew := ⟨rfl, rfl, rfl, Nat.le_refl _, fun _ _ => rfl⟩
      refine wp_region_held_drew (S := fun w' => w'.cell? ⟨z, 0, none⟩ = some (.int .u8 a.fg.k) ∧ w'.cell? ⟨z, 1, none⟩ = some (.int .u8 a.fg.r) ∧ w'.cell? ⟨z, 2, none⟩ = some (.int .u8 a.fg.g) ∧ w'.cell? ⟨z, 3, none⟩ = some (.int .u8 a.fg.b) ∧ w'.cell? ⟨z, 4, none⟩ = some (.int .u8 a.bg.k) ∧ w'.cell? ⟨z, 5, none⟩ = some (.int .u8 a.bg.r) ∧ w'.cell? ⟨z, 6, none⟩ = some (.int .u8 a.bg.g) ∧ w'.cell? ⟨z, 7, none⟩ = some (.int .u8 a.bg.b) ∧ w'.cell? ⟨z, 8, none⟩ = some (.int .u16 (a.fl : Nat))) (by kernel_rfl) ?_ (fun hHeld => ?_)
      · exact HKEEP.out _ BB
      obtain ⟨u0, hu0⟩ : ∃ u0, u0 = w9.drew := ⟨_, rfl⟩
      rw [← hu0] at BB DD hHeld ⊢
      clear hu0
      have HW := Lib.hid BB
      have HD := Lib.hid DD
      clear BB DD
      refine take_at (i := 0) (v := ?_) rfl (by kernel_rfl) (by kernel_rfl) (by kernel_rfl) (fun _ _ _ h => h) (by kernel_rfl) (by assumption) ?_ ?_
      rotate_left
      · (intro w hSw; (try dsimp only at hSw); go_simp; try with_reducible rfl)
      simp only [Act.put, List.setIfInBounds_toArray, List.set_cons_zero, List.set_cons_succ]
      refine take_at (i := 1) (v := ?_) rfl (by kernel_rfl) (by kernel_rfl) (by kernel_rfl) (fun _ _ _ h => h) (by kernel_rfl) (by assumption) ?_ ?_
      rotate_left
      · (intro w hSw; (try dsimp only at hSw); go_simp; try with_reducible rfl)
      simp only [Act.put, List.setIfInBounds_toArray, List.set_cons_zero, List.set_cons_succ]
      refine take_at (i := 3) (v := ?_) rfl (by kernel_rfl) (by kernel_rfl) (by kernel_rfl) (fun _ _ _ h => h) (by kernel_rfl) (by assumption) ?_ ?_
      rotate_left
      · (intro w hSw; (try dsimp only at hSw); go_simp; try with_reducible rfl)
      simp only [Act.put, List.setIfInBounds_toArray, List.set_cons_zero, List.set_cons_succ]
      refine take_at (i := 4) (v := ?_) rfl (by kernel_rfl) (by kernel_rfl) (by kernel_rfl) (fun _ _ _ h => h) (by kernel_rfl) (by assumption) ?_ ?_
      rotate_left
      · (intro w hSw; (try dsimp only at hSw); go_simp; try with_reducible rfl)
      simp only [Act.put, List.setIfInBounds_toArray, List.set_cons_zero, List.set_cons_succ]
      refine take_at (i := 6) (v := ?_) rfl (by kernel_rfl) (by kernel_rfl) (by kernel_rfl) (fun _ _ _ h => h) (by kernel_rfl) (by assumption) ?_ ?_
      rotate_left
      · (intro w hSw; (try dsimp only at hSw); go_simp; try with_reducible rfl)
      simp only [Act.put, List.setIfInBounds_toArray, List.set_cons_zero, List.set_cons_succ]
      refine do_at (i := 2) rfl (by kernel_rfl) (by kernel_rfl) (fun K hK => ?_)
      go_simp
      refine (CB.out _ _ (M9.out.below HD.out)).mono ?_
      rintro e u1 ⟨rfl, bb⟩
      replace HW := Lib.hid (HW.out.trans (bb.mono HW.out.size))
      replace HD := Lib.hid (HD.out.trans (bb.mono HD.out.size))
      clear bb
      go_wp2_with fail
      refine hK.out _ _ ?_ (fun hHeld => ?_)
      · exact HKEEP.out _ HW.out
      clear hK K
      try simp only [Act.put, List.setIfInBounds_toArray, List.set_cons_zero, List.set_cons_succ]
      refine do_at (i := 5) rfl (by kernel_rfl) (by kernel_rfl) (fun K hK => ?_)
      go_simp
      refine (CW.out _ _ (MW.out.below HD.out)).mono ?_
      rintro e u2 ⟨rfl, bb⟩
      replace HW := Lib.hid (HW.out.trans (bb.mono HW.out.size))
      replace HD := Lib.hid (HD.out.trans (bb.mono HD.out.size))
      clear bb
      go_wp2_with fail
      refine hK.out _ _ ?_ (fun hHeld => ?_)
      · exact HKEEP.out _ HW.out
      clear hK K
      try simp only [Act.put, List.setIfInBounds_toArray, List.set_cons_zero, List.set_cons_succ]
      refine do_at (i := 7) rfl (by kernel_rfl) (by kernel_rfl) (fun K hK => ?_)
      go_simp
      refine (CQ.out _ _ (MQ9.out.below HD.out)).mono ?_
      rintro e u3 ⟨rfl, bb⟩
      replace HW := Lib.hid (HW.out.trans (bb.mono HW.out.size))
      replace HD := Lib.hid (HD.out.trans (bb.mono HD.out.size))
      clear bb
      go_wp2_with fail
      refine hK.out _ _ ?_ (fun hHeld => ?_)
      · exact HKEEP.out _ HW.out
      clear hK K
      try simp only [Act.put, List.setIfInBounds_toArray, List.set_cons_zero, List.set_cons_succ]
      refine take_at (i := 8) (v := ?_) rfl (by kernel_rfl) (by kernel_rfl) (by kernel_rfl) (fun _ _ _ h => h) (by kernel_rfl) (by assumption) ?_ ?_
      rotate_left
      · (intro w hSw; (try dsimp only at hSw); go_simp; try with_reducible rfl)
      simp only [Act.put, List.setIfInBounds_toArray, List.set_cons_zero, List.set_cons_succ]
      refine wpAnyH_done (by kernel_rfl) ?_ _
      have hloo3 : lo ≤ u3.heap.size := Nat.le_trans HLO.out HW.out.size
      have HW3 := Lib.hid HW.out
      have HWH3 := Lib.hid (HWH.out.below HD.out)
      have MQ3 := Lib.hid (MQ9.out.below HD.out)
      have SQ3 := Lib.hid (SQ.out.below HW.out)
      clear HW HD HWH MQ9 SQ M9 MW HW9 CB CW CQ hHeld hqx
      have b0 : Below u3.heap.size u3 (u3.alloc (.cells #[] 50)) := (Below.refl _ _).alloc (Nat.le_refl _) _
      have S0 := Lib.hid ((HWH3.out.src HNW.out).below b0)
      have N0 := Lib.hid (WRow.none u3 lo u3.heap.size (Nat.le_refl _))
      have HB0 := Lib.hid b0
      clear b0
      go_wp2_with (at_builtin; refine wpList_rows rfl (.tmp 59) (.tmp 60) rfl rfl N0.out rfl S0.out ?c1 ?c2 ?_)
      case c1 => rw [List.length_nil, ← HNW.out]; omega
      case c2 => exact HB0.out.size
      intro v10 w10 hW10 hB10
      replace hW10 : WRow w10 lo u3.heap.size v10 Wh := by simpa using hW10
      have HB10 := Lib.hid (HB0.out.trans hB10)
      obtain ⟨g10, c10, rfl, _⟩ := hW10.shape (by rw [← HNW.out]; omega)
      rw [← HNW.out] at hW10 ⊢
      have bb : Below w10.heap.size w10 ((w10.alloc (.cells #[.int .i64 0] 3)).alloc (.cells #[.slice (some ⟨w10.heap.size, 0, none⟩) 1 1] 50)) := ((Below.refl _ _).alloc (Nat.le_refl _) _).alloc (by simp) _
      have HL := Lib.hid (SRow.lit w10 lo [0] 1 w10.heap.size rfl rfl (Nat.le_trans hloo3 HB10.out.size) (by decide) rfl (rfl : ((w10.alloc (.cells #[.int .i64 0] 3)).alloc (.cells #[.slice (some ⟨w10.heap.size, 0, none⟩) 1 1] 50)) = _))
      have HW10 := Lib.hid (hW10.below bb)
      have HBB := Lib.hid (HB10.out.trans (bb.mono HB10.out.size))
      clear hW10 hB10 N0 S0 HB0 bb HB10
      go_wp2_with (at_builtin; refine wpList_rows rfl (.tmp 61) (.tmp 63) rfl rfl HW10.out rfl HL.out ?c1 ?c2 ?_)
      case c1 => rw [← HNW.out]; simp; omega
      case c2 => exact HBB.out.size
      intro v11 w11 hW11 hB11
      have HB11 := Lib.hid (HBB.out.trans hB11)
      replace hW11 : WRow w11 lo u3.heap.size v11 (Wh ++ [[0]]) := by simpa using hW11
      obtain ⟨g11, c11, rfl, _⟩ := hW11.shape (by simp)
      obtain ⟨n11, hn11⟩ : ∃ n, n = (Wh ++ [[0]]).length := ⟨_, rfl⟩
      have l11 : n11 ≤ 45 := by rw [hn11, List.length_append, ← HNW.out]; simp; omega
      have HN11 := Lib.hid hn11
      rw [← hn11] at hW11 ⊢
      have HW11 := Lib.hid hW11
      have SQ11 := Lib.hid (SQ3.out.below HB11.out)
      clear hW11 hB11 hn11 HW10 HL HBB
      go_wp2_with (at_builtin; refine wpList_rows rfl (.tmp 64) (.tmp 65) rfl rfl HW11.out rfl SQ11.out ?c1 ?c2 ?_)
      case c1 => rw [← HN11.out, ← HNQ.out]; omega
      case c2 => exact HB11.out.size
      intro v12 w12 hW12 hB12
      have HB12 := Lib.hid (HB11.out.trans hB12)
      replace hW12 : WRow w12 lo u3.heap.size v12 (Wh ++ [[0]] ++ Qq) := by simpa using hW12
      obtain ⟨g12, c12, rfl, _⟩ := hW12.shape (by simp only [List.length_append]; rw [← HNW.out]; omega)
      obtain ⟨n12, hn12⟩ : ∃ n, n = (Wh ++ [[0]] ++ Qq).length := ⟨_, rfl⟩
      rw [← hn12] at hW12 ⊢
      have M12 := Lib.hid (hW12.rows hloo3).mat
      have HWH12 := Lib.hid (HWH3.out.below HB12.out)
      have MQ12 := Lib.hid (MQ3.out.below HB12.out)
      have HW12 := Lib.hid (HW3.out.trans (HB12.out.mono HW3.out.size))
      have hlo12 : lo ≤ w12.heap.size := Nat.le_trans hloo3 HB12.out.size
      clear hW12 hB12 hn12 HW11 SQ11 HB11 HB12 HWH3 MQ3 SQ3 HW3
      have hqx := fun w => (eqAtt w x0 x0).trans (by rw [eqA_self])
      go_upto_region 16 with (fail)
      have BB : Below w6.heap.size w6 w12.drew := HW12.out.trans (Below.mono (show Below w12.heap.size w12 w12.drew from ⟨rfl, rfl, rfl, Nat.le_refl _, fun _ _ => rfl⟩) HW12.out.size)
      have DD : Below w12.heap.size w12 w12.drew := ⟨rfl, rfl, rfl, Nat.le_refl _, fun _ _ => rfl⟩
      refine wp_region_held_drew (S := fun w' => w'.cell? ⟨z, 0, none⟩ = some (.int .u8 a.fg.k) ∧ w'.cell? ⟨z, 1, none⟩ = some (.int .u8 a.fg.r) ∧ w'.cell? ⟨z, 2, none⟩ = some (.int .u8 a.fg.g) ∧ w'.cell? ⟨z, 3, none⟩ = some (.int .u8 a.fg.b) ∧ w'.cell? ⟨z, 4, none⟩ = some (.int .u8 a.bg.k) ∧ w'.cell? ⟨z, 5, none⟩ = some (.int .u8 a.bg.r) ∧ w'.cell? ⟨z, 6, none⟩ = some (.int .u8 a.bg.g) ∧ w'.cell? ⟨z, 7, none⟩ = some (.int .u8 a.bg.b) ∧ w'.cell? ⟨z, 8, none⟩ = some (.int .u16 (a.fl : Nat))) (by kernel_rfl) ?_ (fun hHeld => ?_)
      · exact HKEEP.out _ BB
      obtain ⟨u0, hu0⟩ : ∃ u0, u0 = w12.drew := ⟨_, rfl⟩
      rw [← hu0] at BB DD hHeld ⊢
      clear hu0
      have HW := Lib.hid BB
      have HD := Lib.hid DD
      clear BB DD
      refine take_at (i := 0) (v := ?_) rfl (by kernel_rfl) (by kernel_rfl) (by kernel_rfl) (fun _ _ _ h => h) (by kernel_rfl) (by assumption) ?_ ?_
      rotate_left
      · (intro w hSw; (try dsimp only at hSw); go_simp; try with_reducible rfl)
      simp only [Act.put, List.setIfInBounds_toArray, List.set_cons_zero, List.set_cons_succ]
      refine take_at (i := 1) (v := ?_) rfl (by kernel_rfl) (by kernel_rfl) (by kernel_rfl) (fun _ _ _ h => h) (by kernel_rfl) (by assumption) ?_ ?_
      rotate_left
      · (intro w hSw; (try dsimp only at hSw); go_simp; try with_reducible rfl)
      simp only [Act.put, List.setIfInBounds_toArray, List.set_cons_zero, List.set_cons_succ]
      refine take_at (i := 3) (v := ?_) rfl (by kernel_rfl) (by kernel_rfl) (by kernel_rfl) (fun _ _ _ h => h) (by kernel_rfl) (by assumption) ?_ ?_
      rotate_left
      · (intro w hSw; (try dsimp only at hSw); go_simp; try with_reducible rfl)
      simp only [Act.put, List.setIfInBounds_toArray, List.set_cons_zero, List.set_cons_succ]
      refine take_at (i := 4) (v := ?_) rfl (by kernel_rfl) (by kernel_rfl) (by kernel_rfl) (fun _ _ _ h => h) (by kernel_rfl) (by assumption) ?_ ?_
      rotate_left
      · (intro w hSw; (try dsimp only at hSw); go_simp; try with_reducible rfl)
      simp only [Act.put, List.setIfInBounds_toArray, List.set_cons_zero, List.set_cons_succ]
      refine do_at (i := 2) rfl (by kernel_rfl) (by kernel_rfl) (fun K hK => ?_)
      go_simp
      refine (CC.out _ _ (M12.out.below HD.out)).mono ?_
      rintro e u1 ⟨rfl, bb⟩
      replace HW := Lib.hid (HW.out.trans (bb.mono HW.out.size))
      replace HD := Lib.hid (HD.out.trans (bb.mono HD.out.size))
      clear bb
      go_wp2_with fail
      refine hK.out _ _ ?_ (fun hHeld => ?_)
      · exact HKEEP.out _ HW.out
      clear hK K
      try simp only [Act.put, List.setIfInBounds_toArray, List.set_cons_zero, List.set_cons_succ]
      refine do_at (i := 5) rfl (by kernel_rfl) (by kernel_rfl) (fun K hK => ?_)
      go_simp
      refine (CZ.out _ _ (MQ12.out.below HD.out)).mono ?_
      rintro e u2 ⟨rfl, bb⟩
      replace HW := Lib.hid (HW.out.trans (bb.mono HW.out.size))
      replace HD := Lib.hid (HD.out.trans (bb.mono HD.out.size))
      clear bb
      go_wp2_with fail
      refine hK.out _ _ ?_ (fun hHeld => ?_)
      · exact HKEEP.out _ HW.out
      clear hK K
      try simp only [Act.put, List.setIfInBounds_toArray, List.set_cons_zero, List.set_cons_succ]
      refine take_at (i := 6) (v := ?_) rfl (by kernel_rfl) (by kernel_rfl) (by kernel_rfl) (fun _ _ _ h => h) (by kernel_rfl) (by assumption) ?_ ?_
      rotate_left
      · (intro w hSw; (try dsimp only at hSw); go_simp; try with_reducible rfl)
      simp only [Act.put, List.setIfInBounds_toArray, List.set_cons_zero, List.set_cons_succ]
      refine take_at (i := 7) (v := ?_) rfl (by kernel_rfl) (by kernel_rfl) (by kernel_rfl) (fun _ _ _ h => h) (by kernel_rfl) (by assumption) ?_ ?_
      rotate_left
      · (intro w hSw; (try dsimp only at hSw); go_simp; try with_reducible rfl)
      simp only [Act.put, List.setIfInBounds_toArray, List.set_cons_zero, List.set_cons_succ]
      refine take_at (i := 8) (v := ?_) rfl (by kernel_rfl) (by kernel_rfl) (by kernel_rfl) (fun _ _ _ h => h) (by kernel_rfl) (by assumption) ?_ ?_
      rotate_left
      · (intro w hSw; (try dsimp only at hSw); go_simp; try with_reducible rfl)
      simp only [Act.put, List.setIfInBounds_toArray, List.set_cons_zero, List.set_cons_succ]
      refine take_at (i := 9) (v := ?_) rfl (by kernel_rfl) (by kernel_rfl) (by kernel_rfl) (fun _ _ _ h => h) (by kernel_rfl) (by assumption) ?_ ?_
      rotate_left
      · (intro w hSw; (try dsimp only at hSw); go_simp; try with_reducible rfl)
      simp only [Act.put, List.setIfInBounds_toArray, List.set_cons_zero, List.set_cons_succ]
      refine take_at (i := 14) (v := ?_) rfl (by kernel_rfl) (by kernel_rfl) (by kernel_rfl) (fun _ _ _ h => h) (by kernel_rfl) (by assumption) ?_ ?_
      rotate_left
      · (intro w hSw; (try dsimp only at hSw); go_simp; try with_reducible rfl)
      simp only [Act.put, List.setIfInBounds_toArray, List.set_cons_zero, List.set_cons_succ]
      refine do_at (i := 10) rfl (by kernel_rfl) (by kernel_rfl) (fun K hK => ?_)
      go_wp2_with fail
      obtain ⟨u4, hu4⟩ : ∃ u, u = u2.alloc (.cells #[.int .i64 (-1)] 3) := ⟨_, rfl⟩
      rw [← hu4]
      have bb : Below u2.heap.size u2 u4 := by rw [hu4]; exact (Below.refl _ _).alloc (Nat.le_refl _) _
      have HU4 := Lib.hid hu4
      have HLU := Lib.hid (show lo ≤ u2.heap.size from Nat.le_trans hlo12 HD.out.size)
      replace HW := Lib.hid (HW.out.trans (bb.mono HW.out.size))
      replace HD := Lib.hid (HD.out.trans (bb.mono HD.out.size))
      clear bb hu4
      refine hK.out _ _ ?_ (fun hHeld => ?_)
      · exact HKEEP.out _ HW.out
      clear hK K
      try simp only [Act.put, List.setIfInBounds_toArray, List.set_cons_zero, List.set_cons_succ]
      refine do_at (i := 11) rfl (by kernel_rfl) (by kernel_rfl) (fun K hK => ?_)
      go_wp2_with fail
      obtain ⟨u5, hu5⟩ : ∃ u, u = u4.alloc (.cells #[.slice (some ⟨u2.heap.size, 0, none⟩) 1 1] 50) := ⟨_, rfl⟩
      rw [← hu5]
      have bb : Below u4.heap.size u4 u5 := by rw [hu5]; exact (Below.refl _ _).alloc (Nat.le_refl _) _
      have HL := Lib.hid (SRow.lit u2 lo [-1] 1 u2.heap.size rfl rfl HLU.out (by decide) HU4.out hu5)
      have hs4 : u4.heap.size = u2.heap.size + 1 := by rw [HU4.out]; simp
      rw [← hs4] at HL
      replace HW := Lib.hid (HW.out.trans (bb.mono HW.out.size))
      replace HD := Lib.hid (HD.out.trans (bb.mono HD.out.size))
      clear bb hu5 hs4 HU4
      refine hK.out _ _ ?_ (fun hHeld => ?_)
      · exact HKEEP.out _ HW.out
      clear hK K
      try simp only [Act.put, List.setIfInBounds_toArray, List.set_cons_zero, List.set_cons_succ]
      refine do_at (i := 12) rfl (by kernel_rfl) (by kernel_rfl) (fun K hK => ?_)
      refine wp_rows (.tmp 76) (.tmp 78) rfl rfl (HWH12.out.below HD.out) rfl HL.out ?_ HW.out.size ?_
      · rw [← HNW.out]; simp; omega
      intro v13 u6 hW13 hB13
      replace HW := Lib.hid (HW.out.trans hB13)
      obtain ⟨g13, c13, rfl, _⟩ := hW13.shape (by simp)
      have M13 := Lib.hid (hW13.rows HLO.out).mat
      obtain ⟨n13, hn13⟩ : ∃ n, n = (Wh ++ [[-1]]).length := ⟨_, rfl⟩
      rw [← hn13] at M13 ⊢
      clear hW13 hB13 hn13 HL HD
      refine hK.out _ _ ?_ (fun hHeld => ?_)
      · exact HKEEP.out _ HW.out
      clear hK K
      try simp only [Act.put, List.setIfInBounds_toArray, List.set_cons_zero, List.set_cons_succ]
      refine do_at (i := 13) rfl (by kernel_rfl) (by kernel_rfl) (fun K hK => ?_)
      go_simp
      refine (CN.out _ _ M13.out).mono ?_
      rintro e u7 ⟨rfl, bb⟩
      replace HW := Lib.hid (HW.out.trans (bb.mono HW.out.size))
      clear bb
      go_wp2_with fail
      refine hK.out _ _ ?_ (fun hHeld => ?_)
      · exact HKEEP.out _ HW.out
      clear hK K
      try simp only [Act.put, List.setIfInBounds_toArray, List.set_cons_zero, List.set_cons_succ]
      refine take_at (i := 15) (v := ?_) rfl (by kernel_rfl) (by kernel_rfl) (by kernel_rfl) (fun _ _ _ h => h) (by kernel_rfl) (by assumption) ?_ ?_
      rotate_left
      · (intro w hSw; (try dsimp only at hSw); go_simp; try with_reducible rfl)
      simp only [Act.put, List.setIfInBounds_toArray, List.set_cons_zero, List.set_cons_succ]
      refine take_at (i := 16) (v := ?_) rfl (by kernel_rfl) (by kernel_rfl) (by kernel_rfl) (fun _ _ _ h => h) (by kernel_rfl) (by assumption) ?_ ?_
      rotate_left
      · (intro w hSw; (try dsimp only at hSw); go_simp; try with_reducible rfl)
      simp only [Act.put, List.setIfInBounds_toArray, List.set_cons_zero, List.set_cons_succ]
      refine take_at (i := 17) (v := ?_) rfl (by kernel_rfl) (by kernel_rfl) (by kernel_rfl) (fun _ _ _ h => h) (by kernel_rfl) (by assumption) ?_ ?_
      rotate_left
      · (intro w hSw; (try dsimp only at hSw); go_simp; try with_reducible rfl)
      simp only [Act.put, List.setIfInBounds_toArray, List.set_cons_zero, List.set_cons_succ]
      refine wpAnyH_done (by kernel_rfl) ?_ _
      have HBE := Lib.hid (HBF.out.trans (HW.out.mono HBF.out.size))
      go_wp2
      go_ret
      exact ⟨rfl, HBE.out⟩
end Go.Proofs.YtlmhnebgkginkaaDoor.Lab
