/- The reference's several: what a parameter of several numbers makes of an attribute. What the reference's Sgr makes of each row: mathematics. -/
import Derived.Test.YtlmhnebgkginkaaDoorAtRCol
import Derived.Test.YtlmhnebgkginkaaDoorAtRSim
namespace Go.Proofs.YtlmhnebgkginkaaDoor.Lab
open Go Go.RowKit

/-- What is behind the first k of a row. -/
theorem slice_from (g o n c k : Nat) (hk : k ≤ n) (hc : n ≤ c) : ∃ a, (∀ w, (Instr.sliceAt 50 (.slice (some ⟨g, o, none⟩) n c) (some (.int .i64 (k : Int))) none none).run Tryd.prog w = .ok (.slice a (n - k) (c - k)) w) ∧
    ∀ w X row, NumsAt w X (.slice (some ⟨g, o, none⟩) n c) row → NumsAt w X (.slice a (n - k) (c - k)) (row.drop k) := by
  refine ⟨if c - k = 0 then some ⟨g, o, none⟩ else some ⟨g, o + k, none⟩, fun w => ?_, fun w X row h => ?_⟩
  · have hT' : Tryd.prog.underlying 50 = some (.slice (Tryd.prog.elem 50)) := by kernel_rfl
    have hE : Tryd.prog.elem 50 = 3 := by kernel_rfl
    rw [run_sliceAt_slice w 50 _ _ _ _ hT', run_slice_l (P := Tryd.prog) (w := w) (t := 50) (ht := hT') (kl := .i64) (l := (k : Int)) (h0 := by omega) (h1 := by omega), hE, szI]
    simp only [Result.andThen, sliced, Int.toNat_natCast, Nat.mul_one]
    rw [Option.map_some, Addr.add_mid]
    by_cases h0 : c = k
    · rw [if_pos h0, if_pos (by omega)]
    · rw [if_neg h0, if_neg (by omega)]
  · obtain ⟨a', c', e, hc', hm, hh⟩ := id h
    injection e with e1 e2 e3
    subst e2 e3
    have hl : (row.drop k).length = row.length - k := List.length_drop
    refine ⟨_, _, by rw [hl], by omega, by omega, fun h0 => ?_⟩
    rw [hl] at h0
    have hne : ¬ c - k = 0 := by omega
    rw [if_neg hne]
    obtain ⟨g', o', ea, hx, hg, hcell⟩ := hh (by omega)
    rw [ea] at e1
    injection e1 with e1
    injection e1 with e1 e4
    subst e1 e4
    refine ⟨g, o + k, rfl, hx, hg, fun j hj => ?_⟩
    rw [hl] at hj
    rw [getD_drop, Nat.add_assoc]
    exact hcell (k + j) (by omega)
theorem within_all {row : List Int} (h1 : row.getD 1 0 = 2) (hn : row.length = 6) : withinM row = coloredM 2 (row.drop 3) := by
  have e : tailM row = row.drop 3 := by unfold tailM; rw [if_pos ⟨h1, by rw [List.length_drop]; omega⟩]
  unfold withinM coloredM
  rw [e, h1]
theorem within_not {row : List Int} (h : ¬ (row.getD 1 0 = 2 ∧ row.length = 6)) (h2 : 2 ≤ row.length) : withinM row = coloredM (row.getD 1 0) (row.drop 2) := by
  have e : tailM row = row.drop 2 := by unfold tailM; rw [if_neg (fun hh => h ⟨hh.1, by have := hh.2; rw [List.length_drop] at this; omega⟩)]
  unfold withinM coloredM
  rw [e]
theorem sev_38 {a : At} {row : List Int} (h2 : 2 ≤ row.length) (h0 : row.getD 0 0 = 38) : severalM a row = setC2 38 a (withinM row) := by
  unfold severalM setC2
  rw [if_neg (by omega), if_neg (by omega), if_pos h0, if_pos rfl]
theorem sev_48 {a : At} {row : List Int} (h2 : 2 ≤ row.length) (h0 : row.getD 0 0 = 48) : severalM a row = setC2 48 a (withinM row) := by
  unfold severalM setC2
  rw [if_neg (by omega), if_neg (by omega), if_neg (by omega), if_pos h0, if_neg (by decide)]
theorem sev_no {a : At} {row : List Int} (h4 : ¬ (row.getD 0 0 = 4 ∧ row.length = 2 ∧ (row.getD 1 0 = 0 ∨ row.getD 1 0 = 1 ∨ row.getD 1 0 = 2))) (h38 : row.getD 0 0 ≠ 38) (h48 : row.getD 0 0 ≠ 48) : severalM a row = a := by
  unfold severalM
  rw [if_neg h38, if_neg h48]
  split
  · rfl
  split
  · rename_i e4
    split
    · rename_i el
      rw [if_neg (fun e => h4 ⟨e4, el, .inl e⟩), if_neg (fun e => h4 ⟨e4, el, .inr (.inl e)⟩), if_neg (fun e => h4 ⟨e4, el, .inr (.inr e)⟩)]
    · rfl
  · rfl
theorem sev_4 {a : At} {row : List Int} {n : Int} (h0 : row.getD 0 0 = 4) (hl : row.length = 2) (h : (row.getD 1 0 = 0 ∧ n = 24) ∨ (row.getD 1 0 = 1 ∧ n = 4) ∨ (row.getD 1 0 = 2 ∧ n = 21)) : severalM a row = simpleM a n := by
  unfold severalM
  rw [if_neg (by omega), if_pos h0, if_pos hl]
  rcases h with ⟨h, rfl⟩ | ⟨h, rfl⟩ | ⟨h, rfl⟩
  · rw [if_pos h]
    rfl
  · rw [if_neg (by omega), if_pos h]
    rfl
  · rw [if_neg (by omega), if_neg (by omega), if_pos h]
    rfl
set_option maxHeartbeats 8000000 in
set_option maxRecDepth 100000 in
theorem rseveral_any (w : World) (X : Nat → Prop) (v : Value) (L : List Int) (a : At) (ha : a.fl < 65536) (h : NumsAt w X v L) (h2 : 2 ≤ L.length) (hl : L.length ≤ 1000) : Calls Tryd.prog 31 #[attV a, v] w (SimOut w (severalM a L)) := by
  obtain ⟨g, o, c, rfl, hc, hm, hx, hg, hcell⟩ := h.open (by omega)
  have p0 := hcell 0 (by omega)
  have p1 := hcell 1 (by omega)
  rw [Nat.add_zero] at p0
  obtain ⟨x0, hx0⟩ : ∃ x, x = L.getD 0 0 := ⟨_, rfl⟩
  obtain ⟨x1, hx1⟩ : ∃ x, x = L.getD 1 0 := ⟨_, rfl⟩
  rw [← hx0] at p0
  rw [← hx1] at p1
  have HX0 := Lib.hid hx0.symm
  have HX1 := Lib.hid hx1.symm
  obtain ⟨w0, hw0⟩ : ∃ w0, w0 = (w.alloc (.cells #[.int .u8 a.fg.k, .int .u8 a.fg.r, .int .u8 a.fg.g, .int .u8 a.fg.b, .int .u8 a.bg.k, .int .u8 a.bg.r, .int .u8 a.bg.g, .int .u8 a.bg.b, .int .u16 (a.fl : Nat)] 26)).alloc (.cells #[.int .u8 0, .int .u8 0, .int .u8 0, .int .u8 0, .int .u8 0, .int .u8 0, .int .u8 0, .int .u8 0, .int .u16 0] 26) := ⟨_, rfl⟩
  have b0 : Below w.heap.size w w0 := by rw [hw0]; exact ((Below.refl _ _).alloc (Nat.le_refl _) _).alloc (by simp) _
  have HA := Lib.hid (show AtAt w0 w.heap.size a by rw [hw0]; exact (AtAt.newAt w _ rfl a _).past _)
  have HZ := Lib.hid (show AtAt w0 (w.heap.size + 1) At.zero by rw [hw0]; exact AtAt.newAt _ _ (by simp) At.zero _)
  have HB := Lib.hid b0
  replace p0 := (b0.cell (p := ⟨g, o, none⟩) hg).trans p0
  replace p1 := (b0.cell (p := ⟨g, o + 1, none⟩) hg).trans p1
  have HR := Lib.hid (h.below b0)
  obtain ⟨n, hn⟩ : ∃ n, n = L.length := ⟨_, rfl⟩
  have HN := Lib.hid hn
  rw [← hn] at HR h2 hl hc ⊢
  have HGW := Lib.hid (show g < w0.heap.size by have := b0.size; omega)
  have HGB := Lib.hid (show g < w.heap.size from hg)
  clear b0 h hcell hx hm hx0 hx1 hn hg
  go_enter Tryd.func31, Tryd.ntmps31
  go_upto_region 1 with (fail)
  rw [← hw0]
  clear hw0
  by_cases x4 : x0 = 4 ∧ n = 2
  · obtain ⟨rfl, rfl⟩ := x4
    clear HR HGW HGB
    by_cases y0 : x1 = 0
    · have HS := Lib.hid (show severalM a L = simpleM a 24 from sev_4 HX0.out HN.out.symm (by rw [HX1.out, y0]; decide))
      subst y0
      obtain ⟨q0, hq0⟩ : ∃ q0, q0 = severalM a L := ⟨_, rfl⟩
      have HQE := Lib.hid hq0
      have CS := Lib.hid (show Calls Tryd.prog 32 #[attV a, .int .i64 24] w0 (SimOut w0 q0) by rw [hq0, HS.out]; exact rsimple_any w0 a ha 24)
      clear hq0
      obtain ⟨_, ⟨y1, y2, y3, y4, y5, y6, y7, y8, y9⟩, _⟩ := HA.out
      go_wp2_with fail
      refine CS.out.mono ?_
      rintro e w1 ⟨rfl, bb⟩
      have HZ1 := Lib.hid (HZ.out.below bb)
      have HB1 := Lib.hid (HB.out.trans (bb.mono HB.out.size))
      clear bb CS y1 y2 y3 y4 y5 y6 y7 y8 y9 p0 p1
      obtain ⟨wq, hwq⟩ : ∃ wq, wq = putA w1 (w.heap.size + 1) q0 := ⟨_, rfl⟩
      have Z := Lib.hid (show AtAt wq (w.heap.size + 1) q0 by rw [hwq]; exact HZ1.out.putA q0)
      have HBQ := Lib.hid (show Below w.heap.size w wq by rw [hwq]; exact HB1.out.trans ((putA_but w1 (w.heap.size + 1) q0).below (C := w.heap.size) (by omega) HB1.out.size))
      simp only [putA, putC, Nat.zero_add, Nat.reduceAdd] at hwq
      obtain ⟨_, ⟨z1, z2, z3, z4, z5, z6, z7, z8, z9⟩, zf⟩ := HZ1.out
      dsimp only at z1 z2 z3 z4 z5 z6 z7 z8 z9
      go_wp2
      rw [← hwq]
      clear z1 z2 z3 z4 z5 z6 z7 z8 z9 zf hwq
      obtain ⟨_, ⟨k1, k2, k3, k4, k5, k6, k7, k8, k9⟩, _⟩ := Z.out
      exact bodyPost_ret (v := attV q0) (by simp [results, Tryd.results31, go_sem, k1, k2, k3, k4, k5, k6, k7, k8, k9]) rfl ⟨by rw [HQE.out], HBQ.out⟩
    by_cases y1 : x1 = 1
    · have HS := Lib.hid (show severalM a L = simpleM a 4 from sev_4 HX0.out HN.out.symm (by rw [HX1.out, y1]; decide))
      subst y1
      obtain ⟨q0, hq0⟩ : ∃ q0, q0 = severalM a L := ⟨_, rfl⟩
      have HQE := Lib.hid hq0
      have CS := Lib.hid (show Calls Tryd.prog 32 #[attV a, .int .i64 4] w0 (SimOut w0 q0) by rw [hq0, HS.out]; exact rsimple_any w0 a ha 4)
      clear hq0
      obtain ⟨_, ⟨y1, y2, y3, y4, y5, y6, y7, y8, y9⟩, _⟩ := HA.out
      go_wp2_with fail
      refine CS.out.mono ?_
      rintro e w1 ⟨rfl, bb⟩
      have HZ1 := Lib.hid (HZ.out.below bb)
      have HB1 := Lib.hid (HB.out.trans (bb.mono HB.out.size))
      clear bb CS y1 y2 y3 y4 y5 y6 y7 y8 y9 p0 p1
      obtain ⟨wq, hwq⟩ : ∃ wq, wq = putA w1 (w.heap.size + 1) q0 := ⟨_, rfl⟩
      have Z := Lib.hid (show AtAt wq (w.heap.size + 1) q0 by rw [hwq]; exact HZ1.out.putA q0)
      have HBQ := Lib.hid (show Below w.heap.size w wq by rw [hwq]; exact HB1.out.trans ((putA_but w1 (w.heap.size + 1) q0).below (C := w.heap.size) (by omega) HB1.out.size))
      simp only [putA, putC, Nat.zero_add, Nat.reduceAdd] at hwq
      obtain ⟨_, ⟨z1, z2, z3, z4, z5, z6, z7, z8, z9⟩, zf⟩ := HZ1.out
      dsimp only at z1 z2 z3 z4 z5 z6 z7 z8 z9
      go_wp2
      rw [← hwq]
      clear z1 z2 z3 z4 z5 z6 z7 z8 z9 zf hwq
      obtain ⟨_, ⟨k1, k2, k3, k4, k5, k6, k7, k8, k9⟩, _⟩ := Z.out
      exact bodyPost_ret (v := attV q0) (by simp [results, Tryd.results31, go_sem, k1, k2, k3, k4, k5, k6, k7, k8, k9]) rfl ⟨by rw [HQE.out], HBQ.out⟩
    by_cases y2 : x1 = 2
    · have HS := Lib.hid (show severalM a L = simpleM a 21 from sev_4 HX0.out HN.out.symm (by rw [HX1.out, y2]; decide))
      subst y2
      obtain ⟨q0, hq0⟩ : ∃ q0, q0 = severalM a L := ⟨_, rfl⟩
      have HQE := Lib.hid hq0
      have CS := Lib.hid (show Calls Tryd.prog 32 #[attV a, .int .i64 21] w0 (SimOut w0 q0) by rw [hq0, HS.out]; exact rsimple_any w0 a ha 21)
      clear hq0
      obtain ⟨_, ⟨y1, y2, y3, y4, y5, y6, y7, y8, y9⟩, _⟩ := HA.out
      go_wp2_with fail
      refine CS.out.mono ?_
      rintro e w1 ⟨rfl, bb⟩
      have HZ1 := Lib.hid (HZ.out.below bb)
      have HB1 := Lib.hid (HB.out.trans (bb.mono HB.out.size))
      clear bb CS y1 y2 y3 y4 y5 y6 y7 y8 y9 p0 p1
      obtain ⟨wq, hwq⟩ : ∃ wq, wq = putA w1 (w.heap.size + 1) q0 := ⟨_, rfl⟩
      have Z := Lib.hid (show AtAt wq (w.heap.size + 1) q0 by rw [hwq]; exact HZ1.out.putA q0)
      have HBQ := Lib.hid (show Below w.heap.size w wq by rw [hwq]; exact HB1.out.trans ((putA_but w1 (w.heap.size + 1) q0).below (C := w.heap.size) (by omega) HB1.out.size))
      simp only [putA, putC, Nat.zero_add, Nat.reduceAdd] at hwq
      obtain ⟨_, ⟨z1, z2, z3, z4, z5, z6, z7, z8, z9⟩, zf⟩ := HZ1.out
      dsimp only at z1 z2 z3 z4 z5 z6 z7 z8 z9
      go_wp2
      rw [← hwq]
      clear z1 z2 z3 z4 z5 z6 z7 z8 z9 zf hwq
      obtain ⟨_, ⟨k1, k2, k3, k4, k5, k6, k7, k8, k9⟩, _⟩ := Z.out
      exact bodyPost_ret (v := attV q0) (by simp [results, Tryd.results31, go_sem, k1, k2, k3, k4, k5, k6, k7, k8, k9]) rfl ⟨by rw [HQE.out], HBQ.out⟩
    have HS := Lib.hid (show severalM a L = a from sev_no (by rw [HX1.out]; rintro ⟨_, _, e | e | e⟩ <;> contradiction) (by rw [HX0.out]; decide) (by rw [HX0.out]; decide))
    have e0 : (x1 == 0) = false := by simp [y0]
    have e1 : (x1 == 1) = false := by simp [y1]
    have e2 : (x1 == 2) = false := by simp [y2]
    clear y0 y1 y2
    obtain ⟨q0, hq0⟩ : ∃ q0, q0 = severalM a L := ⟨_, rfl⟩
    have HQ0 := Lib.hid (show AtAt w0 w.heap.size q0 by rw [hq0, HS.out]; exact HA.out)
    have HQE := Lib.hid hq0
    clear hq0
    obtain ⟨wq, hwq⟩ : ∃ wq, wq = putA w0 (w.heap.size + 1) q0 := ⟨_, rfl⟩
    have Z := Lib.hid (show AtAt wq (w.heap.size + 1) q0 by rw [hwq]; exact HZ.out.putA q0)
    have HBQ := Lib.hid (show Below w.heap.size w wq by rw [hwq]; exact HB.out.trans ((putA_but w0 (w.heap.size + 1) q0).below (C := w.heap.size) (by omega) HB.out.size))
    simp only [putA, putC, Nat.zero_add, Nat.reduceAdd] at hwq
    obtain ⟨_, ⟨y1, y2, y3, y4, y5, y6, y7, y8, y9⟩, _⟩ := HQ0.out
    obtain ⟨_, ⟨z1, z2, z3, z4, z5, z6, z7, z8, z9⟩, zf⟩ := HZ.out
    dsimp only at z1 z2 z3 z4 z5 z6 z7 z8 z9
    go_wp2
    rw [← hwq]
    clear y1 y2 y3 y4 y5 y6 y7 y8 y9
    clear z1 z2 z3 z4 z5 z6 z7 z8 z9 zf hwq
    obtain ⟨_, ⟨k1, k2, k3, k4, k5, k6, k7, k8, k9⟩, _⟩ := Z.out
    exact bodyPost_ret (v := attV q0) (by simp [results, Tryd.results31, go_sem, k1, k2, k3, k4, k5, k6, k7, k8, k9]) rfl ⟨by rw [HQE.out], HBQ.out⟩
  by_cases x38 : x0 = 38
  · subst x38
    clear x4
    by_cases hk : x1 = 2 ∧ n = 6
    · obtain ⟨rfl, hk6⟩ := hk
      subst hk6
      have HS := Lib.hid (show severalM a L = setC2 38 a (coloredM 2 (L.drop 3)) by rw [sev_38 (by rw [← HN.out]; exact h2) HX0.out, within_all HX1.out HN.out.symm])
      skip
      obtain ⟨q0, hq0⟩ : ∃ q0, q0 = severalM a L := ⟨_, rfl⟩
      have HQE := Lib.hid hq0
      obtain ⟨sa, hsl, hsn⟩ := slice_from g o 6 c 3 (by omega) hc
      have hlk : (L.drop 3).length ≤ 1000 := by rw [List.length_drop, ← HN.out]; omega
      have s1 : ∀ w, (Instr.sliceAt 50 (.slice (some ⟨g, o, none⟩) 6 c) (some (.int .i64 3)) none none).run Tryd.prog w = .ok (.slice sa 3 (c - 3)) w := hsl
      clear hsl
      have HK := Lib.hid (show ∀ W, Below w0.heap.size w0 W → (fun w' => w'.cell? ⟨w.heap.size, 0, none⟩ = some (.int .u8 a.fg.k) ∧ w'.cell? ⟨w.heap.size, 1, none⟩ = some (.int .u8 a.fg.r) ∧ w'.cell? ⟨w.heap.size, 2, none⟩ = some (.int .u8 a.fg.g) ∧ w'.cell? ⟨w.heap.size, 3, none⟩ = some (.int .u8 a.fg.b) ∧ w'.cell? ⟨w.heap.size, 4, none⟩ = some (.int .u8 a.bg.k) ∧ w'.cell? ⟨w.heap.size, 5, none⟩ = some (.int .u8 a.bg.r) ∧ w'.cell? ⟨w.heap.size, 6, none⟩ = some (.int .u8 a.bg.g) ∧ w'.cell? ⟨w.heap.size, 7, none⟩ = some (.int .u8 a.bg.b) ∧ w'.cell? ⟨w.heap.size, 8, none⟩ = some (.int .u16 (a.fl : Nat)) ∧ w'.cell? ⟨g, o, none⟩ = some (.int .i64 38) ∧ w'.cell? ⟨g, o + 1, none⟩ = some (.int .i64 2)) W from fun W hb => by
        obtain ⟨y0, ⟨y1, y2, y3, y4, y5, y6, y7, y8, y9⟩, _⟩ := HA.out
        exact ⟨(hb.cell (p := ⟨w.heap.size, 0, none⟩) y0).trans y1, (hb.cell (p := ⟨w.heap.size, 1, none⟩) y0).trans y2, (hb.cell (p := ⟨w.heap.size, 2, none⟩) y0).trans y3, (hb.cell (p := ⟨w.heap.size, 3, none⟩) y0).trans y4, (hb.cell (p := ⟨w.heap.size, 4, none⟩) y0).trans y5, (hb.cell (p := ⟨w.heap.size, 5, none⟩) y0).trans y6, (hb.cell (p := ⟨w.heap.size, 6, none⟩) y0).trans y7, (hb.cell (p := ⟨w.heap.size, 7, none⟩) y0).trans y8, (hb.cell (p := ⟨w.heap.size, 8, none⟩) y0).trans y9, (hb.cell (p := ⟨g, o, none⟩) HGW.out).trans p0, (hb.cell (p := ⟨g, o + 1, none⟩) HGW.out).trans p1⟩)
      have HKP := Lib.hid (show ∀ W, Below w0.heap.size w0 W → ∀ W', But (w.heap.size + 1) W W' → (fun w' => w'.cell? ⟨w.heap.size, 0, none⟩ = some (.int .u8 a.fg.k) ∧ w'.cell? ⟨w.heap.size, 1, none⟩ = some (.int .u8 a.fg.r) ∧ w'.cell? ⟨w.heap.size, 2, none⟩ = some (.int .u8 a.fg.g) ∧ w'.cell? ⟨w.heap.size, 3, none⟩ = some (.int .u8 a.fg.b) ∧ w'.cell? ⟨w.heap.size, 4, none⟩ = some (.int .u8 a.bg.k) ∧ w'.cell? ⟨w.heap.size, 5, none⟩ = some (.int .u8 a.bg.r) ∧ w'.cell? ⟨w.heap.size, 6, none⟩ = some (.int .u8 a.bg.g) ∧ w'.cell? ⟨w.heap.size, 7, none⟩ = some (.int .u8 a.bg.b) ∧ w'.cell? ⟨w.heap.size, 8, none⟩ = some (.int .u16 (a.fl : Nat)) ∧ w'.cell? ⟨g, o, none⟩ = some (.int .i64 38) ∧ w'.cell? ⟨g, o + 1, none⟩ = some (.int .i64 2)) W' from fun W hb W' hb' => by
        have y0 := HA.out.1
        have hs := HK.out W hb
        have b1 : W'.heap[w.heap.size]? = W.heap[w.heap.size]? := hb'.block _ (by have := hb.size; omega) (by simp)
        have b2 : W'.heap[g]? = W.heap[g]? := hb'.block _ (by have := hb.size; have := HGW.out; omega) (by simp; have := HGB.out; omega)
        have c1 : ∀ i, W'.cell? ⟨w.heap.size, i, none⟩ = W.cell? ⟨w.heap.size, i, none⟩ := fun i => World.cell?_of_block b1
        have c2 : ∀ i, W'.cell? ⟨g, i, none⟩ = W.cell? ⟨g, i, none⟩ := fun i => World.cell?_of_block b2
        obtain ⟨s1, s2, s3, s4, s5, s6, s7, s8, s9, t1, t2⟩ := hs
        exact ⟨(c1 0).trans s1, (c1 1).trans s2, (c1 2).trans s3, (c1 3).trans s4, (c1 4).trans s5, (c1 5).trans s6, (c1 6).trans s7, (c1 7).trans s8, (c1 8).trans s9, (c2 _).trans t1, (c2 _).trans t2⟩)
      dsimp only at HK HKP
      obtain ⟨_, ⟨y1, y2, y3, y4, y5, y6, y7, y8, y9⟩, _⟩ := HA.out
      go_upto_region 12 with (fail)
      clear y1 y2 y3 y4 y5 y6 y7 y8 y9
      refine wp_region_held_drew (S := fun w' => w'.cell? ⟨w.heap.size, 0, none⟩ = some (.int .u8 a.fg.k) ∧ w'.cell? ⟨w.heap.size, 1, none⟩ = some (.int .u8 a.fg.r) ∧ w'.cell? ⟨w.heap.size, 2, none⟩ = some (.int .u8 a.fg.g) ∧ w'.cell? ⟨w.heap.size, 3, none⟩ = some (.int .u8 a.fg.b) ∧ w'.cell? ⟨w.heap.size, 4, none⟩ = some (.int .u8 a.bg.k) ∧ w'.cell? ⟨w.heap.size, 5, none⟩ = some (.int .u8 a.bg.r) ∧ w'.cell? ⟨w.heap.size, 6, none⟩ = some (.int .u8 a.bg.g) ∧ w'.cell? ⟨w.heap.size, 7, none⟩ = some (.int .u8 a.bg.b) ∧ w'.cell? ⟨w.heap.size, 8, none⟩ = some (.int .u16 (a.fl : Nat)) ∧ w'.cell? ⟨g, o, none⟩ = some (.int .i64 38) ∧ w'.cell? ⟨g, o + 1, none⟩ = some (.int .i64 2)) (by kernel_rfl) ?_ (fun hHeld => ?_)
      · exact HK.out _ ⟨rfl, rfl, rfl, Nat.le_refl _, fun _ _ => rfl⟩
      obtain ⟨u0, hu0⟩ : ∃ u0, u0 = w0.drew := ⟨_, rfl⟩
      have bd : Below w0.heap.size w0 u0 := by rw [hu0]; exact ⟨rfl, rfl, rfl, Nat.le_refl _, fun _ _ => rfl⟩
      replace hHeld := HK.out _ bd
      rw [← hu0]
      clear hu0
      have CS := Lib.hid (show Calls Tryd.prog 33 #[attV a, .int .i64 38, .int .i64 2, .slice sa 3 (c - 3)] u0 (SimOut u0 q0) by rw [hq0, HS.out]; exact rcolored_any u0 X _ (L.drop 3) a 38 2 (hsn u0 X L (HR.out.below bd)) hlk)
      replace HZ := Lib.hid (HZ.out.below bd)
      replace HB := Lib.hid (HB.out.trans (bd.mono HB.out.size))
      clear hq0 hsn p0 p1 hlk
      refine take_at (i := 0) (v := ?_) rfl (by kernel_rfl) (by kernel_rfl) (by kernel_rfl) (fun _ _ _ h => h) (by kernel_rfl) (by assumption) ?_ ?_
      rotate_left
      · (intro w hSw; (try dsimp only at hSw); go_simp; try with_reducible rfl)
      simp only [Act.put, List.setIfInBounds_toArray, List.set_cons_zero, List.set_cons_succ]
      refine take_at (i := 1) (v := ?_) rfl (by kernel_rfl) (by kernel_rfl) (by kernel_rfl) (fun _ _ _ h => h) (by kernel_rfl) (by assumption) ?_ ?_
      rotate_left
      · (intro w hSw; (try dsimp only at hSw); go_simp; try with_reducible rfl)
      simp only [Act.put, List.setIfInBounds_toArray, List.set_cons_zero, List.set_cons_succ]
      refine take_at (i := 2) (v := ?_) rfl (by kernel_rfl) (by kernel_rfl) (by kernel_rfl) (fun _ _ _ h => h) (by kernel_rfl) (by assumption) ?_ ?_
      rotate_left
      · (intro w hSw; (try dsimp only at hSw); go_simp; try with_reducible rfl)
      simp only [Act.put, List.setIfInBounds_toArray, List.set_cons_zero, List.set_cons_succ]
      refine take_at (i := 3) (v := ?_) rfl (by kernel_rfl) (by kernel_rfl) (by kernel_rfl) (fun _ _ _ h => h) (by kernel_rfl) (by assumption) ?_ ?_
      rotate_left
      · (intro w hSw; (try dsimp only at hSw); go_simp; try with_reducible rfl)
      simp only [Act.put, List.setIfInBounds_toArray, List.set_cons_zero, List.set_cons_succ]
      refine take_at (i := 4) (v := ?_) rfl (by kernel_rfl) (by kernel_rfl) (by kernel_rfl) (fun _ _ _ h => h) (by kernel_rfl) (by assumption) ?_ ?_
      rotate_left
      · (intro w hSw; (try dsimp only at hSw); go_simp; try with_reducible rfl)
      simp only [Act.put, List.setIfInBounds_toArray, List.set_cons_zero, List.set_cons_succ]
      refine take_at (i := 5) (v := ?_) rfl (by kernel_rfl) (by kernel_rfl) (by kernel_rfl) (fun _ _ _ h => h) (by kernel_rfl) (by assumption) ?_ ?_
      rotate_left
      · (intro w hSw; (try dsimp only at hSw); go_simp; try with_reducible rfl)
      simp only [Act.put, List.setIfInBounds_toArray, List.set_cons_zero, List.set_cons_succ]
      refine do_at (i := 6) rfl (by kernel_rfl) (by kernel_rfl) (fun K hK => ?_)
      go_simp
      refine CS.out.mono ?_
      rintro e w1 ⟨rfl, bb⟩
      have HZ1 := Lib.hid (HZ.out.below bb)
      have HB1 := Lib.hid (HB.out.trans (bb.mono HB.out.size))
      have HK1 := Lib.hid (HK.out _ (bd.trans (bb.mono bd.size)))
      have bb1 := bd.trans (bb.mono bd.size)
      clear bb CS
      go_wp2_with fail
      refine hK.out _ _ ?_ (fun hHeld => ?_)
      · exact HK1.out
      clear hK K
      try simp only [Act.put, List.setIfInBounds_toArray, List.set_cons_zero, List.set_cons_succ]
      refine do_at (i := 7) rfl (by kernel_rfl) (by kernel_rfl) (fun K hK => ?_)
      obtain ⟨wq, hwq⟩ : ∃ wq, wq = putA w1 (w.heap.size + 1) q0 := ⟨_, rfl⟩
      have Z := Lib.hid (show AtAt wq (w.heap.size + 1) q0 by rw [hwq]; exact HZ1.out.putA q0)
      have HBQ := Lib.hid (show Below w.heap.size w wq by rw [hwq]; exact HB1.out.trans ((putA_but w1 (w.heap.size + 1) q0).below (C := w.heap.size) (by omega) HB1.out.size))
      have hbutq : But (w.heap.size + 1) w1 wq := by rw [hwq]; exact putA_but w1 _ q0
      simp only [putA, putC, Nat.zero_add, Nat.reduceAdd] at hwq
      have HKQ := Lib.hid (show (fun w' => w'.cell? ⟨w.heap.size, 0, none⟩ = some (.int .u8 a.fg.k) ∧ w'.cell? ⟨w.heap.size, 1, none⟩ = some (.int .u8 a.fg.r) ∧ w'.cell? ⟨w.heap.size, 2, none⟩ = some (.int .u8 a.fg.g) ∧ w'.cell? ⟨w.heap.size, 3, none⟩ = some (.int .u8 a.fg.b) ∧ w'.cell? ⟨w.heap.size, 4, none⟩ = some (.int .u8 a.bg.k) ∧ w'.cell? ⟨w.heap.size, 5, none⟩ = some (.int .u8 a.bg.r) ∧ w'.cell? ⟨w.heap.size, 6, none⟩ = some (.int .u8 a.bg.g) ∧ w'.cell? ⟨w.heap.size, 7, none⟩ = some (.int .u8 a.bg.b) ∧ w'.cell? ⟨w.heap.size, 8, none⟩ = some (.int .u16 (a.fl : Nat)) ∧ w'.cell? ⟨g, o, none⟩ = some (.int .i64 38) ∧ w'.cell? ⟨g, o + 1, none⟩ = some (.int .i64 2)) wq from HKP.out w1 bb1 wq hbutq)
      obtain ⟨_, ⟨z1, z2, z3, z4, z5, z6, z7, z8, z9⟩, zf⟩ := HZ1.out
      dsimp only at z1 z2 z3 z4 z5 z6 z7 z8 z9
      go_wp2_with fail
      rw [← hwq]
      clear z1 z2 z3 z4 z5 z6 z7 z8 z9 zf hwq
      refine hK.out _ _ ?_ (fun hHeld => ?_)
      · exact HKQ.out
      clear hK K
      try simp only [Act.put, List.setIfInBounds_toArray, List.set_cons_zero, List.set_cons_succ]
      refine wpAnyH_done (by kernel_rfl) ?_ _
      go_wp2
      obtain ⟨_, ⟨k1, k2, k3, k4, k5, k6, k7, k8, k9⟩, _⟩ := Z.out
      exact bodyPost_ret (v := attV q0) (by simp [results, Tryd.results31, go_sem, k1, k2, k3, k4, k5, k6, k7, k8, k9]) rfl ⟨by rw [HQE.out], HBQ.out⟩
    have HS := Lib.hid (show severalM a L = setC2 38 a (coloredM x1 (L.drop 2)) by rw [sev_38 (by rw [← HN.out]; exact h2) HX0.out, within_not (by rw [HX1.out, ← HN.out]; exact hk) (by rw [← HN.out]; exact h2), HX1.out])
    by_cases k2 : x1 = 2
    · have e6 : ((n : Int) == 6) = false := by simp; omega
      have e2 : (x1 == 2) = true := by simp [k2]
      clear hk k2
      have n0 : 0 < n := by omega
      have n1i : (1 : Int) < (n : Int) := by omega
      obtain ⟨q0, hq0⟩ : ∃ q0, q0 = severalM a L := ⟨_, rfl⟩
      have HQE := Lib.hid hq0
      obtain ⟨sa, hsl, hsn⟩ := slice_from g o n c 2 (by omega) hc
      have hlk : (L.drop 2).length ≤ 1000 := by rw [List.length_drop, ← HN.out]; omega
      have s1 : ∀ w, (Instr.sliceAt 50 (.slice (some ⟨g, o, none⟩) n c) (some (.int .i64 2)) none none).run Tryd.prog w = .ok (.slice sa (n - 2) (c - 2)) w := hsl
      clear hsl
      have HK := Lib.hid (show ∀ W, Below w0.heap.size w0 W → (fun w' => w'.cell? ⟨w.heap.size, 0, none⟩ = some (.int .u8 a.fg.k) ∧ w'.cell? ⟨w.heap.size, 1, none⟩ = some (.int .u8 a.fg.r) ∧ w'.cell? ⟨w.heap.size, 2, none⟩ = some (.int .u8 a.fg.g) ∧ w'.cell? ⟨w.heap.size, 3, none⟩ = some (.int .u8 a.fg.b) ∧ w'.cell? ⟨w.heap.size, 4, none⟩ = some (.int .u8 a.bg.k) ∧ w'.cell? ⟨w.heap.size, 5, none⟩ = some (.int .u8 a.bg.r) ∧ w'.cell? ⟨w.heap.size, 6, none⟩ = some (.int .u8 a.bg.g) ∧ w'.cell? ⟨w.heap.size, 7, none⟩ = some (.int .u8 a.bg.b) ∧ w'.cell? ⟨w.heap.size, 8, none⟩ = some (.int .u16 (a.fl : Nat)) ∧ w'.cell? ⟨g, o, none⟩ = some (.int .i64 38) ∧ w'.cell? ⟨g, o + 1, none⟩ = some (.int .i64 x1)) W from fun W hb => by
        obtain ⟨y0, ⟨y1, y2, y3, y4, y5, y6, y7, y8, y9⟩, _⟩ := HA.out
        exact ⟨(hb.cell (p := ⟨w.heap.size, 0, none⟩) y0).trans y1, (hb.cell (p := ⟨w.heap.size, 1, none⟩) y0).trans y2, (hb.cell (p := ⟨w.heap.size, 2, none⟩) y0).trans y3, (hb.cell (p := ⟨w.heap.size, 3, none⟩) y0).trans y4, (hb.cell (p := ⟨w.heap.size, 4, none⟩) y0).trans y5, (hb.cell (p := ⟨w.heap.size, 5, none⟩) y0).trans y6, (hb.cell (p := ⟨w.heap.size, 6, none⟩) y0).trans y7, (hb.cell (p := ⟨w.heap.size, 7, none⟩) y0).trans y8, (hb.cell (p := ⟨w.heap.size, 8, none⟩) y0).trans y9, (hb.cell (p := ⟨g, o, none⟩) HGW.out).trans p0, (hb.cell (p := ⟨g, o + 1, none⟩) HGW.out).trans p1⟩)
      have HKP := Lib.hid (show ∀ W, Below w0.heap.size w0 W → ∀ W', But (w.heap.size + 1) W W' → (fun w' => w'.cell? ⟨w.heap.size, 0, none⟩ = some (.int .u8 a.fg.k) ∧ w'.cell? ⟨w.heap.size, 1, none⟩ = some (.int .u8 a.fg.r) ∧ w'.cell? ⟨w.heap.size, 2, none⟩ = some (.int .u8 a.fg.g) ∧ w'.cell? ⟨w.heap.size, 3, none⟩ = some (.int .u8 a.fg.b) ∧ w'.cell? ⟨w.heap.size, 4, none⟩ = some (.int .u8 a.bg.k) ∧ w'.cell? ⟨w.heap.size, 5, none⟩ = some (.int .u8 a.bg.r) ∧ w'.cell? ⟨w.heap.size, 6, none⟩ = some (.int .u8 a.bg.g) ∧ w'.cell? ⟨w.heap.size, 7, none⟩ = some (.int .u8 a.bg.b) ∧ w'.cell? ⟨w.heap.size, 8, none⟩ = some (.int .u16 (a.fl : Nat)) ∧ w'.cell? ⟨g, o, none⟩ = some (.int .i64 38) ∧ w'.cell? ⟨g, o + 1, none⟩ = some (.int .i64 x1)) W' from fun W hb W' hb' => by
        have y0 := HA.out.1
        have hs := HK.out W hb
        have b1 : W'.heap[w.heap.size]? = W.heap[w.heap.size]? := hb'.block _ (by have := hb.size; omega) (by simp)
        have b2 : W'.heap[g]? = W.heap[g]? := hb'.block _ (by have := hb.size; have := HGW.out; omega) (by simp; have := HGB.out; omega)
        have c1 : ∀ i, W'.cell? ⟨w.heap.size, i, none⟩ = W.cell? ⟨w.heap.size, i, none⟩ := fun i => World.cell?_of_block b1
        have c2 : ∀ i, W'.cell? ⟨g, i, none⟩ = W.cell? ⟨g, i, none⟩ := fun i => World.cell?_of_block b2
        obtain ⟨s1, s2, s3, s4, s5, s6, s7, s8, s9, t1, t2⟩ := hs
        exact ⟨(c1 0).trans s1, (c1 1).trans s2, (c1 2).trans s3, (c1 3).trans s4, (c1 4).trans s5, (c1 5).trans s6, (c1 6).trans s7, (c1 7).trans s8, (c1 8).trans s9, (c2 _).trans t1, (c2 _).trans t2⟩)
      dsimp only at HK HKP
      obtain ⟨_, ⟨y1, y2, y3, y4, y5, y6, y7, y8, y9⟩, _⟩ := HA.out
      go_upto_region 13 with (fail)
      clear y1 y2 y3 y4 y5 y6 y7 y8 y9
      refine wp_region_held_drew (S := fun w' => w'.cell? ⟨w.heap.size, 0, none⟩ = some (.int .u8 a.fg.k) ∧ w'.cell? ⟨w.heap.size, 1, none⟩ = some (.int .u8 a.fg.r) ∧ w'.cell? ⟨w.heap.size, 2, none⟩ = some (.int .u8 a.fg.g) ∧ w'.cell? ⟨w.heap.size, 3, none⟩ = some (.int .u8 a.fg.b) ∧ w'.cell? ⟨w.heap.size, 4, none⟩ = some (.int .u8 a.bg.k) ∧ w'.cell? ⟨w.heap.size, 5, none⟩ = some (.int .u8 a.bg.r) ∧ w'.cell? ⟨w.heap.size, 6, none⟩ = some (.int .u8 a.bg.g) ∧ w'.cell? ⟨w.heap.size, 7, none⟩ = some (.int .u8 a.bg.b) ∧ w'.cell? ⟨w.heap.size, 8, none⟩ = some (.int .u16 (a.fl : Nat)) ∧ w'.cell? ⟨g, o, none⟩ = some (.int .i64 38) ∧ w'.cell? ⟨g, o + 1, none⟩ = some (.int .i64 x1)) (by kernel_rfl) ?_ (fun hHeld => ?_)
      · exact HK.out _ ⟨rfl, rfl, rfl, Nat.le_refl _, fun _ _ => rfl⟩
      obtain ⟨u0, hu0⟩ : ∃ u0, u0 = w0.drew := ⟨_, rfl⟩
      have bd : Below w0.heap.size w0 u0 := by rw [hu0]; exact ⟨rfl, rfl, rfl, Nat.le_refl _, fun _ _ => rfl⟩
      replace hHeld := HK.out _ bd
      rw [← hu0]
      clear hu0
      have CS := Lib.hid (show Calls Tryd.prog 33 #[attV a, .int .i64 38, .int .i64 x1, .slice sa (n - 2) (c - 2)] u0 (SimOut u0 q0) by rw [hq0, HS.out]; exact rcolored_any u0 X _ (L.drop 2) a 38 x1 (hsn u0 X L (HR.out.below bd)) hlk)
      replace HZ := Lib.hid (HZ.out.below bd)
      replace HB := Lib.hid (HB.out.trans (bd.mono HB.out.size))
      clear hq0 hsn p0 p1 hlk
      refine take_at (i := 0) (v := ?_) rfl (by kernel_rfl) (by kernel_rfl) (by kernel_rfl) (fun _ _ _ h => h) (by kernel_rfl) (by assumption) ?_ ?_
      rotate_left
      · (intro w hSw; (try dsimp only at hSw); go_simp; try with_reducible rfl)
      simp only [Act.put, List.setIfInBounds_toArray, List.set_cons_zero, List.set_cons_succ]
      refine take_at (i := 1) (v := ?_) rfl (by kernel_rfl) (by kernel_rfl) (by kernel_rfl) (fun _ _ _ h => h) (by kernel_rfl) (by assumption) ?_ ?_
      rotate_left
      · (intro w hSw; (try dsimp only at hSw); go_simp; try with_reducible rfl)
      simp only [Act.put, List.setIfInBounds_toArray, List.set_cons_zero, List.set_cons_succ]
      refine take_at (i := 2) (v := ?_) rfl (by kernel_rfl) (by kernel_rfl) (by kernel_rfl) (fun _ _ _ h => h) (by kernel_rfl) (by assumption) ?_ ?_
      rotate_left
      · (intro w hSw; (try dsimp only at hSw); go_simp; try with_reducible rfl)
      simp only [Act.put, List.setIfInBounds_toArray, List.set_cons_zero, List.set_cons_succ]
      refine take_at (i := 3) (v := ?_) rfl (by kernel_rfl) (by kernel_rfl) (by kernel_rfl) (fun _ _ _ h => h) (by kernel_rfl) (by assumption) ?_ ?_
      rotate_left
      · (intro w hSw; (try dsimp only at hSw); go_simp; try with_reducible rfl)
      simp only [Act.put, List.setIfInBounds_toArray, List.set_cons_zero, List.set_cons_succ]
      refine take_at (i := 4) (v := ?_) rfl (by kernel_rfl) (by kernel_rfl) (by kernel_rfl) (fun _ _ _ h => h) (by kernel_rfl) (by assumption) ?_ ?_
      rotate_left
      · (intro w hSw; (try dsimp only at hSw); go_simp; try with_reducible rfl)
      simp only [Act.put, List.setIfInBounds_toArray, List.set_cons_zero, List.set_cons_succ]
      refine take_at (i := 5) (v := ?_) rfl (by kernel_rfl) (by kernel_rfl) (by kernel_rfl) (fun _ _ _ h => h) (by kernel_rfl) (by assumption) ?_ ?_
      rotate_left
      · (intro w hSw; (try dsimp only at hSw); go_simp; try with_reducible rfl)
      simp only [Act.put, List.setIfInBounds_toArray, List.set_cons_zero, List.set_cons_succ]
      refine take_at (i := 6) (v := ?_) rfl (by kernel_rfl) (by kernel_rfl) (by kernel_rfl) (fun _ _ _ h => h) (by kernel_rfl) (by assumption) ?_ ?_
      rotate_left
      · (intro w hSw; (try dsimp only at hSw); go_simp; try with_reducible rfl)
      simp only [Act.put, List.setIfInBounds_toArray, List.set_cons_zero, List.set_cons_succ]
      refine take_at (i := 7) (v := ?_) rfl (by kernel_rfl) (by kernel_rfl) (by kernel_rfl) (fun _ _ _ h => h) (by kernel_rfl) (by assumption) ?_ ?_
      rotate_left
      · (intro w hSw; (try dsimp only at hSw); go_simp; try with_reducible rfl)
      simp only [Act.put, List.setIfInBounds_toArray, List.set_cons_zero, List.set_cons_succ]
      refine take_at (i := 8) (v := ?_) rfl (by kernel_rfl) (by kernel_rfl) (by kernel_rfl) (fun _ _ _ h => h) (by kernel_rfl) (by assumption) ?_ ?_
      rotate_left
      · (intro w hSw; (try dsimp only at hSw); go_simp; try with_reducible rfl)
      simp only [Act.put, List.setIfInBounds_toArray, List.set_cons_zero, List.set_cons_succ]
      refine do_at (i := 9) rfl (by kernel_rfl) (by kernel_rfl) (fun K hK => ?_)
      go_simp
      refine CS.out.mono ?_
      rintro e w1 ⟨rfl, bb⟩
      have HZ1 := Lib.hid (HZ.out.below bb)
      have HB1 := Lib.hid (HB.out.trans (bb.mono HB.out.size))
      have HK1 := Lib.hid (HK.out _ (bd.trans (bb.mono bd.size)))
      have bb1 := bd.trans (bb.mono bd.size)
      clear bb CS
      go_wp2_with fail
      refine hK.out _ _ ?_ (fun hHeld => ?_)
      · exact HK1.out
      clear hK K
      try simp only [Act.put, List.setIfInBounds_toArray, List.set_cons_zero, List.set_cons_succ]
      refine do_at (i := 10) rfl (by kernel_rfl) (by kernel_rfl) (fun K hK => ?_)
      obtain ⟨wq, hwq⟩ : ∃ wq, wq = putA w1 (w.heap.size + 1) q0 := ⟨_, rfl⟩
      have Z := Lib.hid (show AtAt wq (w.heap.size + 1) q0 by rw [hwq]; exact HZ1.out.putA q0)
      have HBQ := Lib.hid (show Below w.heap.size w wq by rw [hwq]; exact HB1.out.trans ((putA_but w1 (w.heap.size + 1) q0).below (C := w.heap.size) (by omega) HB1.out.size))
      have hbutq : But (w.heap.size + 1) w1 wq := by rw [hwq]; exact putA_but w1 _ q0
      simp only [putA, putC, Nat.zero_add, Nat.reduceAdd] at hwq
      have HKQ := Lib.hid (show (fun w' => w'.cell? ⟨w.heap.size, 0, none⟩ = some (.int .u8 a.fg.k) ∧ w'.cell? ⟨w.heap.size, 1, none⟩ = some (.int .u8 a.fg.r) ∧ w'.cell? ⟨w.heap.size, 2, none⟩ = some (.int .u8 a.fg.g) ∧ w'.cell? ⟨w.heap.size, 3, none⟩ = some (.int .u8 a.fg.b) ∧ w'.cell? ⟨w.heap.size, 4, none⟩ = some (.int .u8 a.bg.k) ∧ w'.cell? ⟨w.heap.size, 5, none⟩ = some (.int .u8 a.bg.r) ∧ w'.cell? ⟨w.heap.size, 6, none⟩ = some (.int .u8 a.bg.g) ∧ w'.cell? ⟨w.heap.size, 7, none⟩ = some (.int .u8 a.bg.b) ∧ w'.cell? ⟨w.heap.size, 8, none⟩ = some (.int .u16 (a.fl : Nat)) ∧ w'.cell? ⟨g, o, none⟩ = some (.int .i64 38) ∧ w'.cell? ⟨g, o + 1, none⟩ = some (.int .i64 x1)) wq from HKP.out w1 bb1 wq hbutq)
      obtain ⟨_, ⟨z1, z2, z3, z4, z5, z6, z7, z8, z9⟩, zf⟩ := HZ1.out
      dsimp only at z1 z2 z3 z4 z5 z6 z7 z8 z9
      go_wp2_with fail
      rw [← hwq]
      clear z1 z2 z3 z4 z5 z6 z7 z8 z9 zf hwq
      refine hK.out _ _ ?_ (fun hHeld => ?_)
      · exact HKQ.out
      clear hK K
      try simp only [Act.put, List.setIfInBounds_toArray, List.set_cons_zero, List.set_cons_succ]
      refine wpAnyH_done (by kernel_rfl) ?_ _
      go_wp2
      obtain ⟨_, ⟨k1, k2, k3, k4, k5, k6, k7, k8, k9⟩, _⟩ := Z.out
      exact bodyPost_ret (v := attV q0) (by simp [results, Tryd.results31, go_sem, k1, k2, k3, k4, k5, k6, k7, k8, k9]) rfl ⟨by rw [HQE.out], HBQ.out⟩
    · have e2 : (x1 == 2) = false := by simp [k2]
      clear hk k2
      have n0 : 0 < n := by omega
      have n1i : (1 : Int) < (n : Int) := by omega
      obtain ⟨q0, hq0⟩ : ∃ q0, q0 = severalM a L := ⟨_, rfl⟩
      have HQE := Lib.hid hq0
      obtain ⟨sa, hsl, hsn⟩ := slice_from g o n c 2 (by omega) hc
      have hlk : (L.drop 2).length ≤ 1000 := by rw [List.length_drop, ← HN.out]; omega
      have s1 : ∀ w, (Instr.sliceAt 50 (.slice (some ⟨g, o, none⟩) n c) (some (.int .i64 2)) none none).run Tryd.prog w = .ok (.slice sa (n - 2) (c - 2)) w := hsl
      clear hsl
      have HK := Lib.hid (show ∀ W, Below w0.heap.size w0 W → (fun w' => w'.cell? ⟨w.heap.size, 0, none⟩ = some (.int .u8 a.fg.k) ∧ w'.cell? ⟨w.heap.size, 1, none⟩ = some (.int .u8 a.fg.r) ∧ w'.cell? ⟨w.heap.size, 2, none⟩ = some (.int .u8 a.fg.g) ∧ w'.cell? ⟨w.heap.size, 3, none⟩ = some (.int .u8 a.fg.b) ∧ w'.cell? ⟨w.heap.size, 4, none⟩ = some (.int .u8 a.bg.k) ∧ w'.cell? ⟨w.heap.size, 5, none⟩ = some (.int .u8 a.bg.r) ∧ w'.cell? ⟨w.heap.size, 6, none⟩ = some (.int .u8 a.bg.g) ∧ w'.cell? ⟨w.heap.size, 7, none⟩ = some (.int .u8 a.bg.b) ∧ w'.cell? ⟨w.heap.size, 8, none⟩ = some (.int .u16 (a.fl : Nat)) ∧ w'.cell? ⟨g, o, none⟩ = some (.int .i64 38) ∧ w'.cell? ⟨g, o + 1, none⟩ = some (.int .i64 x1)) W from fun W hb => by
        obtain ⟨y0, ⟨y1, y2, y3, y4, y5, y6, y7, y8, y9⟩, _⟩ := HA.out
        exact ⟨(hb.cell (p := ⟨w.heap.size, 0, none⟩) y0).trans y1, (hb.cell (p := ⟨w.heap.size, 1, none⟩) y0).trans y2, (hb.cell (p := ⟨w.heap.size, 2, none⟩) y0).trans y3, (hb.cell (p := ⟨w.heap.size, 3, none⟩) y0).trans y4, (hb.cell (p := ⟨w.heap.size, 4, none⟩) y0).trans y5, (hb.cell (p := ⟨w.heap.size, 5, none⟩) y0).trans y6, (hb.cell (p := ⟨w.heap.size, 6, none⟩) y0).trans y7, (hb.cell (p := ⟨w.heap.size, 7, none⟩) y0).trans y8, (hb.cell (p := ⟨w.heap.size, 8, none⟩) y0).trans y9, (hb.cell (p := ⟨g, o, none⟩) HGW.out).trans p0, (hb.cell (p := ⟨g, o + 1, none⟩) HGW.out).trans p1⟩)
      have HKP := Lib.hid (show ∀ W, Below w0.heap.size w0 W → ∀ W', But (w.heap.size + 1) W W' → (fun w' => w'.cell? ⟨w.heap.size, 0, none⟩ = some (.int .u8 a.fg.k) ∧ w'.cell? ⟨w.heap.size, 1, none⟩ = some (.int .u8 a.fg.r) ∧ w'.cell? ⟨w.heap.size, 2, none⟩ = some (.int .u8 a.fg.g) ∧ w'.cell? ⟨w.heap.size, 3, none⟩ = some (.int .u8 a.fg.b) ∧ w'.cell? ⟨w.heap.size, 4, none⟩ = some (.int .u8 a.bg.k) ∧ w'.cell? ⟨w.heap.size, 5, none⟩ = some (.int .u8 a.bg.r) ∧ w'.cell? ⟨w.heap.size, 6, none⟩ = some (.int .u8 a.bg.g) ∧ w'.cell? ⟨w.heap.size, 7, none⟩ = some (.int .u8 a.bg.b) ∧ w'.cell? ⟨w.heap.size, 8, none⟩ = some (.int .u16 (a.fl : Nat)) ∧ w'.cell? ⟨g, o, none⟩ = some (.int .i64 38) ∧ w'.cell? ⟨g, o + 1, none⟩ = some (.int .i64 x1)) W' from fun W hb W' hb' => by
        have y0 := HA.out.1
        have hs := HK.out W hb
        have b1 : W'.heap[w.heap.size]? = W.heap[w.heap.size]? := hb'.block _ (by have := hb.size; omega) (by simp)
        have b2 : W'.heap[g]? = W.heap[g]? := hb'.block _ (by have := hb.size; have := HGW.out; omega) (by simp; have := HGB.out; omega)
        have c1 : ∀ i, W'.cell? ⟨w.heap.size, i, none⟩ = W.cell? ⟨w.heap.size, i, none⟩ := fun i => World.cell?_of_block b1
        have c2 : ∀ i, W'.cell? ⟨g, i, none⟩ = W.cell? ⟨g, i, none⟩ := fun i => World.cell?_of_block b2
        obtain ⟨s1, s2, s3, s4, s5, s6, s7, s8, s9, t1, t2⟩ := hs
        exact ⟨(c1 0).trans s1, (c1 1).trans s2, (c1 2).trans s3, (c1 3).trans s4, (c1 4).trans s5, (c1 5).trans s6, (c1 6).trans s7, (c1 7).trans s8, (c1 8).trans s9, (c2 _).trans t1, (c2 _).trans t2⟩)
      dsimp only at HK HKP
      obtain ⟨_, ⟨y1, y2, y3, y4, y5, y6, y7, y8, y9⟩, _⟩ := HA.out
      go_upto_region 13 with (fail)
      clear y1 y2 y3 y4 y5 y6 y7 y8 y9
      refine wp_region_held_drew (S := fun w' => w'.cell? ⟨w.heap.size, 0, none⟩ = some (.int .u8 a.fg.k) ∧ w'.cell? ⟨w.heap.size, 1, none⟩ = some (.int .u8 a.fg.r) ∧ w'.cell? ⟨w.heap.size, 2, none⟩ = some (.int .u8 a.fg.g) ∧ w'.cell? ⟨w.heap.size, 3, none⟩ = some (.int .u8 a.fg.b) ∧ w'.cell? ⟨w.heap.size, 4, none⟩ = some (.int .u8 a.bg.k) ∧ w'.cell? ⟨w.heap.size, 5, none⟩ = some (.int .u8 a.bg.r) ∧ w'.cell? ⟨w.heap.size, 6, none⟩ = some (.int .u8 a.bg.g) ∧ w'.cell? ⟨w.heap.size, 7, none⟩ = some (.int .u8 a.bg.b) ∧ w'.cell? ⟨w.heap.size, 8, none⟩ = some (.int .u16 (a.fl : Nat)) ∧ w'.cell? ⟨g, o, none⟩ = some (.int .i64 38) ∧ w'.cell? ⟨g, o + 1, none⟩ = some (.int .i64 x1)) (by kernel_rfl) ?_ (fun hHeld => ?_)
      · exact HK.out _ ⟨rfl, rfl, rfl, Nat.le_refl _, fun _ _ => rfl⟩
      obtain ⟨u0, hu0⟩ : ∃ u0, u0 = w0.drew := ⟨_, rfl⟩
      have bd : Below w0.heap.size w0 u0 := by rw [hu0]; exact ⟨rfl, rfl, rfl, Nat.le_refl _, fun _ _ => rfl⟩
      replace hHeld := HK.out _ bd
      rw [← hu0]
      clear hu0
      have CS := Lib.hid (show Calls Tryd.prog 33 #[attV a, .int .i64 38, .int .i64 x1, .slice sa (n - 2) (c - 2)] u0 (SimOut u0 q0) by rw [hq0, HS.out]; exact rcolored_any u0 X _ (L.drop 2) a 38 x1 (hsn u0 X L (HR.out.below bd)) hlk)
      replace HZ := Lib.hid (HZ.out.below bd)
      replace HB := Lib.hid (HB.out.trans (bd.mono HB.out.size))
      clear hq0 hsn p0 p1 hlk
      refine take_at (i := 0) (v := ?_) rfl (by kernel_rfl) (by kernel_rfl) (by kernel_rfl) (fun _ _ _ h => h) (by kernel_rfl) (by assumption) ?_ ?_
      rotate_left
      · (intro w hSw; (try dsimp only at hSw); go_simp; try with_reducible rfl)
      simp only [Act.put, List.setIfInBounds_toArray, List.set_cons_zero, List.set_cons_succ]
      refine take_at (i := 1) (v := ?_) rfl (by kernel_rfl) (by kernel_rfl) (by kernel_rfl) (fun _ _ _ h => h) (by kernel_rfl) (by assumption) ?_ ?_
      rotate_left
      · (intro w hSw; (try dsimp only at hSw); go_simp; try with_reducible rfl)
      simp only [Act.put, List.setIfInBounds_toArray, List.set_cons_zero, List.set_cons_succ]
      refine take_at (i := 2) (v := ?_) rfl (by kernel_rfl) (by kernel_rfl) (by kernel_rfl) (fun _ _ _ h => h) (by kernel_rfl) (by assumption) ?_ ?_
      rotate_left
      · (intro w hSw; (try dsimp only at hSw); go_simp; try with_reducible rfl)
      simp only [Act.put, List.setIfInBounds_toArray, List.set_cons_zero, List.set_cons_succ]
      refine take_at (i := 3) (v := ?_) rfl (by kernel_rfl) (by kernel_rfl) (by kernel_rfl) (fun _ _ _ h => h) (by kernel_rfl) (by assumption) ?_ ?_
      rotate_left
      · (intro w hSw; (try dsimp only at hSw); go_simp; try with_reducible rfl)
      simp only [Act.put, List.setIfInBounds_toArray, List.set_cons_zero, List.set_cons_succ]
      refine take_at (i := 4) (v := ?_) rfl (by kernel_rfl) (by kernel_rfl) (by kernel_rfl) (fun _ _ _ h => h) (by kernel_rfl) (by assumption) ?_ ?_
      rotate_left
      · (intro w hSw; (try dsimp only at hSw); go_simp; try with_reducible rfl)
      simp only [Act.put, List.setIfInBounds_toArray, List.set_cons_zero, List.set_cons_succ]
      refine take_at (i := 5) (v := ?_) rfl (by kernel_rfl) (by kernel_rfl) (by kernel_rfl) (fun _ _ _ h => h) (by kernel_rfl) (by assumption) ?_ ?_
      rotate_left
      · (intro w hSw; (try dsimp only at hSw); go_simp; try with_reducible rfl)
      simp only [Act.put, List.setIfInBounds_toArray, List.set_cons_zero, List.set_cons_succ]
      refine take_at (i := 6) (v := ?_) rfl (by kernel_rfl) (by kernel_rfl) (by kernel_rfl) (fun _ _ _ h => h) (by kernel_rfl) (by assumption) ?_ ?_
      rotate_left
      · (intro w hSw; (try dsimp only at hSw); go_simp; try with_reducible rfl)
      simp only [Act.put, List.setIfInBounds_toArray, List.set_cons_zero, List.set_cons_succ]
      refine take_at (i := 7) (v := ?_) rfl (by kernel_rfl) (by kernel_rfl) (by kernel_rfl) (fun _ _ _ h => h) (by kernel_rfl) (by assumption) ?_ ?_
      rotate_left
      · (intro w hSw; (try dsimp only at hSw); go_simp; try with_reducible rfl)
      simp only [Act.put, List.setIfInBounds_toArray, List.set_cons_zero, List.set_cons_succ]
      refine take_at (i := 8) (v := ?_) rfl (by kernel_rfl) (by kernel_rfl) (by kernel_rfl) (fun _ _ _ h => h) (by kernel_rfl) (by assumption) ?_ ?_
      rotate_left
      · (intro w hSw; (try dsimp only at hSw); go_simp; try with_reducible rfl)
      simp only [Act.put, List.setIfInBounds_toArray, List.set_cons_zero, List.set_cons_succ]
      refine do_at (i := 9) rfl (by kernel_rfl) (by kernel_rfl) (fun K hK => ?_)
      go_simp
      refine CS.out.mono ?_
      rintro e w1 ⟨rfl, bb⟩
      have HZ1 := Lib.hid (HZ.out.below bb)
      have HB1 := Lib.hid (HB.out.trans (bb.mono HB.out.size))
      have HK1 := Lib.hid (HK.out _ (bd.trans (bb.mono bd.size)))
      have bb1 := bd.trans (bb.mono bd.size)
      clear bb CS
      go_wp2_with fail
      refine hK.out _ _ ?_ (fun hHeld => ?_)
      · exact HK1.out
      clear hK K
      try simp only [Act.put, List.setIfInBounds_toArray, List.set_cons_zero, List.set_cons_succ]
      refine do_at (i := 10) rfl (by kernel_rfl) (by kernel_rfl) (fun K hK => ?_)
      obtain ⟨wq, hwq⟩ : ∃ wq, wq = putA w1 (w.heap.size + 1) q0 := ⟨_, rfl⟩
      have Z := Lib.hid (show AtAt wq (w.heap.size + 1) q0 by rw [hwq]; exact HZ1.out.putA q0)
      have HBQ := Lib.hid (show Below w.heap.size w wq by rw [hwq]; exact HB1.out.trans ((putA_but w1 (w.heap.size + 1) q0).below (C := w.heap.size) (by omega) HB1.out.size))
      have hbutq : But (w.heap.size + 1) w1 wq := by rw [hwq]; exact putA_but w1 _ q0
      simp only [putA, putC, Nat.zero_add, Nat.reduceAdd] at hwq
      have HKQ := Lib.hid (show (fun w' => w'.cell? ⟨w.heap.size, 0, none⟩ = some (.int .u8 a.fg.k) ∧ w'.cell? ⟨w.heap.size, 1, none⟩ = some (.int .u8 a.fg.r) ∧ w'.cell? ⟨w.heap.size, 2, none⟩ = some (.int .u8 a.fg.g) ∧ w'.cell? ⟨w.heap.size, 3, none⟩ = some (.int .u8 a.fg.b) ∧ w'.cell? ⟨w.heap.size, 4, none⟩ = some (.int .u8 a.bg.k) ∧ w'.cell? ⟨w.heap.size, 5, none⟩ = some (.int .u8 a.bg.r) ∧ w'.cell? ⟨w.heap.size, 6, none⟩ = some (.int .u8 a.bg.g) ∧ w'.cell? ⟨w.heap.size, 7, none⟩ = some (.int .u8 a.bg.b) ∧ w'.cell? ⟨w.heap.size, 8, none⟩ = some (.int .u16 (a.fl : Nat)) ∧ w'.cell? ⟨g, o, none⟩ = some (.int .i64 38) ∧ w'.cell? ⟨g, o + 1, none⟩ = some (.int .i64 x1)) wq from HKP.out w1 bb1 wq hbutq)
      obtain ⟨_, ⟨z1, z2, z3, z4, z5, z6, z7, z8, z9⟩, zf⟩ := HZ1.out
      dsimp only at z1 z2 z3 z4 z5 z6 z7 z8 z9
      go_wp2_with fail
      rw [← hwq]
      clear z1 z2 z3 z4 z5 z6 z7 z8 z9 zf hwq
      refine hK.out _ _ ?_ (fun hHeld => ?_)
      · exact HKQ.out
      clear hK K
      try simp only [Act.put, List.setIfInBounds_toArray, List.set_cons_zero, List.set_cons_succ]
      refine wpAnyH_done (by kernel_rfl) ?_ _
      go_wp2
      obtain ⟨_, ⟨k1, k2, k3, k4, k5, k6, k7, k8, k9⟩, _⟩ := Z.out
      exact bodyPost_ret (v := attV q0) (by simp [results, Tryd.results31, go_sem, k1, k2, k3, k4, k5, k6, k7, k8, k9]) rfl ⟨by rw [HQE.out], HBQ.out⟩
  by_cases x48 : x0 = 48
  · subst x48
    clear x4
    by_cases hk : x1 = 2 ∧ n = 6
    · obtain ⟨rfl, hk6⟩ := hk
      subst hk6
      have HS := Lib.hid (show severalM a L = setC2 48 a (coloredM 2 (L.drop 3)) by rw [sev_48 (by rw [← HN.out]; exact h2) HX0.out, within_all HX1.out HN.out.symm])
      skip
      obtain ⟨q0, hq0⟩ : ∃ q0, q0 = severalM a L := ⟨_, rfl⟩
      have HQE := Lib.hid hq0
      obtain ⟨sa, hsl, hsn⟩ := slice_from g o 6 c 3 (by omega) hc
      have hlk : (L.drop 3).length ≤ 1000 := by rw [List.length_drop, ← HN.out]; omega
      have s1 : ∀ w, (Instr.sliceAt 50 (.slice (some ⟨g, o, none⟩) 6 c) (some (.int .i64 3)) none none).run Tryd.prog w = .ok (.slice sa 3 (c - 3)) w := hsl
      clear hsl
      have HK := Lib.hid (show ∀ W, Below w0.heap.size w0 W → (fun w' => w'.cell? ⟨w.heap.size, 0, none⟩ = some (.int .u8 a.fg.k) ∧ w'.cell? ⟨w.heap.size, 1, none⟩ = some (.int .u8 a.fg.r) ∧ w'.cell? ⟨w.heap.size, 2, none⟩ = some (.int .u8 a.fg.g) ∧ w'.cell? ⟨w.heap.size, 3, none⟩ = some (.int .u8 a.fg.b) ∧ w'.cell? ⟨w.heap.size, 4, none⟩ = some (.int .u8 a.bg.k) ∧ w'.cell? ⟨w.heap.size, 5, none⟩ = some (.int .u8 a.bg.r) ∧ w'.cell? ⟨w.heap.size, 6, none⟩ = some (.int .u8 a.bg.g) ∧ w'.cell? ⟨w.heap.size, 7, none⟩ = some (.int .u8 a.bg.b) ∧ w'.cell? ⟨w.heap.size, 8, none⟩ = some (.int .u16 (a.fl : Nat)) ∧ w'.cell? ⟨g, o, none⟩ = some (.int .i64 48) ∧ w'.cell? ⟨g, o + 1, none⟩ = some (.int .i64 2)) W from fun W hb => by
        obtain ⟨y0, ⟨y1, y2, y3, y4, y5, y6, y7, y8, y9⟩, _⟩ := HA.out
        exact ⟨(hb.cell (p := ⟨w.heap.size, 0, none⟩) y0).trans y1, (hb.cell (p := ⟨w.heap.size, 1, none⟩) y0).trans y2, (hb.cell (p := ⟨w.heap.size, 2, none⟩) y0).trans y3, (hb.cell (p := ⟨w.heap.size, 3, none⟩) y0).trans y4, (hb.cell (p := ⟨w.heap.size, 4, none⟩) y0).trans y5, (hb.cell (p := ⟨w.heap.size, 5, none⟩) y0).trans y6, (hb.cell (p := ⟨w.heap.size, 6, none⟩) y0).trans y7, (hb.cell (p := ⟨w.heap.size, 7, none⟩) y0).trans y8, (hb.cell (p := ⟨w.heap.size, 8, none⟩) y0).trans y9, (hb.cell (p := ⟨g, o, none⟩) HGW.out).trans p0, (hb.cell (p := ⟨g, o + 1, none⟩) HGW.out).trans p1⟩)
      have HKP := Lib.hid (show ∀ W, Below w0.heap.size w0 W → ∀ W', But (w.heap.size + 1) W W' → (fun w' => w'.cell? ⟨w.heap.size, 0, none⟩ = some (.int .u8 a.fg.k) ∧ w'.cell? ⟨w.heap.size, 1, none⟩ = some (.int .u8 a.fg.r) ∧ w'.cell? ⟨w.heap.size, 2, none⟩ = some (.int .u8 a.fg.g) ∧ w'.cell? ⟨w.heap.size, 3, none⟩ = some (.int .u8 a.fg.b) ∧ w'.cell? ⟨w.heap.size, 4, none⟩ = some (.int .u8 a.bg.k) ∧ w'.cell? ⟨w.heap.size, 5, none⟩ = some (.int .u8 a.bg.r) ∧ w'.cell? ⟨w.heap.size, 6, none⟩ = some (.int .u8 a.bg.g) ∧ w'.cell? ⟨w.heap.size, 7, none⟩ = some (.int .u8 a.bg.b) ∧ w'.cell? ⟨w.heap.size, 8, none⟩ = some (.int .u16 (a.fl : Nat)) ∧ w'.cell? ⟨g, o, none⟩ = some (.int .i64 48) ∧ w'.cell? ⟨g, o + 1, none⟩ = some (.int .i64 2)) W' from fun W hb W' hb' => by
        have y0 := HA.out.1
        have hs := HK.out W hb
        have b1 : W'.heap[w.heap.size]? = W.heap[w.heap.size]? := hb'.block _ (by have := hb.size; omega) (by simp)
        have b2 : W'.heap[g]? = W.heap[g]? := hb'.block _ (by have := hb.size; have := HGW.out; omega) (by simp; have := HGB.out; omega)
        have c1 : ∀ i, W'.cell? ⟨w.heap.size, i, none⟩ = W.cell? ⟨w.heap.size, i, none⟩ := fun i => World.cell?_of_block b1
        have c2 : ∀ i, W'.cell? ⟨g, i, none⟩ = W.cell? ⟨g, i, none⟩ := fun i => World.cell?_of_block b2
        obtain ⟨s1, s2, s3, s4, s5, s6, s7, s8, s9, t1, t2⟩ := hs
        exact ⟨(c1 0).trans s1, (c1 1).trans s2, (c1 2).trans s3, (c1 3).trans s4, (c1 4).trans s5, (c1 5).trans s6, (c1 6).trans s7, (c1 7).trans s8, (c1 8).trans s9, (c2 _).trans t1, (c2 _).trans t2⟩)
      dsimp only at HK HKP
      obtain ⟨_, ⟨y1, y2, y3, y4, y5, y6, y7, y8, y9⟩, _⟩ := HA.out
      go_upto_region 12 with (fail)
      clear y1 y2 y3 y4 y5 y6 y7 y8 y9
      refine wp_region_held_drew (S := fun w' => w'.cell? ⟨w.heap.size, 0, none⟩ = some (.int .u8 a.fg.k) ∧ w'.cell? ⟨w.heap.size, 1, none⟩ = some (.int .u8 a.fg.r) ∧ w'.cell? ⟨w.heap.size, 2, none⟩ = some (.int .u8 a.fg.g) ∧ w'.cell? ⟨w.heap.size, 3, none⟩ = some (.int .u8 a.fg.b) ∧ w'.cell? ⟨w.heap.size, 4, none⟩ = some (.int .u8 a.bg.k) ∧ w'.cell? ⟨w.heap.size, 5, none⟩ = some (.int .u8 a.bg.r) ∧ w'.cell? ⟨w.heap.size, 6, none⟩ = some (.int .u8 a.bg.g) ∧ w'.cell? ⟨w.heap.size, 7, none⟩ = some (.int .u8 a.bg.b) ∧ w'.cell? ⟨w.heap.size, 8, none⟩ = some (.int .u16 (a.fl : Nat)) ∧ w'.cell? ⟨g, o, none⟩ = some (.int .i64 48) ∧ w'.cell? ⟨g, o + 1, none⟩ = some (.int .i64 2)) (by kernel_rfl) ?_ (fun hHeld => ?_)
      · exact HK.out _ ⟨rfl, rfl, rfl, Nat.le_refl _, fun _ _ => rfl⟩
      obtain ⟨u0, hu0⟩ : ∃ u0, u0 = w0.drew := ⟨_, rfl⟩
      have bd : Below w0.heap.size w0 u0 := by rw [hu0]; exact ⟨rfl, rfl, rfl, Nat.le_refl _, fun _ _ => rfl⟩
      replace hHeld := HK.out _ bd
      rw [← hu0]
      clear hu0
      have CS := Lib.hid (show Calls Tryd.prog 33 #[attV a, .int .i64 48, .int .i64 2, .slice sa 3 (c - 3)] u0 (SimOut u0 q0) by rw [hq0, HS.out]; exact rcolored_any u0 X _ (L.drop 3) a 48 2 (hsn u0 X L (HR.out.below bd)) hlk)
      replace HZ := Lib.hid (HZ.out.below bd)
      replace HB := Lib.hid (HB.out.trans (bd.mono HB.out.size))
      clear hq0 hsn p0 p1 hlk
      refine take_at (i := 0) (v := ?_) rfl (by kernel_rfl) (by kernel_rfl) (by kernel_rfl) (fun _ _ _ h => h) (by kernel_rfl) (by assumption) ?_ ?_
      rotate_left
      · (intro w hSw; (try dsimp only at hSw); go_simp; try with_reducible rfl)
      simp only [Act.put, List.setIfInBounds_toArray, List.set_cons_zero, List.set_cons_succ]
      refine take_at (i := 1) (v := ?_) rfl (by kernel_rfl) (by kernel_rfl) (by kernel_rfl) (fun _ _ _ h => h) (by kernel_rfl) (by assumption) ?_ ?_
      rotate_left
      · (intro w hSw; (try dsimp only at hSw); go_simp; try with_reducible rfl)
      simp only [Act.put, List.setIfInBounds_toArray, List.set_cons_zero, List.set_cons_succ]
      refine take_at (i := 2) (v := ?_) rfl (by kernel_rfl) (by kernel_rfl) (by kernel_rfl) (fun _ _ _ h => h) (by kernel_rfl) (by assumption) ?_ ?_
      rotate_left
      · (intro w hSw; (try dsimp only at hSw); go_simp; try with_reducible rfl)
      simp only [Act.put, List.setIfInBounds_toArray, List.set_cons_zero, List.set_cons_succ]
      refine take_at (i := 3) (v := ?_) rfl (by kernel_rfl) (by kernel_rfl) (by kernel_rfl) (fun _ _ _ h => h) (by kernel_rfl) (by assumption) ?_ ?_
      rotate_left
      · (intro w hSw; (try dsimp only at hSw); go_simp; try with_reducible rfl)
      simp only [Act.put, List.setIfInBounds_toArray, List.set_cons_zero, List.set_cons_succ]
      refine take_at (i := 4) (v := ?_) rfl (by kernel_rfl) (by kernel_rfl) (by kernel_rfl) (fun _ _ _ h => h) (by kernel_rfl) (by assumption) ?_ ?_
      rotate_left
      · (intro w hSw; (try dsimp only at hSw); go_simp; try with_reducible rfl)
      simp only [Act.put, List.setIfInBounds_toArray, List.set_cons_zero, List.set_cons_succ]
      refine take_at (i := 5) (v := ?_) rfl (by kernel_rfl) (by kernel_rfl) (by kernel_rfl) (fun _ _ _ h => h) (by kernel_rfl) (by assumption) ?_ ?_
      rotate_left
      · (intro w hSw; (try dsimp only at hSw); go_simp; try with_reducible rfl)
      simp only [Act.put, List.setIfInBounds_toArray, List.set_cons_zero, List.set_cons_succ]
      refine do_at (i := 6) rfl (by kernel_rfl) (by kernel_rfl) (fun K hK => ?_)
      go_simp
      refine CS.out.mono ?_
      rintro e w1 ⟨rfl, bb⟩
      have HZ1 := Lib.hid (HZ.out.below bb)
      have HB1 := Lib.hid (HB.out.trans (bb.mono HB.out.size))
      have HK1 := Lib.hid (HK.out _ (bd.trans (bb.mono bd.size)))
      have bb1 := bd.trans (bb.mono bd.size)
      clear bb CS
      go_wp2_with fail
      refine hK.out _ _ ?_ (fun hHeld => ?_)
      · exact HK1.out
      clear hK K
      try simp only [Act.put, List.setIfInBounds_toArray, List.set_cons_zero, List.set_cons_succ]
      refine do_at (i := 7) rfl (by kernel_rfl) (by kernel_rfl) (fun K hK => ?_)
      obtain ⟨wq, hwq⟩ : ∃ wq, wq = putA w1 (w.heap.size + 1) q0 := ⟨_, rfl⟩
      have Z := Lib.hid (show AtAt wq (w.heap.size + 1) q0 by rw [hwq]; exact HZ1.out.putA q0)
      have HBQ := Lib.hid (show Below w.heap.size w wq by rw [hwq]; exact HB1.out.trans ((putA_but w1 (w.heap.size + 1) q0).below (C := w.heap.size) (by omega) HB1.out.size))
      have hbutq : But (w.heap.size + 1) w1 wq := by rw [hwq]; exact putA_but w1 _ q0
      simp only [putA, putC, Nat.zero_add, Nat.reduceAdd] at hwq
      have HKQ := Lib.hid (show (fun w' => w'.cell? ⟨w.heap.size, 0, none⟩ = some (.int .u8 a.fg.k) ∧ w'.cell? ⟨w.heap.size, 1, none⟩ = some (.int .u8 a.fg.r) ∧ w'.cell? ⟨w.heap.size, 2, none⟩ = some (.int .u8 a.fg.g) ∧ w'.cell? ⟨w.heap.size, 3, none⟩ = some (.int .u8 a.fg.b) ∧ w'.cell? ⟨w.heap.size, 4, none⟩ = some (.int .u8 a.bg.k) ∧ w'.cell? ⟨w.heap.size, 5, none⟩ = some (.int .u8 a.bg.r) ∧ w'.cell? ⟨w.heap.size, 6, none⟩ = some (.int .u8 a.bg.g) ∧ w'.cell? ⟨w.heap.size, 7, none⟩ = some (.int .u8 a.bg.b) ∧ w'.cell? ⟨w.heap.size, 8, none⟩ = some (.int .u16 (a.fl : Nat)) ∧ w'.cell? ⟨g, o, none⟩ = some (.int .i64 48) ∧ w'.cell? ⟨g, o + 1, none⟩ = some (.int .i64 2)) wq from HKP.out w1 bb1 wq hbutq)
      obtain ⟨_, ⟨z1, z2, z3, z4, z5, z6, z7, z8, z9⟩, zf⟩ := HZ1.out
      dsimp only at z1 z2 z3 z4 z5 z6 z7 z8 z9
      go_wp2_with fail
      rw [← hwq]
      clear z1 z2 z3 z4 z5 z6 z7 z8 z9 zf hwq
      refine hK.out _ _ ?_ (fun hHeld => ?_)
      · exact HKQ.out
      clear hK K
      try simp only [Act.put, List.setIfInBounds_toArray, List.set_cons_zero, List.set_cons_succ]
      refine wpAnyH_done (by kernel_rfl) ?_ _
      go_wp2
      obtain ⟨_, ⟨k1, k2, k3, k4, k5, k6, k7, k8, k9⟩, _⟩ := Z.out
      exact bodyPost_ret (v := attV q0) (by simp [results, Tryd.results31, go_sem, k1, k2, k3, k4, k5, k6, k7, k8, k9]) rfl ⟨by rw [HQE.out], HBQ.out⟩
    have HS := Lib.hid (show severalM a L = setC2 48 a (coloredM x1 (L.drop 2)) by rw [sev_48 (by rw [← HN.out]; exact h2) HX0.out, within_not (by rw [HX1.out, ← HN.out]; exact hk) (by rw [← HN.out]; exact h2), HX1.out])
    by_cases k2 : x1 = 2
    · have e6 : ((n : Int) == 6) = false := by simp; omega
      have e2 : (x1 == 2) = true := by simp [k2]
      clear hk k2
      have n0 : 0 < n := by omega
      have n1i : (1 : Int) < (n : Int) := by omega
      obtain ⟨q0, hq0⟩ : ∃ q0, q0 = severalM a L := ⟨_, rfl⟩
      have HQE := Lib.hid hq0
      obtain ⟨sa, hsl, hsn⟩ := slice_from g o n c 2 (by omega) hc
      have hlk : (L.drop 2).length ≤ 1000 := by rw [List.length_drop, ← HN.out]; omega
      have s1 : ∀ w, (Instr.sliceAt 50 (.slice (some ⟨g, o, none⟩) n c) (some (.int .i64 2)) none none).run Tryd.prog w = .ok (.slice sa (n - 2) (c - 2)) w := hsl
      clear hsl
      have HK := Lib.hid (show ∀ W, Below w0.heap.size w0 W → (fun w' => w'.cell? ⟨w.heap.size, 0, none⟩ = some (.int .u8 a.fg.k) ∧ w'.cell? ⟨w.heap.size, 1, none⟩ = some (.int .u8 a.fg.r) ∧ w'.cell? ⟨w.heap.size, 2, none⟩ = some (.int .u8 a.fg.g) ∧ w'.cell? ⟨w.heap.size, 3, none⟩ = some (.int .u8 a.fg.b) ∧ w'.cell? ⟨w.heap.size, 4, none⟩ = some (.int .u8 a.bg.k) ∧ w'.cell? ⟨w.heap.size, 5, none⟩ = some (.int .u8 a.bg.r) ∧ w'.cell? ⟨w.heap.size, 6, none⟩ = some (.int .u8 a.bg.g) ∧ w'.cell? ⟨w.heap.size, 7, none⟩ = some (.int .u8 a.bg.b) ∧ w'.cell? ⟨w.heap.size, 8, none⟩ = some (.int .u16 (a.fl : Nat)) ∧ w'.cell? ⟨g, o, none⟩ = some (.int .i64 48) ∧ w'.cell? ⟨g, o + 1, none⟩ = some (.int .i64 x1)) W from fun W hb => by
        obtain ⟨y0, ⟨y1, y2, y3, y4, y5, y6, y7, y8, y9⟩, _⟩ := HA.out
        exact ⟨(hb.cell (p := ⟨w.heap.size, 0, none⟩) y0).trans y1, (hb.cell (p := ⟨w.heap.size, 1, none⟩) y0).trans y2, (hb.cell (p := ⟨w.heap.size, 2, none⟩) y0).trans y3, (hb.cell (p := ⟨w.heap.size, 3, none⟩) y0).trans y4, (hb.cell (p := ⟨w.heap.size, 4, none⟩) y0).trans y5, (hb.cell (p := ⟨w.heap.size, 5, none⟩) y0).trans y6, (hb.cell (p := ⟨w.heap.size, 6, none⟩) y0).trans y7, (hb.cell (p := ⟨w.heap.size, 7, none⟩) y0).trans y8, (hb.cell (p := ⟨w.heap.size, 8, none⟩) y0).trans y9, (hb.cell (p := ⟨g, o, none⟩) HGW.out).trans p0, (hb.cell (p := ⟨g, o + 1, none⟩) HGW.out).trans p1⟩)
      have HKP := Lib.hid (show ∀ W, Below w0.heap.size w0 W → ∀ W', But (w.heap.size + 1) W W' → (fun w' => w'.cell? ⟨w.heap.size, 0, none⟩ = some (.int .u8 a.fg.k) ∧ w'.cell? ⟨w.heap.size, 1, none⟩ = some (.int .u8 a.fg.r) ∧ w'.cell? ⟨w.heap.size, 2, none⟩ = some (.int .u8 a.fg.g) ∧ w'.cell? ⟨w.heap.size, 3, none⟩ = some (.int .u8 a.fg.b) ∧ w'.cell? ⟨w.heap.size, 4, none⟩ = some (.int .u8 a.bg.k) ∧ w'.cell? ⟨w.heap.size, 5, none⟩ = some (.int .u8 a.bg.r) ∧ w'.cell? ⟨w.heap.size, 6, none⟩ = some (.int .u8 a.bg.g) ∧ w'.cell? ⟨w.heap.size, 7, none⟩ = some (.int .u8 a.bg.b) ∧ w'.cell? ⟨w.heap.size, 8, none⟩ = some (.int .u16 (a.fl : Nat)) ∧ w'.cell? ⟨g, o, none⟩ = some (.int .i64 48) ∧ w'.cell? ⟨g, o + 1, none⟩ = some (.int .i64 x1)) W' from fun W hb W' hb' => by
        have y0 := HA.out.1
        have hs := HK.out W hb
        have b1 : W'.heap[w.heap.size]? = W.heap[w.heap.size]? := hb'.block _ (by have := hb.size; omega) (by simp)
        have b2 : W'.heap[g]? = W.heap[g]? := hb'.block _ (by have := hb.size; have := HGW.out; omega) (by simp; have := HGB.out; omega)
        have c1 : ∀ i, W'.cell? ⟨w.heap.size, i, none⟩ = W.cell? ⟨w.heap.size, i, none⟩ := fun i => World.cell?_of_block b1
        have c2 : ∀ i, W'.cell? ⟨g, i, none⟩ = W.cell? ⟨g, i, none⟩ := fun i => World.cell?_of_block b2
        obtain ⟨s1, s2, s3, s4, s5, s6, s7, s8, s9, t1, t2⟩ := hs
        exact ⟨(c1 0).trans s1, (c1 1).trans s2, (c1 2).trans s3, (c1 3).trans s4, (c1 4).trans s5, (c1 5).trans s6, (c1 6).trans s7, (c1 7).trans s8, (c1 8).trans s9, (c2 _).trans t1, (c2 _).trans t2⟩)
      dsimp only at HK HKP
      obtain ⟨_, ⟨y1, y2, y3, y4, y5, y6, y7, y8, y9⟩, _⟩ := HA.out
      go_upto_region 13 with (fail)
      clear y1 y2 y3 y4 y5 y6 y7 y8 y9
      refine wp_region_held_drew (S := fun w' => w'.cell? ⟨w.heap.size, 0, none⟩ = some (.int .u8 a.fg.k) ∧ w'.cell? ⟨w.heap.size, 1, none⟩ = some (.int .u8 a.fg.r) ∧ w'.cell? ⟨w.heap.size, 2, none⟩ = some (.int .u8 a.fg.g) ∧ w'.cell? ⟨w.heap.size, 3, none⟩ = some (.int .u8 a.fg.b) ∧ w'.cell? ⟨w.heap.size, 4, none⟩ = some (.int .u8 a.bg.k) ∧ w'.cell? ⟨w.heap.size, 5, none⟩ = some (.int .u8 a.bg.r) ∧ w'.cell? ⟨w.heap.size, 6, none⟩ = some (.int .u8 a.bg.g) ∧ w'.cell? ⟨w.heap.size, 7, none⟩ = some (.int .u8 a.bg.b) ∧ w'.cell? ⟨w.heap.size, 8, none⟩ = some (.int .u16 (a.fl : Nat)) ∧ w'.cell? ⟨g, o, none⟩ = some (.int .i64 48) ∧ w'.cell? ⟨g, o + 1, none⟩ = some (.int .i64 x1)) (by kernel_rfl) ?_ (fun hHeld => ?_)
      · exact HK.out _ ⟨rfl, rfl, rfl, Nat.le_refl _, fun _ _ => rfl⟩
      obtain ⟨u0, hu0⟩ : ∃ u0, u0 = w0.drew := ⟨_, rfl⟩
      have bd : Below w0.heap.size w0 u0 := by rw [hu0]; exact ⟨rfl, rfl, rfl, Nat.le_refl _, fun _ _ => rfl⟩
      replace hHeld := HK.out _ bd
      rw [← hu0]
      clear hu0
      have CS := Lib.hid (show Calls Tryd.prog 33 #[attV a, .int .i64 48, .int .i64 x1, .slice sa (n - 2) (c - 2)] u0 (SimOut u0 q0) by rw [hq0, HS.out]; exact rcolored_any u0 X _ (L.drop 2) a 48 x1 (hsn u0 X L (HR.out.below bd)) hlk)
      replace HZ := Lib.hid (HZ.out.below bd)
      replace HB := Lib.hid (HB.out.trans (bd.mono HB.out.size))
      clear hq0 hsn p0 p1 hlk
      refine take_at (i := 0) (v := ?_) rfl (by kernel_rfl) (by kernel_rfl) (by kernel_rfl) (fun _ _ _ h => h) (by kernel_rfl) (by assumption) ?_ ?_
      rotate_left
      · (intro w hSw; (try dsimp only at hSw); go_simp; try with_reducible rfl)
      simp only [Act.put, List.setIfInBounds_toArray, List.set_cons_zero, List.set_cons_succ]
      refine take_at (i := 1) (v := ?_) rfl (by kernel_rfl) (by kernel_rfl) (by kernel_rfl) (fun _ _ _ h => h) (by kernel_rfl) (by assumption) ?_ ?_
      rotate_left
      · (intro w hSw; (try dsimp only at hSw); go_simp; try with_reducible rfl)
      simp only [Act.put, List.setIfInBounds_toArray, List.set_cons_zero, List.set_cons_succ]
      refine take_at (i := 2) (v := ?_) rfl (by kernel_rfl) (by kernel_rfl) (by kernel_rfl) (fun _ _ _ h => h) (by kernel_rfl) (by assumption) ?_ ?_
      rotate_left
      · (intro w hSw; (try dsimp only at hSw); go_simp; try with_reducible rfl)
      simp only [Act.put, List.setIfInBounds_toArray, List.set_cons_zero, List.set_cons_succ]
      refine take_at (i := 3) (v := ?_) rfl (by kernel_rfl) (by kernel_rfl) (by kernel_rfl) (fun _ _ _ h => h) (by kernel_rfl) (by assumption) ?_ ?_
      rotate_left
      · (intro w hSw; (try dsimp only at hSw); go_simp; try with_reducible rfl)
      simp only [Act.put, List.setIfInBounds_toArray, List.set_cons_zero, List.set_cons_succ]
      refine take_at (i := 4) (v := ?_) rfl (by kernel_rfl) (by kernel_rfl) (by kernel_rfl) (fun _ _ _ h => h) (by kernel_rfl) (by assumption) ?_ ?_
      rotate_left
      · (intro w hSw; (try dsimp only at hSw); go_simp; try with_reducible rfl)
      simp only [Act.put, List.setIfInBounds_toArray, List.set_cons_zero, List.set_cons_succ]
      refine take_at (i := 5) (v := ?_) rfl (by kernel_rfl) (by kernel_rfl) (by kernel_rfl) (fun _ _ _ h => h) (by kernel_rfl) (by assumption) ?_ ?_
      rotate_left
      · (intro w hSw; (try dsimp only at hSw); go_simp; try with_reducible rfl)
      simp only [Act.put, List.setIfInBounds_toArray, List.set_cons_zero, List.set_cons_succ]
      refine take_at (i := 6) (v := ?_) rfl (by kernel_rfl) (by kernel_rfl) (by kernel_rfl) (fun _ _ _ h => h) (by kernel_rfl) (by assumption) ?_ ?_
      rotate_left
      · (intro w hSw; (try dsimp only at hSw); go_simp; try with_reducible rfl)
      simp only [Act.put, List.setIfInBounds_toArray, List.set_cons_zero, List.set_cons_succ]
      refine take_at (i := 7) (v := ?_) rfl (by kernel_rfl) (by kernel_rfl) (by kernel_rfl) (fun _ _ _ h => h) (by kernel_rfl) (by assumption) ?_ ?_
      rotate_left
      · (intro w hSw; (try dsimp only at hSw); go_simp; try with_reducible rfl)
      simp only [Act.put, List.setIfInBounds_toArray, List.set_cons_zero, List.set_cons_succ]
      refine take_at (i := 8) (v := ?_) rfl (by kernel_rfl) (by kernel_rfl) (by kernel_rfl) (fun _ _ _ h => h) (by kernel_rfl) (by assumption) ?_ ?_
      rotate_left
      · (intro w hSw; (try dsimp only at hSw); go_simp; try with_reducible rfl)
      simp only [Act.put, List.setIfInBounds_toArray, List.set_cons_zero, List.set_cons_succ]
      refine do_at (i := 9) rfl (by kernel_rfl) (by kernel_rfl) (fun K hK => ?_)
      go_simp
      refine CS.out.mono ?_
      rintro e w1 ⟨rfl, bb⟩
      have HZ1 := Lib.hid (HZ.out.below bb)
      have HB1 := Lib.hid (HB.out.trans (bb.mono HB.out.size))
      have HK1 := Lib.hid (HK.out _ (bd.trans (bb.mono bd.size)))
      have bb1 := bd.trans (bb.mono bd.size)
      clear bb CS
      go_wp2_with fail
      refine hK.out _ _ ?_ (fun hHeld => ?_)
      · exact HK1.out
      clear hK K
      try simp only [Act.put, List.setIfInBounds_toArray, List.set_cons_zero, List.set_cons_succ]
      refine do_at (i := 10) rfl (by kernel_rfl) (by kernel_rfl) (fun K hK => ?_)
      obtain ⟨wq, hwq⟩ : ∃ wq, wq = putA w1 (w.heap.size + 1) q0 := ⟨_, rfl⟩
      have Z := Lib.hid (show AtAt wq (w.heap.size + 1) q0 by rw [hwq]; exact HZ1.out.putA q0)
      have HBQ := Lib.hid (show Below w.heap.size w wq by rw [hwq]; exact HB1.out.trans ((putA_but w1 (w.heap.size + 1) q0).below (C := w.heap.size) (by omega) HB1.out.size))
      have hbutq : But (w.heap.size + 1) w1 wq := by rw [hwq]; exact putA_but w1 _ q0
      simp only [putA, putC, Nat.zero_add, Nat.reduceAdd] at hwq
      have HKQ := Lib.hid (show (fun w' => w'.cell? ⟨w.heap.size, 0, none⟩ = some (.int .u8 a.fg.k) ∧ w'.cell? ⟨w.heap.size, 1, none⟩ = some (.int .u8 a.fg.r) ∧ w'.cell? ⟨w.heap.size, 2, none⟩ = some (.int .u8 a.fg.g) ∧ w'.cell? ⟨w.heap.size, 3, none⟩ = some (.int .u8 a.fg.b) ∧ w'.cell? ⟨w.heap.size, 4, none⟩ = some (.int .u8 a.bg.k) ∧ w'.cell? ⟨w.heap.size, 5, none⟩ = some (.int .u8 a.bg.r) ∧ w'.cell? ⟨w.heap.size, 6, none⟩ = some (.int .u8 a.bg.g) ∧ w'.cell? ⟨w.heap.size, 7, none⟩ = some (.int .u8 a.bg.b) ∧ w'.cell? ⟨w.heap.size, 8, none⟩ = some (.int .u16 (a.fl : Nat)) ∧ w'.cell? ⟨g, o, none⟩ = some (.int .i64 48) ∧ w'.cell? ⟨g, o + 1, none⟩ = some (.int .i64 x1)) wq from HKP.out w1 bb1 wq hbutq)
      obtain ⟨_, ⟨z1, z2, z3, z4, z5, z6, z7, z8, z9⟩, zf⟩ := HZ1.out
      dsimp only at z1 z2 z3 z4 z5 z6 z7 z8 z9
      go_wp2_with fail
      rw [← hwq]
      clear z1 z2 z3 z4 z5 z6 z7 z8 z9 zf hwq
      refine hK.out _ _ ?_ (fun hHeld => ?_)
      · exact HKQ.out
      clear hK K
      try simp only [Act.put, List.setIfInBounds_toArray, List.set_cons_zero, List.set_cons_succ]
      refine wpAnyH_done (by kernel_rfl) ?_ _
      go_wp2
      obtain ⟨_, ⟨k1, k2, k3, k4, k5, k6, k7, k8, k9⟩, _⟩ := Z.out
      exact bodyPost_ret (v := attV q0) (by simp [results, Tryd.results31, go_sem, k1, k2, k3, k4, k5, k6, k7, k8, k9]) rfl ⟨by rw [HQE.out], HBQ.out⟩
    · have e2 : (x1 == 2) = false := by simp [k2]
      clear hk k2
      have n0 : 0 < n := by omega
      have n1i : (1 : Int) < (n : Int) := by omega
      obtain ⟨q0, hq0⟩ : ∃ q0, q0 = severalM a L := ⟨_, rfl⟩
      have HQE := Lib.hid hq0
      obtain ⟨sa, hsl, hsn⟩ := slice_from g o n c 2 (by omega) hc
      have hlk : (L.drop 2).length ≤ 1000 := by rw [List.length_drop, ← HN.out]; omega
      have s1 : ∀ w, (Instr.sliceAt 50 (.slice (some ⟨g, o, none⟩) n c) (some (.int .i64 2)) none none).run Tryd.prog w = .ok (.slice sa (n - 2) (c - 2)) w := hsl
      clear hsl
      have HK := Lib.hid (show ∀ W, Below w0.heap.size w0 W → (fun w' => w'.cell? ⟨w.heap.size, 0, none⟩ = some (.int .u8 a.fg.k) ∧ w'.cell? ⟨w.heap.size, 1, none⟩ = some (.int .u8 a.fg.r) ∧ w'.cell? ⟨w.heap.size, 2, none⟩ = some (.int .u8 a.fg.g) ∧ w'.cell? ⟨w.heap.size, 3, none⟩ = some (.int .u8 a.fg.b) ∧ w'.cell? ⟨w.heap.size, 4, none⟩ = some (.int .u8 a.bg.k) ∧ w'.cell? ⟨w.heap.size, 5, none⟩ = some (.int .u8 a.bg.r) ∧ w'.cell? ⟨w.heap.size, 6, none⟩ = some (.int .u8 a.bg.g) ∧ w'.cell? ⟨w.heap.size, 7, none⟩ = some (.int .u8 a.bg.b) ∧ w'.cell? ⟨w.heap.size, 8, none⟩ = some (.int .u16 (a.fl : Nat)) ∧ w'.cell? ⟨g, o, none⟩ = some (.int .i64 48) ∧ w'.cell? ⟨g, o + 1, none⟩ = some (.int .i64 x1)) W from fun W hb => by
        obtain ⟨y0, ⟨y1, y2, y3, y4, y5, y6, y7, y8, y9⟩, _⟩ := HA.out
        exact ⟨(hb.cell (p := ⟨w.heap.size, 0, none⟩) y0).trans y1, (hb.cell (p := ⟨w.heap.size, 1, none⟩) y0).trans y2, (hb.cell (p := ⟨w.heap.size, 2, none⟩) y0).trans y3, (hb.cell (p := ⟨w.heap.size, 3, none⟩) y0).trans y4, (hb.cell (p := ⟨w.heap.size, 4, none⟩) y0).trans y5, (hb.cell (p := ⟨w.heap.size, 5, none⟩) y0).trans y6, (hb.cell (p := ⟨w.heap.size, 6, none⟩) y0).trans y7, (hb.cell (p := ⟨w.heap.size, 7, none⟩) y0).trans y8, (hb.cell (p := ⟨w.heap.size, 8, none⟩) y0).trans y9, (hb.cell (p := ⟨g, o, none⟩) HGW.out).trans p0, (hb.cell (p := ⟨g, o + 1, none⟩) HGW.out).trans p1⟩)
      have HKP := Lib.hid (show ∀ W, Below w0.heap.size w0 W → ∀ W', But (w.heap.size + 1) W W' → (fun w' => w'.cell? ⟨w.heap.size, 0, none⟩ = some (.int .u8 a.fg.k) ∧ w'.cell? ⟨w.heap.size, 1, none⟩ = some (.int .u8 a.fg.r) ∧ w'.cell? ⟨w.heap.size, 2, none⟩ = some (.int .u8 a.fg.g) ∧ w'.cell? ⟨w.heap.size, 3, none⟩ = some (.int .u8 a.fg.b) ∧ w'.cell? ⟨w.heap.size, 4, none⟩ = some (.int .u8 a.bg.k) ∧ w'.cell? ⟨w.heap.size, 5, none⟩ = some (.int .u8 a.bg.r) ∧ w'.cell? ⟨w.heap.size, 6, none⟩ = some (.int .u8 a.bg.g) ∧ w'.cell? ⟨w.heap.size, 7, none⟩ = some (.int .u8 a.bg.b) ∧ w'.cell? ⟨w.heap.size, 8, none⟩ = some (.int .u16 (a.fl : Nat)) ∧ w'.cell? ⟨g, o, none⟩ = some (.int .i64 48) ∧ w'.cell? ⟨g, o + 1, none⟩ = some (.int .i64 x1)) W' from fun W hb W' hb' => by
        have y0 := HA.out.1
        have hs := HK.out W hb
        have b1 : W'.heap[w.heap.size]? = W.heap[w.heap.size]? := hb'.block _ (by have := hb.size; omega) (by simp)
        have b2 : W'.heap[g]? = W.heap[g]? := hb'.block _ (by have := hb.size; have := HGW.out; omega) (by simp; have := HGB.out; omega)
        have c1 : ∀ i, W'.cell? ⟨w.heap.size, i, none⟩ = W.cell? ⟨w.heap.size, i, none⟩ := fun i => World.cell?_of_block b1
        have c2 : ∀ i, W'.cell? ⟨g, i, none⟩ = W.cell? ⟨g, i, none⟩ := fun i => World.cell?_of_block b2
        obtain ⟨s1, s2, s3, s4, s5, s6, s7, s8, s9, t1, t2⟩ := hs
        exact ⟨(c1 0).trans s1, (c1 1).trans s2, (c1 2).trans s3, (c1 3).trans s4, (c1 4).trans s5, (c1 5).trans s6, (c1 6).trans s7, (c1 7).trans s8, (c1 8).trans s9, (c2 _).trans t1, (c2 _).trans t2⟩)
      dsimp only at HK HKP
      obtain ⟨_, ⟨y1, y2, y3, y4, y5, y6, y7, y8, y9⟩, _⟩ := HA.out
      go_upto_region 13 with (fail)
      clear y1 y2 y3 y4 y5 y6 y7 y8 y9
      refine wp_region_held_drew (S := fun w' => w'.cell? ⟨w.heap.size, 0, none⟩ = some (.int .u8 a.fg.k) ∧ w'.cell? ⟨w.heap.size, 1, none⟩ = some (.int .u8 a.fg.r) ∧ w'.cell? ⟨w.heap.size, 2, none⟩ = some (.int .u8 a.fg.g) ∧ w'.cell? ⟨w.heap.size, 3, none⟩ = some (.int .u8 a.fg.b) ∧ w'.cell? ⟨w.heap.size, 4, none⟩ = some (.int .u8 a.bg.k) ∧ w'.cell? ⟨w.heap.size, 5, none⟩ = some (.int .u8 a.bg.r) ∧ w'.cell? ⟨w.heap.size, 6, none⟩ = some (.int .u8 a.bg.g) ∧ w'.cell? ⟨w.heap.size, 7, none⟩ = some (.int .u8 a.bg.b) ∧ w'.cell? ⟨w.heap.size, 8, none⟩ = some (.int .u16 (a.fl : Nat)) ∧ w'.cell? ⟨g, o, none⟩ = some (.int .i64 48) ∧ w'.cell? ⟨g, o + 1, none⟩ = some (.int .i64 x1)) (by kernel_rfl) ?_ (fun hHeld => ?_)
      · exact HK.out _ ⟨rfl, rfl, rfl, Nat.le_refl _, fun _ _ => rfl⟩
      obtain ⟨u0, hu0⟩ : ∃ u0, u0 = w0.drew := ⟨_, rfl⟩
      have bd : Below w0.heap.size w0 u0 := by rw [hu0]; exact ⟨rfl, rfl, rfl, Nat.le_refl _, fun _ _ => rfl⟩
      replace hHeld := HK.out _ bd
      rw [← hu0]
      clear hu0
      have CS := Lib.hid (show Calls Tryd.prog 33 #[attV a, .int .i64 48, .int .i64 x1, .slice sa (n - 2) (c - 2)] u0 (SimOut u0 q0) by rw [hq0, HS.out]; exact rcolored_any u0 X _ (L.drop 2) a 48 x1 (hsn u0 X L (HR.out.below bd)) hlk)
      replace HZ := Lib.hid (HZ.out.below bd)
      replace HB := Lib.hid (HB.out.trans (bd.mono HB.out.size))
      clear hq0 hsn p0 p1 hlk
      refine take_at (i := 0) (v := ?_) rfl (by kernel_rfl) (by kernel_rfl) (by kernel_rfl) (fun _ _ _ h => h) (by kernel_rfl) (by assumption) ?_ ?_
      rotate_left
      · (intro w hSw; (try dsimp only at hSw); go_simp; try with_reducible rfl)
      simp only [Act.put, List.setIfInBounds_toArray, List.set_cons_zero, List.set_cons_succ]
      refine take_at (i := 1) (v := ?_) rfl (by kernel_rfl) (by kernel_rfl) (by kernel_rfl) (fun _ _ _ h => h) (by kernel_rfl) (by assumption) ?_ ?_
      rotate_left
      · (intro w hSw; (try dsimp only at hSw); go_simp; try with_reducible rfl)
      simp only [Act.put, List.setIfInBounds_toArray, List.set_cons_zero, List.set_cons_succ]
      refine take_at (i := 2) (v := ?_) rfl (by kernel_rfl) (by kernel_rfl) (by kernel_rfl) (fun _ _ _ h => h) (by kernel_rfl) (by assumption) ?_ ?_
      rotate_left
      · (intro w hSw; (try dsimp only at hSw); go_simp; try with_reducible rfl)
      simp only [Act.put, List.setIfInBounds_toArray, List.set_cons_zero, List.set_cons_succ]
      refine take_at (i := 3) (v := ?_) rfl (by kernel_rfl) (by kernel_rfl) (by kernel_rfl) (fun _ _ _ h => h) (by kernel_rfl) (by assumption) ?_ ?_
      rotate_left
      · (intro w hSw; (try dsimp only at hSw); go_simp; try with_reducible rfl)
      simp only [Act.put, List.setIfInBounds_toArray, List.set_cons_zero, List.set_cons_succ]
      refine take_at (i := 4) (v := ?_) rfl (by kernel_rfl) (by kernel_rfl) (by kernel_rfl) (fun _ _ _ h => h) (by kernel_rfl) (by assumption) ?_ ?_
      rotate_left
      · (intro w hSw; (try dsimp only at hSw); go_simp; try with_reducible rfl)
      simp only [Act.put, List.setIfInBounds_toArray, List.set_cons_zero, List.set_cons_succ]
      refine take_at (i := 5) (v := ?_) rfl (by kernel_rfl) (by kernel_rfl) (by kernel_rfl) (fun _ _ _ h => h) (by kernel_rfl) (by assumption) ?_ ?_
      rotate_left
      · (intro w hSw; (try dsimp only at hSw); go_simp; try with_reducible rfl)
      simp only [Act.put, List.setIfInBounds_toArray, List.set_cons_zero, List.set_cons_succ]
      refine take_at (i := 6) (v := ?_) rfl (by kernel_rfl) (by kernel_rfl) (by kernel_rfl) (fun _ _ _ h => h) (by kernel_rfl) (by assumption) ?_ ?_
      rotate_left
      · (intro w hSw; (try dsimp only at hSw); go_simp; try with_reducible rfl)
      simp only [Act.put, List.setIfInBounds_toArray, List.set_cons_zero, List.set_cons_succ]
      refine take_at (i := 7) (v := ?_) rfl (by kernel_rfl) (by kernel_rfl) (by kernel_rfl) (fun _ _ _ h => h) (by kernel_rfl) (by assumption) ?_ ?_
      rotate_left
      · (intro w hSw; (try dsimp only at hSw); go_simp; try with_reducible rfl)
      simp only [Act.put, List.setIfInBounds_toArray, List.set_cons_zero, List.set_cons_succ]
      refine take_at (i := 8) (v := ?_) rfl (by kernel_rfl) (by kernel_rfl) (by kernel_rfl) (fun _ _ _ h => h) (by kernel_rfl) (by assumption) ?_ ?_
      rotate_left
      · (intro w hSw; (try dsimp only at hSw); go_simp; try with_reducible rfl)
      simp only [Act.put, List.setIfInBounds_toArray, List.set_cons_zero, List.set_cons_succ]
      refine do_at (i := 9) rfl (by kernel_rfl) (by kernel_rfl) (fun K hK => ?_)
      go_simp
      refine CS.out.mono ?_
      rintro e w1 ⟨rfl, bb⟩
      have HZ1 := Lib.hid (HZ.out.below bb)
      have HB1 := Lib.hid (HB.out.trans (bb.mono HB.out.size))
      have HK1 := Lib.hid (HK.out _ (bd.trans (bb.mono bd.size)))
      have bb1 := bd.trans (bb.mono bd.size)
      clear bb CS
      go_wp2_with fail
      refine hK.out _ _ ?_ (fun hHeld => ?_)
      · exact HK1.out
      clear hK K
      try simp only [Act.put, List.setIfInBounds_toArray, List.set_cons_zero, List.set_cons_succ]
      refine do_at (i := 10) rfl (by kernel_rfl) (by kernel_rfl) (fun K hK => ?_)
      obtain ⟨wq, hwq⟩ : ∃ wq, wq = putA w1 (w.heap.size + 1) q0 := ⟨_, rfl⟩
      have Z := Lib.hid (show AtAt wq (w.heap.size + 1) q0 by rw [hwq]; exact HZ1.out.putA q0)
      have HBQ := Lib.hid (show Below w.heap.size w wq by rw [hwq]; exact HB1.out.trans ((putA_but w1 (w.heap.size + 1) q0).below (C := w.heap.size) (by omega) HB1.out.size))
      have hbutq : But (w.heap.size + 1) w1 wq := by rw [hwq]; exact putA_but w1 _ q0
      simp only [putA, putC, Nat.zero_add, Nat.reduceAdd] at hwq
      have HKQ := Lib.hid (show (fun w' => w'.cell? ⟨w.heap.size, 0, none⟩ = some (.int .u8 a.fg.k) ∧ w'.cell? ⟨w.heap.size, 1, none⟩ = some (.int .u8 a.fg.r) ∧ w'.cell? ⟨w.heap.size, 2, none⟩ = some (.int .u8 a.fg.g) ∧ w'.cell? ⟨w.heap.size, 3, none⟩ = some (.int .u8 a.fg.b) ∧ w'.cell? ⟨w.heap.size, 4, none⟩ = some (.int .u8 a.bg.k) ∧ w'.cell? ⟨w.heap.size, 5, none⟩ = some (.int .u8 a.bg.r) ∧ w'.cell? ⟨w.heap.size, 6, none⟩ = some (.int .u8 a.bg.g) ∧ w'.cell? ⟨w.heap.size, 7, none⟩ = some (.int .u8 a.bg.b) ∧ w'.cell? ⟨w.heap.size, 8, none⟩ = some (.int .u16 (a.fl : Nat)) ∧ w'.cell? ⟨g, o, none⟩ = some (.int .i64 48) ∧ w'.cell? ⟨g, o + 1, none⟩ = some (.int .i64 x1)) wq from HKP.out w1 bb1 wq hbutq)
      obtain ⟨_, ⟨z1, z2, z3, z4, z5, z6, z7, z8, z9⟩, zf⟩ := HZ1.out
      dsimp only at z1 z2 z3 z4 z5 z6 z7 z8 z9
      go_wp2_with fail
      rw [← hwq]
      clear z1 z2 z3 z4 z5 z6 z7 z8 z9 zf hwq
      refine hK.out _ _ ?_ (fun hHeld => ?_)
      · exact HKQ.out
      clear hK K
      try simp only [Act.put, List.setIfInBounds_toArray, List.set_cons_zero, List.set_cons_succ]
      refine wpAnyH_done (by kernel_rfl) ?_ _
      go_wp2
      obtain ⟨_, ⟨k1, k2, k3, k4, k5, k6, k7, k8, k9⟩, _⟩ := Z.out
      exact bodyPost_ret (v := attV q0) (by simp [results, Tryd.results31, go_sem, k1, k2, k3, k4, k5, k6, k7, k8, k9]) rfl ⟨by rw [HQE.out], HBQ.out⟩
  have HS := Lib.hid (show severalM a L = a from sev_no (by rw [HX0.out, ← HN.out]; rintro ⟨e, e', _⟩; exact x4 ⟨e, e'⟩) (by rw [HX0.out]; exact x38) (by rw [HX0.out]; exact x48))
  have e38 : (x0 != 38) = true := by simp [x38]
  have e48 : (x0 != 48) = true := by simp [x48]
  by_cases y4 : x0 = 4
  · have e4 : (x0 == 4) = true := by simp [y4]
    have e2 : ((n : Int) == 2) = false := by simp; omega
    clear x4 x38 x48 y4
    obtain ⟨q0, hq0⟩ : ∃ q0, q0 = severalM a L := ⟨_, rfl⟩
    have HQ0 := Lib.hid (show AtAt w0 w.heap.size q0 by rw [hq0, HS.out]; exact HA.out)
    have HQE := Lib.hid hq0
    clear hq0
    obtain ⟨wq, hwq⟩ : ∃ wq, wq = putA w0 (w.heap.size + 1) q0 := ⟨_, rfl⟩
    have Z := Lib.hid (show AtAt wq (w.heap.size + 1) q0 by rw [hwq]; exact HZ.out.putA q0)
    have HBQ := Lib.hid (show Below w.heap.size w wq by rw [hwq]; exact HB.out.trans ((putA_but w0 (w.heap.size + 1) q0).below (C := w.heap.size) (by omega) HB.out.size))
    simp only [putA, putC, Nat.zero_add, Nat.reduceAdd] at hwq
    obtain ⟨_, ⟨y1, y2, y3, y4, y5, y6, y7, y8, y9⟩, _⟩ := HQ0.out
    obtain ⟨_, ⟨z1, z2, z3, z4, z5, z6, z7, z8, z9⟩, zf⟩ := HZ.out
    dsimp only at z1 z2 z3 z4 z5 z6 z7 z8 z9
    go_wp2
    rw [← hwq]
    clear y1 y2 y3 y4 y5 y6 y7 y8 y9
    clear z1 z2 z3 z4 z5 z6 z7 z8 z9 zf hwq
    obtain ⟨_, ⟨k1, k2, k3, k4, k5, k6, k7, k8, k9⟩, _⟩ := Z.out
    exact bodyPost_ret (v := attV q0) (by simp [results, Tryd.results31, go_sem, k1, k2, k3, k4, k5, k6, k7, k8, k9]) rfl ⟨by rw [HQE.out], HBQ.out⟩
  · have e4 : (x0 == 4) = false := by simp [y4]
    clear x4 x38 x48 y4
    obtain ⟨q0, hq0⟩ : ∃ q0, q0 = severalM a L := ⟨_, rfl⟩
    have HQ0 := Lib.hid (show AtAt w0 w.heap.size q0 by rw [hq0, HS.out]; exact HA.out)
    have HQE := Lib.hid hq0
    clear hq0
    obtain ⟨wq, hwq⟩ : ∃ wq, wq = putA w0 (w.heap.size + 1) q0 := ⟨_, rfl⟩
    have Z := Lib.hid (show AtAt wq (w.heap.size + 1) q0 by rw [hwq]; exact HZ.out.putA q0)
    have HBQ := Lib.hid (show Below w.heap.size w wq by rw [hwq]; exact HB.out.trans ((putA_but w0 (w.heap.size + 1) q0).below (C := w.heap.size) (by omega) HB.out.size))
    simp only [putA, putC, Nat.zero_add, Nat.reduceAdd] at hwq
    obtain ⟨_, ⟨y1, y2, y3, y4, y5, y6, y7, y8, y9⟩, _⟩ := HQ0.out
    obtain ⟨_, ⟨z1, z2, z3, z4, z5, z6, z7, z8, z9⟩, zf⟩ := HZ.out
    dsimp only at z1 z2 z3 z4 z5 z6 z7 z8 z9
    go_wp2
    rw [← hwq]
    clear y1 y2 y3 y4 y5 y6 y7 y8 y9
    clear z1 z2 z3 z4 z5 z6 z7 z8 z9 zf hwq
    obtain ⟨_, ⟨k1, k2, k3, k4, k5, k6, k7, k8, k9⟩, _⟩ := Z.out
    exact bodyPost_ret (v := attV q0) (by simp [results, Tryd.results31, go_sem, k1, k2, k3, k4, k5, k6, k7, k8, k9]) rfl ⟨by rw [HQE.out], HBQ.out⟩

/-- The numbers of rows that have one. -/
def coll : Rws → List Int
  | [] => []
  | [x] :: t => x :: coll t
  | _ :: t => coll t
theorem coll_cons_one {r : List Int} {t : Rws} (h : r.length = 1) : coll (r :: t) = r.getD 0 0 :: coll t := by
  match r, h with
  | [x], _ => rfl
theorem coll_cons_not {r : List Int} {t : Rws} (h : r.length ≠ 1) : coll (r :: t) = coll t := by
  match r, h with
  | [], _ => rfl
  | [x], h => simp at h
  | _ :: _ :: _, _ => rfl
theorem coll_append (s t : Rws) : coll (s ++ t) = coll s ++ coll t := by
  induction s with
  | nil => rfl
  | cons r s ih =>
    by_cases h : r.length = 1
    · rw [List.cons_append, coll_cons_one h, coll_cons_one h, ih, List.cons_append]
    · rw [List.cons_append, coll_cons_not h, coll_cons_not h, ih]
theorem coll_len (T : Rws) : (coll T).length ≤ T.length := by
  induction T with
  | nil => simp [coll]
  | cons r t ih =>
    by_cases h : r.length = 1
    · rw [coll_cons_one h]; simp; omega
    · rw [coll_cons_not h]; simp; omega
theorem valM_idem (x : Int) : valM (valM x) = valM x := by
  unfold valM
  by_cases h : x = -1
  · rw [if_pos h]
    decide
  · rw [if_neg h, if_neg h]
theorem partM_val (x : Int) : partM (valM x) = partM x := by
  unfold partM
  rw [valM_idem]
theorem partRow_one {r : List Int} (h : r.length = 1) : partRow r = partM (r.getD 0 0) := by
  match r, h with
  | [x], _ => exact partM_val x
theorem partRow_not {r : List Int} (h : r.length ≠ 1) : partRow r = none := by
  unfold partRow
  rw [only_not h]
theorem coll_all (T : Rws) (h : ∀ r ∈ T, r.length = 1) : partsM partRow T = partsM partM (coll T) ∧ (coll T).length = T.length := by
  induction T with
  | nil => exact ⟨rfl, rfl⟩
  | cons r t ih =>
    have h1 := h r (by simp)
    obtain ⟨i1, i2⟩ := ih fun r hr => h r (List.mem_cons_of_mem _ hr)
    rw [coll_cons_one h1]
    refine ⟨?_, by simp [i2]⟩
    unfold partsM
    rw [partRow_one h1, i1]
theorem coll_not (T : Rws) (h : ¬ ∀ r ∈ T, r.length = 1) : (coll T).length < T.length ∧ (partsM partRow T).length < T.length := by
  induction T with
  | nil => exact absurd (fun r hr => by cases hr) h
  | cons r t ih =>
    by_cases h1 : r.length = 1
    · have ht : ¬ ∀ r ∈ t, r.length = 1 := fun h' => h fun r' hr => by
        rcases List.mem_cons.1 hr with e | hr
        · rw [e]; exact h1
        · exact h' r' hr
      obtain ⟨i1, i2⟩ := ih ht
      rw [coll_cons_one h1]
      refine ⟨by simp; omega, ?_⟩
      unfold partsM
      split
      · simp; omega
      · simp
    · rw [coll_cons_not h1]
      refine ⟨by have := coll_len t; simp; omega, ?_⟩
      unfold partsM
      rw [partRow_not h1]
      simp
theorem madeM_val (y : Int) (l : List Int) : madeM (valM y) l = madeM y l := by
  by_cases h : y = -1
  · subst h
    rfl
  · rw [show valM y = y by unfold valM; rw [if_neg h]]
theorem needed_val (y : Int) : needed (valM y) = needed y := by
  by_cases h : y = -1
  · subst h
    rfl
  · rw [show valM y = y by unfold valM; rw [if_neg h]]
theorem madeM_few {k : Int} {l : List Int} (h : l.length < needed k) : madeM k l = none := by
  unfold madeM
  rw [if_pos h]
theorem color_eq (y : Int) (rest : Rws) : colorM ([y] :: rest) = coloredM y (coll (rest.take (needed y))) := by
  show madeM (valM y) (partsM partRow (rest.take (needed (valM y)))) = _
  rw [madeM_val, needed_val]
  obtain ⟨T, hT⟩ : ∃ T, T = rest.take (needed y) := ⟨_, rfl⟩
  have hl : T.length ≤ needed y := by rw [hT, List.length_take]; omega
  rw [← hT]
  unfold coloredM
  by_cases h : ∀ r ∈ T, r.length = 1
  · obtain ⟨e1, e2⟩ := coll_all T h
    rw [e1, e2]
    by_cases hn : T.length = needed y
    · rw [if_pos hn]
    · rw [if_neg hn]
      exact madeM_few (by have := partsM_len partM (coll T); omega)
  · obtain ⟨e1, e2⟩ := coll_not T h
    rw [if_neg (by omega)]
    exact madeM_few (by omega)
theorem left_eq (y : Int) (rest : Rws) : leftM ([y] :: rest) = rest.drop (needed y) := by
  show (rest.drop (needed (valM y))) = _
  rw [needed_val]
theorem step_0 {a : At} {L : Rws} {row : List Int} (h : row.length = 0) : stepM a row L = (a, L) := by
  unfold stepM
  rw [only_not (by omega)]
  show (severalM a row, L) = _
  unfold severalM
  rw [if_pos (by omega)]
theorem step_2 {a : At} {L : Rws} {row : List Int} (h : 2 ≤ row.length) : stepM a row L = (severalM a row, L) := by
  unfold stepM
  rw [only_not (by omega)]
theorem step_1 {a : At} {L : Rws} {row : List Int} {x : Int} (h : row.length = 1) (hx : row.getD 0 0 = x) (h38 : valM x ≠ 38) (h48 : valM x ≠ 48) : stepM a row L = (simpleM a (valM x), L) := by
  match row, h with
  | [y], _ =>
    obtain rfl : y = x := hx
    show (if valM y = 38 then _ else if valM y = 48 then _ else _) = _
    rw [if_neg h38, if_neg h48]
theorem step_c {a : At} {L : Rws} {row : List Int} {x : Int} (h : row.length = 1) (hx : row.getD 0 0 = x) (hc : x = 38 ∨ x = 48) : stepM a row L = (setC2 x a (colorM L), leftM L) := by
  match row, h with
  | [y], _ =>
    obtain rfl : y = x := hx
    unfold setC2
    rcases hc with rfl | rfl
    · rfl
    · rfl
theorem step_c0 {a : At} {row : List Int} {x : Int} (h : row.length = 1) (hx : row.getD 0 0 = x) (hc : x = 38 ∨ x = 48) : stepM a row [] = (a, []) := by
  rw [step_c h hx hc]
  show (setC2 x a none, ([] : Rws)) = _
  rw [setC2_none]
theorem step_cn {a : At} {r : List Int} {rest : Rws} {row : List Int} {x : Int} (h : row.length = 1) (hx : row.getD 0 0 = x) (hc : x = 38 ∨ x = 48) (hr : r.length ≠ 1) : stepM a row (r :: rest) = (a, rest) := by
  rw [step_c h hx hc]
  have hk : kindM (r :: rest) = 0 := by show (onlyM r).getD 0 = 0; rw [only_not hr]; rfl
  have h1 : colorM (r :: rest) = none := by
    unfold colorM
    rw [hk]
    unfold madeM
    split
    · rfl
    · rfl
  have h2 : leftM (r :: rest) = rest := by
    unfold leftM
    rw [hk]
    rfl
  rw [h1, h2, setC2_none]
theorem step_cy {a : At} {r : List Int} {y : Int} {rest : Rws} {row : List Int} {x : Int} (h : row.length = 1) (hx : row.getD 0 0 = x) (hc : x = 38 ∨ x = 48) (hr : r.length = 1) (hy : r.getD 0 0 = y) : stepM a row (r :: rest) = (setC2 x a (coloredM y (coll (rest.take (needed y)))), rest.drop (needed y)) := by
  match r, hr with
  | [z], _ =>
    obtain rfl : z = y := hy
    rw [step_c h hx hc, color_eq, left_eq]
end Go.Proofs.YtlmhnebgkginkaaDoor.Lab
