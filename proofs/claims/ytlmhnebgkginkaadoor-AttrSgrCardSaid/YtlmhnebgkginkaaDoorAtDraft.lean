/- The reference's drafts of attributes. -/
import Derived.Test.YtlmhnebgkginkaaDoorAtMade
import Derived.Deep.CutBlock
import Derived.Deep.DeepCutAuto
namespace Go.Proofs.YtlmhnebgkginkaaDoor.Lab
open Go Go.RowKit

def c2M (k b0 b1 b2 : Nat) : Cl := if k % 4 = 1 then ⟨1, b0, 0, 0⟩ else if k % 4 = 2 then ⟨2, b0, b1, b2⟩ else if k % 4 = 3 then ⟨1, ((b0 % 16 : Nat) : Int), 0, 0⟩ else Cl.zero
structure Dr where
  fl : Nat
  k : Nat
  f0 : Nat
  f1 : Nat
  f2 : Nat
  b0 : Nat
  b1 : Nat
  b2 : Nat
def Dr.ok (d : Dr) : Prop := d.fl < 65536 ∧ d.k < 256 ∧ d.f0 < 256 ∧ d.f1 < 256 ∧ d.f2 < 256 ∧ d.b0 < 256 ∧ d.b1 < 256 ∧ d.b2 < 256
abbrev drV (d : Dr) : Value := .agg #[.int .u16 (d.fl : Nat), .int .u8 (d.k : Nat), .int .u8 (d.f0 : Nat), .int .u8 (d.f1 : Nat), .int .u8 (d.f2 : Nat), .int .u8 (d.b0 : Nat), .int .u8 (d.b1 : Nat), .int .u8 (d.b2 : Nat)]
def dFl (f : Nat) : Nat := if f % 512 &&& 8 ≠ 0 then f % 512 &&& (65535 - 256) else f % 512
def dAt (d : Dr) : At := ⟨c2M d.k d.f0 d.f1 d.f2, c2M (d.k / 4) d.b0 d.b1 d.b2, dFl d.fl⟩
set_option maxHeartbeats 1000000 in
theorem c2_any (w : World) (k b0 b1 b2 : Nat) (hk : k < 256) (h0 : b0 < 256) : Calls Tryd.prog 37 #[.int .u8 (k : Nat), .agg #[.int .u8 (b0 : Nat), .int .u8 (b1 : Nat), .int .u8 (b2 : Nat)]] w fun e w' => e = .returned (colV (c2M k b0 b1 b2)) ∧ Below w.heap.size w w' := by
  obtain ⟨w0, hw0⟩ : ∃ w0, w0 = (w.alloc (.cells #[.int .u8 (b0 : Nat), .int .u8 (b1 : Nat), .int .u8 (b2 : Nat)] 37)).alloc (.cells #[.int .u8 0, .int .u8 0, .int .u8 0, .int .u8 0] 23) := ⟨_, rfl⟩
  have b0' : Below w.heap.size w w0 := by rw [hw0]; exact ((Below.refl _ _).alloc (Nat.le_refl _) _).alloc (by simp) _
  have HZ := Lib.hid (show ColAt w0 (w.heap.size + 1) Cl.zero by rw [hw0]; exact ColAt.newAt _ _ (by simp) Cl.zero _)
  have HB := Lib.hid b0'
  obtain ⟨x0, x1, x2⟩ : w0.cell? ⟨w.heap.size, 0, none⟩ = some (.int .u8 (b0 : Nat)) ∧ w0.cell? ⟨w.heap.size, 1, none⟩ = some (.int .u8 (b1 : Nat)) ∧ w0.cell? ⟨w.heap.size, 2, none⟩ = some (.int .u8 (b2 : Nat)) := by
    have hb : Below (w.alloc (.cells #[.int .u8 (b0 : Nat), .int .u8 (b1 : Nat), .int .u8 (b2 : Nat)] 37)).heap.size (w.alloc (.cells #[.int .u8 (b0 : Nat), .int .u8 (b1 : Nat), .int .u8 (b2 : Nat)] 37)) w0 := by rw [hw0]; exact (Below.refl _ _).alloc (Nat.le_refl _) _
    exact ⟨(hb.cell (p := ⟨w.heap.size, 0, none⟩) (by simp)).trans (by simp), (hb.cell (p := ⟨w.heap.size, 1, none⟩) (by simp)).trans (by simp), (hb.cell (p := ⟨w.heap.size, 2, none⟩) (by simp)).trans (by simp)⟩
  obtain ⟨m, hm⟩ : ∃ m, m = k % 4 := ⟨_, rfl⟩
  have e1 : (k : Int).tmod 4 = (m : Int) := by rw [hm, Int.tmod_eq_emod_of_nonneg (by omega)]; omega
  have e2 : (k : Int) % 4 = (m : Int) := by omega
  have e3 : (b0 : Int).tmod 16 = ((b0 % 16 : Nat) : Int) := by rw [Int.tmod_eq_emod_of_nonneg (by omega)]; omega
  have e4 : (b0 : Int) % 16 = ((b0 % 16 : Nat) : Int) := by omega
  have HM := Lib.hid (show c2M k b0 b1 b2 = if m = 1 then ⟨1, b0, 0, 0⟩ else if m = 2 then ⟨2, b0, b1, b2⟩ else if m = 3 then ⟨1, ((b0 % 16 : Nat) : Int), 0, 0⟩ else Cl.zero by rw [hm]; rfl)
  obtain ⟨r, hr⟩ : ∃ r, r = b0 % 16 := ⟨_, rfl⟩
  rw [← hr] at e3 e4 HM
  have hm4 : m < 4 := by rw [hm]; omega
  clear hm hr b0'
  have hc : m = 0 ∨ m = 1 ∨ m = 2 ∨ m = 3 := by omega
  rcases hc with rfl | rfl | rfl | rfl
  · have HE := Lib.hid (show c2M k b0 b1 b2 = Cl.zero by rw [HM.out]; rfl)
    have Z := Lib.hid (HZ.out.put Cl.zero)
    have HB3 := Lib.hid (HB.out.trans ((putC_but w0 (w.heap.size + 1) 0 Cl.zero).below (C := w.heap.size) (Nat.le_succ _) HB.out.size))
    obtain ⟨y0, ⟨y1, y2, y3, y4⟩, yf⟩ := HZ.out
    dsimp only at y1 y2 y3 y4
    go_enter Tryd.func37, Tryd.ntmps37
    go_upto_region 1 with (fail)
    rw [← hw0]
    clear hw0
    go_wp2
    have ZZ := Z.out
    have HB4 := HB3.out
    simp only [putC, Nat.zero_add] at ZZ HB4
    obtain ⟨c0, ⟨k1, k2, k3, k4⟩, kf⟩ := ZZ
    exact bodyPost_ret (v := colV Cl.zero) (by simp [results, Tryd.results37, go_sem, k1, k2, k3, k4]) rfl ⟨by rw [HE.out], HB4⟩
  · have HE := Lib.hid (show c2M k b0 b1 b2 = ⟨1, (b0 : Int), 0, 0⟩ by rw [HM.out]; rfl)
    have Z := Lib.hid (HZ.out.put ⟨1, (b0 : Int), 0, 0⟩)
    have HB3 := Lib.hid (HB.out.trans ((putC_but w0 (w.heap.size + 1) 0 ⟨1, (b0 : Int), 0, 0⟩).below (C := w.heap.size) (Nat.le_succ _) HB.out.size))
    obtain ⟨y0, ⟨y1, y2, y3, y4⟩, yf⟩ := HZ.out
    dsimp only at y1 y2 y3 y4
    go_enter Tryd.func37, Tryd.ntmps37
    go_upto_region 1 with (fail)
    rw [← hw0]
    clear hw0
    go_wp2
    have ZZ := Z.out
    have HB4 := HB3.out
    simp only [putC, Nat.zero_add] at ZZ HB4
    obtain ⟨c0, ⟨k1, k2, k3, k4⟩, kf⟩ := ZZ
    exact bodyPost_ret (v := colV ⟨1, (b0 : Int), 0, 0⟩) (by simp [results, Tryd.results37, go_sem, k1, k2, k3, k4]) rfl ⟨by rw [HE.out], HB4⟩
  · have HE := Lib.hid (show c2M k b0 b1 b2 = ⟨2, (b0 : Int), (b1 : Int), (b2 : Int)⟩ by rw [HM.out]; rfl)
    have Z := Lib.hid (HZ.out.put ⟨2, (b0 : Int), (b1 : Int), (b2 : Int)⟩)
    have HB3 := Lib.hid (HB.out.trans ((putC_but w0 (w.heap.size + 1) 0 ⟨2, (b0 : Int), (b1 : Int), (b2 : Int)⟩).below (C := w.heap.size) (Nat.le_succ _) HB.out.size))
    obtain ⟨y0, ⟨y1, y2, y3, y4⟩, yf⟩ := HZ.out
    dsimp only at y1 y2 y3 y4
    go_enter Tryd.func37, Tryd.ntmps37
    go_upto_region 1 with (fail)
    rw [← hw0]
    clear hw0
    go_wp2
    have ZZ := Z.out
    have HB4 := HB3.out
    simp only [putC, Nat.zero_add] at ZZ HB4
    obtain ⟨c0, ⟨k1, k2, k3, k4⟩, kf⟩ := ZZ
    exact bodyPost_ret (v := colV ⟨2, (b0 : Int), (b1 : Int), (b2 : Int)⟩) (by simp [results, Tryd.results37, go_sem, k1, k2, k3, k4]) rfl ⟨by rw [HE.out], HB4⟩
  · have HE := Lib.hid (show c2M k b0 b1 b2 = ⟨1, (r : Int), 0, 0⟩ by rw [HM.out]; rfl)
    have Z := Lib.hid (HZ.out.put ⟨1, (r : Int), 0, 0⟩)
    have HB3 := Lib.hid (HB.out.trans ((putC_but w0 (w.heap.size + 1) 0 ⟨1, (r : Int), 0, 0⟩).below (C := w.heap.size) (Nat.le_succ _) HB.out.size))
    obtain ⟨y0, ⟨y1, y2, y3, y4⟩, yf⟩ := HZ.out
    dsimp only at y1 y2 y3 y4
    go_enter Tryd.func37, Tryd.ntmps37
    go_upto_region 1 with (fail)
    rw [← hw0]
    clear hw0
    go_wp2
    have ZZ := Z.out
    have HB4 := HB3.out
    simp only [putC, Nat.zero_add] at ZZ HB4
    obtain ⟨c0, ⟨k1, k2, k3, k4⟩, kf⟩ := ZZ
    exact bodyPost_ret (v := colV ⟨1, (r : Int), 0, 0⟩) (by simp [results, Tryd.results37, go_sem, k1, k2, k3, k4]) rfl ⟨by rw [HE.out], HB4⟩
theorem c2_ok (k b0 b1 b2 : Nat) (h0 : b0 < 256) (h1 : b1 < 256) (h2 : b2 < 256) : (c2M k b0 b1 b2).ok := by
  unfold c2M
  split
  · exact idx_ok (by omega) (by omega)
  split
  · exact ⟨bd2, by simp only; omega, by simp only; omega, by simp only; omega⟩
  split
  · exact idx_ok (by omega) (by omega)
  · exact Lab.zero_ok
theorem dFl_lt (f : Nat) : dFl f < 512 := by
  unfold dFl
  have : f % 512 < 512 := Nat.mod_lt _ (by decide)
  split
  · exact Nat.lt_of_le_of_lt Nat.and_le_left this
  · exact this
theorem dAt_ok {d : Dr} (h : d.ok) : (dAt d).ok := by
  obtain ⟨h1, h2, h3, h4, h5, h6, h7, h8⟩ := h
  exact ⟨c2_ok _ _ _ _ h3 h4 h5, c2_ok _ _ _ _ h6 h7 h8, by have := dFl_lt d.fl; show dFl d.fl < 65536; omega⟩
set_option maxHeartbeats 1000000 in
set_option maxRecDepth 100000 in
theorem draft_any (w : World) (d : Dr) (h : d.ok) : Calls Tryd.prog 18 #[drV d] w fun e w' => e = .returned (attV (dAt d)) ∧ Below w.heap.size w w' := by
  obtain ⟨h1, h2, h3, h4, h5, h6, h7, h8⟩ := h
  obtain ⟨w0, hw0⟩ : ∃ w0, w0 = (w.alloc (.cells #[.int .u16 (d.fl : Nat), .int .u8 (d.k : Nat), .int .u8 (d.f0 : Nat), .int .u8 (d.f1 : Nat), .int .u8 (d.f2 : Nat), .int .u8 (d.b0 : Nat), .int .u8 (d.b1 : Nat), .int .u8 (d.b2 : Nat)] 39)).alloc (.cells #[.int .u8 0, .int .u8 0, .int .u8 0, .int .u8 0, .int .u8 0, .int .u8 0, .int .u8 0, .int .u8 0, .int .u16 0] 26) := ⟨_, rfl⟩
  have b0 : Below w.heap.size w w0 := by rw [hw0]; exact ((Below.refl _ _).alloc (Nat.le_refl _) _).alloc (by simp) _
  have HZ := Lib.hid (show AtAt w0 (w.heap.size + 1) At.zero by rw [hw0]; exact AtAt.newAt _ _ (by simp) At.zero _)
  have HB := Lib.hid b0
  have HS := Lib.hid (show (w0.cell? ⟨w.heap.size, 0, none⟩ = some (.int .u16 (d.fl : Nat)) ∧ w0.cell? ⟨w.heap.size, 1, none⟩ = some (.int .u8 (d.k : Nat)) ∧ w0.cell? ⟨w.heap.size, 2, none⟩ = some (.int .u8 (d.f0 : Nat)) ∧ w0.cell? ⟨w.heap.size, 3, none⟩ = some (.int .u8 (d.f1 : Nat)) ∧ w0.cell? ⟨w.heap.size, 4, none⟩ = some (.int .u8 (d.f2 : Nat)) ∧ w0.cell? ⟨w.heap.size, 5, none⟩ = some (.int .u8 (d.b0 : Nat)) ∧ w0.cell? ⟨w.heap.size, 6, none⟩ = some (.int .u8 (d.b1 : Nat)) ∧ w0.cell? ⟨w.heap.size, 7, none⟩ = some (.int .u8 (d.b2 : Nat))) by
    have hb : Below (w.alloc (.cells #[.int .u16 (d.fl : Nat), .int .u8 (d.k : Nat), .int .u8 (d.f0 : Nat), .int .u8 (d.f1 : Nat), .int .u8 (d.f2 : Nat), .int .u8 (d.b0 : Nat), .int .u8 (d.b1 : Nat), .int .u8 (d.b2 : Nat)] 39)).heap.size (w.alloc (.cells #[.int .u16 (d.fl : Nat), .int .u8 (d.k : Nat), .int .u8 (d.f0 : Nat), .int .u8 (d.f1 : Nat), .int .u8 (d.f2 : Nat), .int .u8 (d.b0 : Nat), .int .u8 (d.b1 : Nat), .int .u8 (d.b2 : Nat)] 39)) w0 := by rw [hw0]; exact (Below.refl _ _).alloc (Nat.le_refl _) _
    exact ⟨(hb.cell (p := ⟨w.heap.size, 0, none⟩) (by simp)).trans (by simp), (hb.cell (p := ⟨w.heap.size, 1, none⟩) (by simp)).trans (by simp), (hb.cell (p := ⟨w.heap.size, 2, none⟩) (by simp)).trans (by simp), (hb.cell (p := ⟨w.heap.size, 3, none⟩) (by simp)).trans (by simp), (hb.cell (p := ⟨w.heap.size, 4, none⟩) (by simp)).trans (by simp), (hb.cell (p := ⟨w.heap.size, 5, none⟩) (by simp)).trans (by simp), (hb.cell (p := ⟨w.heap.size, 6, none⟩) (by simp)).trans (by simp), (hb.cell (p := ⟨w.heap.size, 7, none⟩) (by simp)).trans (by simp)⟩)
  have hsz : w.heap.size + 1 < w0.heap.size := HZ.out.1
  have HKEEP := Lib.hid (show ∀ W : World, Below w0.heap.size w0 W → (W.cell? ⟨w.heap.size, 0, none⟩ = some (.int .u16 (d.fl : Nat)) ∧ W.cell? ⟨w.heap.size, 1, none⟩ = some (.int .u8 (d.k : Nat)) ∧ W.cell? ⟨w.heap.size, 2, none⟩ = some (.int .u8 (d.f0 : Nat)) ∧ W.cell? ⟨w.heap.size, 3, none⟩ = some (.int .u8 (d.f1 : Nat)) ∧ W.cell? ⟨w.heap.size, 4, none⟩ = some (.int .u8 (d.f2 : Nat)) ∧ W.cell? ⟨w.heap.size, 5, none⟩ = some (.int .u8 (d.b0 : Nat)) ∧ W.cell? ⟨w.heap.size, 6, none⟩ = some (.int .u8 (d.b1 : Nat)) ∧ W.cell? ⟨w.heap.size, 7, none⟩ = some (.int .u8 (d.b2 : Nat))) from fun W hb => by
    obtain ⟨s0, s1, s2, s3, s4, s5, s6, s7⟩ := HS.out
    exact ⟨(hb.cell (p := ⟨w.heap.size, 0, none⟩) (by simp only; omega)).trans s0, (hb.cell (p := ⟨w.heap.size, 1, none⟩) (by simp only; omega)).trans s1, (hb.cell (p := ⟨w.heap.size, 2, none⟩) (by simp only; omega)).trans s2, (hb.cell (p := ⟨w.heap.size, 3, none⟩) (by simp only; omega)).trans s3, (hb.cell (p := ⟨w.heap.size, 4, none⟩) (by simp only; omega)).trans s4, (hb.cell (p := ⟨w.heap.size, 5, none⟩) (by simp only; omega)).trans s5, (hb.cell (p := ⟨w.heap.size, 6, none⟩) (by simp only; omega)).trans s6, (hb.cell (p := ⟨w.heap.size, 7, none⟩) (by simp only; omega)).trans s7⟩)
  have e1 : (d.k : Int).tdiv 4 = ((d.k / 4 : Nat) : Int) := by rw [Int.tdiv_eq_ediv_of_nonneg (by omega)]; omega
  have e2 : (d.k : Int) / 4 = ((d.k / 4 : Nat) : Int) := by omega
  have e3 : (d.fl : Int).tmod 512 = ((d.fl % 512 : Nat) : Int) := by rw [Int.tmod_eq_emod_of_nonneg (by omega)]; omega
  have e4 : (d.fl : Int) % 512 = ((d.fl % 512 : Nat) : Int) := by omega
  have C1 := Lib.hid (fun W => c2_any W d.k d.f0 d.f1 d.f2 h2 h3)
  have C2 := Lib.hid (fun W => c2_any W (d.k / 4) d.b0 d.b1 d.b2 (by omega) h6)
  obtain ⟨fl, hfl⟩ : ∃ fl, fl = d.fl % 512 := ⟨_, rfl⟩
  obtain ⟨k4, hk4⟩ : ∃ k4, k4 = d.k / 4 := ⟨_, rfl⟩
  obtain ⟨q1, hq1⟩ : ∃ q, q = c2M d.k d.f0 d.f1 d.f2 := ⟨_, rfl⟩
  obtain ⟨q2, hq2⟩ : ∃ q, q = c2M k4 d.b0 d.b1 d.b2 := ⟨_, rfl⟩
  have HD := Lib.hid (show dAt d = ⟨q1, q2, if fl &&& 8 ≠ 0 then fl &&& (65535 - 256) else fl⟩ by rw [hq1, hq2, hfl, hk4]; rfl)
  have hfl5 : fl < 512 := by rw [hfl]; exact Nat.mod_lt _ (by decide)
  rw [← hfl] at e3 e4
  rw [← hk4] at e1 e2 C2
  have hk44 : k4 < 256 := by omega
  have e5 : IntKind.u8.wrap (k4 : Int) = k4 := by rw [IntKind.wrap_u8']; omega
  have e6 : IntKind.u16.wrap (fl : Int) = fl := by rw [IntKind.wrap_u16]; omega
  rw [← hq1] at C1
  rw [← hq2] at C2
  have HW0 := Lib.hid (Below.refl w0.heap.size w0)
  clear hfl hk4 hq1 hq2 b0
  go_enter Tryd.func18, Tryd.ntmps18
  go_upto_region 1 with (fail)
  rw [← hw0]
  clear hw0
  go_cut [3] (fun p wc => ∃ z, p = .pointer (some ⟨z, 0, none⟩) ∧ Hid (AtAt wc z ⟨q1, q2, fl⟩) ∧ Hid (w0.heap.size ≤ z) ∧ Hid (Below w0.heap.size w0 wc))
  case first =>
    have BB : Below w0.heap.size w0 w0.drew := ⟨rfl, rfl, rfl, Nat.le_refl _, fun _ _ => rfl⟩
    refine wp_region_held_drew (S := fun w' => w'.cell? ⟨w.heap.size, 0, none⟩ = some (.int .u16 (d.fl : Nat)) ∧ w'.cell? ⟨w.heap.size, 1, none⟩ = some (.int .u8 (d.k : Nat)) ∧ w'.cell? ⟨w.heap.size, 2, none⟩ = some (.int .u8 (d.f0 : Nat)) ∧ w'.cell? ⟨w.heap.size, 3, none⟩ = some (.int .u8 (d.f1 : Nat)) ∧ w'.cell? ⟨w.heap.size, 4, none⟩ = some (.int .u8 (d.f2 : Nat)) ∧ w'.cell? ⟨w.heap.size, 5, none⟩ = some (.int .u8 (d.b0 : Nat)) ∧ w'.cell? ⟨w.heap.size, 6, none⟩ = some (.int .u8 (d.b1 : Nat)) ∧ w'.cell? ⟨w.heap.size, 7, none⟩ = some (.int .u8 (d.b2 : Nat))) (by kernel_rfl) ?_ (fun hHeld => ?_)
    · exact HKEEP.out _ BB
    obtain ⟨u0, hu0⟩ : ∃ u0, u0 = w0.drew := ⟨_, rfl⟩
    rw [← hu0] at BB hHeld ⊢
    clear hu0
    have HW := Lib.hid BB
    clear BB
    refine take_at (i := 0) (v := ?_) rfl (by kernel_rfl) (by kernel_rfl) (by kernel_rfl) (fun _ _ _ h => h) (by kernel_rfl) (by assumption) ?_ ?_
    rotate_left
    · (intro w hSw; (try dsimp only at hSw); go_simp; try with_reducible rfl)
    simp only [Act.put, List.setIfInBounds_toArray, List.set_cons_zero, List.set_cons_succ]
    refine take_at (i := 1) (v := ?_) rfl (by kernel_rfl) (by kernel_rfl) (by kernel_rfl) (fun _ _ _ h => h) (by kernel_rfl) (by assumption) ?_ ?_
    rotate_left
    · (intro w hSw; (try dsimp only at hSw); go_simp; try with_reducible rfl)
    simp only [Act.put, List.setIfInBounds_toArray, List.set_cons_zero, List.set_cons_succ]
    refine take_at (i := 2) (v := ?_) rfl (by kernel_rfl) (by kernel_rfl) (by kernel_rfl) (fun _ _ _ h => h) (by kernel_rfl) (by assumption) ?_ ?_
    rotate_left
    · (intro w hSw; (try dsimp only at hSw); go_simp; try with_reducible rfl)
    simp only [Act.put, List.setIfInBounds_toArray, List.set_cons_zero, List.set_cons_succ]
    refine take_at (i := 3) (v := ?_) rfl (by kernel_rfl) (by kernel_rfl) (by kernel_rfl) (fun _ _ _ h => h) (by kernel_rfl) (by assumption) ?_ ?_
    rotate_left
    · (intro w hSw; (try dsimp only at hSw); go_simp; try with_reducible rfl)
    simp only [Act.put, List.setIfInBounds_toArray, List.set_cons_zero, List.set_cons_succ]
    refine take_at (i := 5) (v := ?_) rfl (by kernel_rfl) (by kernel_rfl) (by kernel_rfl) (fun _ _ _ h => h) (by kernel_rfl) (by assumption) ?_ ?_
    rotate_left
    · (intro w hSw; (try dsimp only at hSw); go_simp; try with_reducible rfl)
    simp only [Act.put, List.setIfInBounds_toArray, List.set_cons_zero, List.set_cons_succ]
    refine take_at (i := 6) (v := ?_) rfl (by kernel_rfl) (by kernel_rfl) (by kernel_rfl) (fun _ _ _ h => h) (by kernel_rfl) (by assumption) ?_ ?_
    rotate_left
    · (intro w hSw; (try dsimp only at hSw); go_simp; try with_reducible rfl)
    simp only [Act.put, List.setIfInBounds_toArray, List.set_cons_zero, List.set_cons_succ]
    refine take_at (i := 7) (v := ?_) rfl (by kernel_rfl) (by kernel_rfl) (by kernel_rfl) (fun _ _ _ h => h) (by kernel_rfl) (by assumption) ?_ ?_
    rotate_left
    · (intro w hSw; (try dsimp only at hSw); go_simp; try with_reducible rfl)
    simp only [Act.put, List.setIfInBounds_toArray, List.set_cons_zero, List.set_cons_succ]
    refine take_at (i := 8) (v := ?_) rfl (by kernel_rfl) (by kernel_rfl) (by kernel_rfl) (fun _ _ _ h => h) (by kernel_rfl) (by assumption) ?_ ?_
    rotate_left
    · (intro w hSw; (try dsimp only at hSw); go_simp; try with_reducible rfl)
    simp only [Act.put, List.setIfInBounds_toArray, List.set_cons_zero, List.set_cons_succ]
    refine take_at (i := 9) (v := ?_) rfl (by kernel_rfl) (by kernel_rfl) (by kernel_rfl) (fun _ _ _ h => h) (by kernel_rfl) (by assumption) ?_ ?_
    rotate_left
    · (intro w hSw; (try dsimp only at hSw); go_simp; try with_reducible rfl)
    simp only [Act.put, List.setIfInBounds_toArray, List.set_cons_zero, List.set_cons_succ]
    refine take_at (i := 11) (v := ?_) rfl (by kernel_rfl) (by kernel_rfl) (by kernel_rfl) (fun _ _ _ h => h) (by kernel_rfl) (by assumption) ?_ ?_
    rotate_left
    · (intro w hSw; (try dsimp only at hSw); go_simp; try with_reducible rfl)
    simp only [Act.put, List.setIfInBounds_toArray, List.set_cons_zero, List.set_cons_succ]
    refine take_at (i := 12) (v := ?_) rfl (by kernel_rfl) (by kernel_rfl) (by kernel_rfl) (fun _ _ _ h => h) (by kernel_rfl) (by assumption) ?_ ?_
    rotate_left
    · (intro w hSw; (try dsimp only at hSw); go_simp; try with_reducible rfl)
    simp only [Act.put, List.setIfInBounds_toArray, List.set_cons_zero, List.set_cons_succ]
    refine take_at (i := 13) (v := ?_) rfl (by kernel_rfl) (by kernel_rfl) (by kernel_rfl) (fun _ _ _ h => h) (by kernel_rfl) (by assumption) ?_ ?_
    rotate_left
    · (intro w hSw; (try dsimp only at hSw); go_simp; try with_reducible rfl)
    simp only [Act.put, List.setIfInBounds_toArray, List.set_cons_zero, List.set_cons_succ]
    refine two_at (i := 4) (j := 15) rfl rfl (by kernel_rfl) (by kernel_rfl) (by kernel_rfl) (fun K hK => ?_) (fun K hK => ?_)
    · go_simp
      refine (C1.out _).mono ?_
      rintro e u4 ⟨rfl, bb⟩
      replace HW := Lib.hid (HW.out.trans (bb.mono HW.out.size))
      clear bb
      go_wp2_with fail
      refine hK.out _ _ ?_ (fun hHeld => ?_)
      · exact HKEEP.out _ HW.out
      clear hK K
      try simp only [Act.put, List.setIfInBounds_toArray, List.set_cons_zero, List.set_cons_succ]
      refine two_at (i := 10) (j := 15) rfl rfl (by kernel_rfl) (by kernel_rfl) (by kernel_rfl) (fun K hK => ?_) (fun K hK => ?_)
      · go_simp
        refine (C2.out _).mono ?_
        rintro e u10 ⟨rfl, bb⟩
        replace HW := Lib.hid (HW.out.trans (bb.mono HW.out.size))
        clear bb
        go_wp2_with fail
        refine hK.out _ _ ?_ (fun hHeld => ?_)
        · exact HKEEP.out _ HW.out
        clear hK K
        try simp only [Act.put, List.setIfInBounds_toArray, List.set_cons_zero, List.set_cons_succ]
        refine take_at (i := 14) (v := ?_) rfl (by kernel_rfl) (by kernel_rfl) (by kernel_rfl) (fun _ _ _ h => h) (by kernel_rfl) (by assumption) ?_ ?_
        rotate_left
        · (intro w hSw; (try dsimp only at hSw); go_simp; try with_reducible rfl)
        simp only [Act.put, List.setIfInBounds_toArray, List.set_cons_zero, List.set_cons_succ]
        refine do_at (i := 15) rfl (by kernel_rfl) (by kernel_rfl) (fun K hK => ?_)
        go_wp2_with fail
        obtain ⟨u15, hu15⟩ : ∃ u, u = u10.alloc (.cells #[.int .u8 0, .int .u8 0, .int .u8 0, .int .u8 0, .int .u8 0, .int .u8 0, .int .u8 0, .int .u8 0, .int .u16 0] 26) := ⟨_, rfl⟩
        rw [← hu15]
        have HA := Lib.hid (show AtAt u15 u10.heap.size At.zero by rw [hu15]; exact AtAt.newAt _ _ rfl At.zero _)
        have HSZ := Lib.hid HW.out.size
        obtain ⟨z, hz⟩ : ∃ z, z = u10.heap.size := ⟨_, rfl⟩
        rw [← hz] at HA HSZ ⊢
        replace HW := Lib.hid (show Below w0.heap.size w0 u15 by rw [hu15]; exact HW.out.alloc HW.out.size _)
        clear hu15 hz
        refine hK.out _ _ ?_ (fun hHeld => ?_)
        · exact HKEEP.out _ HW.out
        clear hK K
        try simp only [Act.put, List.setIfInBounds_toArray, List.set_cons_zero, List.set_cons_succ]
        refine do_at (i := 16) rfl (by kernel_rfl) (by kernel_rfl) (fun K hK => ?_)
        obtain ⟨y0, ⟨y1, y2, y3, y4, y5, y6, y7, y8, y9⟩, yf⟩ := HA.out
        dsimp only at y1 y2 y3 y4 y5 y6 y7 y8 y9
        go_wp2_with fail
        clear y0 y1 y2 y3 y4 y5 y6 y7 y8 y9 yf
        replace HA := Lib.hid (HA.out.putA ⟨q1, q2, fl⟩)
        replace HW := Lib.hid (HW.out.trans ((putA_but u15 z ⟨q1, q2, fl⟩).below (C := w0.heap.size) HSZ.out HW.out.size))
        refine hK.out _ _ ?_ (fun hHeld => ?_)
        · exact HKEEP.out _ HW.out
        clear hK K
        try simp only [Act.put, List.setIfInBounds_toArray, List.set_cons_zero, List.set_cons_succ]
        refine wpAnyH_done (by kernel_rfl) ?_ _
        go_wp2
        go_meet
        case rel => exact ⟨z, rfl, HA, HSZ, HW⟩
      · go_wp2_with fail
        obtain ⟨u15, hu15⟩ : ∃ u, u = u4.alloc (.cells #[.int .u8 0, .int .u8 0, .int .u8 0, .int .u8 0, .int .u8 0, .int .u8 0, .int .u8 0, .int .u8 0, .int .u16 0] 26) := ⟨_, rfl⟩
        rw [← hu15]
        have HA := Lib.hid (show AtAt u15 u4.heap.size At.zero by rw [hu15]; exact AtAt.newAt _ _ rfl At.zero _)
        have HSZ := Lib.hid HW.out.size
        obtain ⟨z, hz⟩ : ∃ z, z = u4.heap.size := ⟨_, rfl⟩
        rw [← hz] at HA HSZ ⊢
        replace HW := Lib.hid (show Below w0.heap.size w0 u15 by rw [hu15]; exact HW.out.alloc HW.out.size _)
        clear hu15 hz
        refine hK.out _ _ ?_ (fun hHeld => ?_)
        · exact HKEEP.out _ HW.out
        clear hK K
        try simp only [Act.put, List.setIfInBounds_toArray, List.set_cons_zero, List.set_cons_succ]
        refine do_at (i := 10) rfl (by kernel_rfl) (by kernel_rfl) (fun K hK => ?_)
        go_simp
        refine (C2.out _).mono ?_
        rintro e u10 ⟨rfl, bb⟩
        replace HA := Lib.hid (HA.out.below bb)
        replace HW := Lib.hid (HW.out.trans (bb.mono HW.out.size))
        clear bb
        go_wp2_with fail
        refine hK.out _ _ ?_ (fun hHeld => ?_)
        · exact HKEEP.out _ HW.out
        clear hK K
        try simp only [Act.put, List.setIfInBounds_toArray, List.set_cons_zero, List.set_cons_succ]
        refine take_at (i := 14) (v := ?_) rfl (by kernel_rfl) (by kernel_rfl) (by kernel_rfl) (fun _ _ _ h => h) (by kernel_rfl) (by assumption) ?_ ?_
        rotate_left
        · (intro w hSw; (try dsimp only at hSw); go_simp; try with_reducible rfl)
        simp only [Act.put, List.setIfInBounds_toArray, List.set_cons_zero, List.set_cons_succ]
        refine do_at (i := 16) rfl (by kernel_rfl) (by kernel_rfl) (fun K hK => ?_)
        obtain ⟨y0, ⟨y1, y2, y3, y4, y5, y6, y7, y8, y9⟩, yf⟩ := HA.out
        dsimp only at y1 y2 y3 y4 y5 y6 y7 y8 y9
        go_wp2_with fail
        clear y0 y1 y2 y3 y4 y5 y6 y7 y8 y9 yf
        replace HA := Lib.hid (HA.out.putA ⟨q1, q2, fl⟩)
        replace HW := Lib.hid (HW.out.trans ((putA_but u10 z ⟨q1, q2, fl⟩).below (C := w0.heap.size) HSZ.out HW.out.size))
        refine hK.out _ _ ?_ (fun hHeld => ?_)
        · exact HKEEP.out _ HW.out
        clear hK K
        try simp only [Act.put, List.setIfInBounds_toArray, List.set_cons_zero, List.set_cons_succ]
        refine wpAnyH_done (by kernel_rfl) ?_ _
        go_wp2
        go_meet
        case rel => exact ⟨z, rfl, HA, HSZ, HW⟩
    · go_wp2_with fail
      obtain ⟨u15, hu15⟩ : ∃ u, u = u0.alloc (.cells #[.int .u8 0, .int .u8 0, .int .u8 0, .int .u8 0, .int .u8 0, .int .u8 0, .int .u8 0, .int .u8 0, .int .u16 0] 26) := ⟨_, rfl⟩
      rw [← hu15]
      have HA := Lib.hid (show AtAt u15 u0.heap.size At.zero by rw [hu15]; exact AtAt.newAt _ _ rfl At.zero _)
      have HSZ := Lib.hid HW.out.size
      obtain ⟨z, hz⟩ : ∃ z, z = u0.heap.size := ⟨_, rfl⟩
      rw [← hz] at HA HSZ ⊢
      replace HW := Lib.hid (show Below w0.heap.size w0 u15 by rw [hu15]; exact HW.out.alloc HW.out.size _)
      clear hu15 hz
      refine hK.out _ _ ?_ (fun hHeld => ?_)
      · exact HKEEP.out _ HW.out
      clear hK K
      try simp only [Act.put, List.setIfInBounds_toArray, List.set_cons_zero, List.set_cons_succ]
      refine do_at (i := 4) rfl (by kernel_rfl) (by kernel_rfl) (fun K hK => ?_)
      go_simp
      refine (C1.out _).mono ?_
      rintro e u4 ⟨rfl, bb⟩
      replace HA := Lib.hid (HA.out.below bb)
      replace HW := Lib.hid (HW.out.trans (bb.mono HW.out.size))
      clear bb
      go_wp2_with fail
      refine hK.out _ _ ?_ (fun hHeld => ?_)
      · exact HKEEP.out _ HW.out
      clear hK K
      try simp only [Act.put, List.setIfInBounds_toArray, List.set_cons_zero, List.set_cons_succ]
      refine do_at (i := 10) rfl (by kernel_rfl) (by kernel_rfl) (fun K hK => ?_)
      go_simp
      refine (C2.out _).mono ?_
      rintro e u10 ⟨rfl, bb⟩
      replace HA := Lib.hid (HA.out.below bb)
      replace HW := Lib.hid (HW.out.trans (bb.mono HW.out.size))
      clear bb
      go_wp2_with fail
      refine hK.out _ _ ?_ (fun hHeld => ?_)
      · exact HKEEP.out _ HW.out
      clear hK K
      try simp only [Act.put, List.setIfInBounds_toArray, List.set_cons_zero, List.set_cons_succ]
      refine take_at (i := 14) (v := ?_) rfl (by kernel_rfl) (by kernel_rfl) (by kernel_rfl) (fun _ _ _ h => h) (by kernel_rfl) (by assumption) ?_ ?_
      rotate_left
      · (intro w hSw; (try dsimp only at hSw); go_simp; try with_reducible rfl)
      simp only [Act.put, List.setIfInBounds_toArray, List.set_cons_zero, List.set_cons_succ]
      refine do_at (i := 16) rfl (by kernel_rfl) (by kernel_rfl) (fun K hK => ?_)
      obtain ⟨y0, ⟨y1, y2, y3, y4, y5, y6, y7, y8, y9⟩, yf⟩ := HA.out
      dsimp only at y1 y2 y3 y4 y5 y6 y7 y8 y9
      go_wp2_with fail
      clear y0 y1 y2 y3 y4 y5 y6 y7 y8 y9 yf
      replace HA := Lib.hid (HA.out.putA ⟨q1, q2, fl⟩)
      replace HW := Lib.hid (HW.out.trans ((putA_but u10 z ⟨q1, q2, fl⟩).below (C := w0.heap.size) HSZ.out HW.out.size))
      refine hK.out _ _ ?_ (fun hHeld => ?_)
      · exact HKEEP.out _ HW.out
      clear hK K
      try simp only [Act.put, List.setIfInBounds_toArray, List.set_cons_zero, List.set_cons_succ]
      refine wpAnyH_done (by kernel_rfl) ?_ _
      go_wp2
      go_meet
      case rel => exact ⟨z, rfl, HA, HSZ, HW⟩
  case rest =>
    obtain ⟨z, rfl, HA, HSZ, HW⟩ := hcut
    obtain ⟨w1, rfl⟩ : ∃ w1 : World, w1 = wc := ⟨_, rfl⟩
    have hzz : w.heap.size + 1 ≠ z := by have := HSZ.out; omega
    have HZ1 := Lib.hid (HZ.out.same (w' := w1) (by have := HW.out.size; omega) (HW.out.block _ hsz))
    have HB1 := Lib.hid (HB.out.trans (HW.out.mono HB.out.size))
    have hbit : bits .and .u16 (fl : Int) 8 = ((fl &&& 8 : Nat) : Int) := u16_and_nat fl 8 (by omega) (by decide)
    have hbit2 : bits .andNot .u16 (fl : Int) 256 = ((fl &&& (65535 - 256) : Nat) : Int) := u16_andNot_nat fl 256 (by omega) (by decide)
    by_cases h8 : fl &&& 8 = 0
    · have HE := Lib.hid (show dAt d = ⟨q1, q2, fl⟩ by rw [HD.out, if_neg (by simpa using h8)])
      rw [h8] at hbit
      have Z := Lib.hid (HZ1.out.putA ⟨q1, q2, fl⟩)
      have HB3 := Lib.hid (HB1.out.trans ((putA_but w1 (w.heap.size + 1) ⟨q1, q2, fl⟩).below (C := w.heap.size) (Nat.le_succ _) HB1.out.size))
      obtain ⟨x0, ⟨x1, x2, x3, x4, x5, x6, x7, x8, x9⟩, xf⟩ := HZ1.out
      obtain ⟨y0, ⟨y1, y2, y3, y4, y5, y6, y7, y8, y9⟩, yf⟩ := HA.out
      dsimp only at x1 x2 x3 x4 x5 x6 x7 x8 x9 y1 y2 y3 y4 y5 y6 y7 y8 y9
      clear hbit2 h8
      go_wp2
      have ZZ := Z.out
      have HB4 := HB3.out
      simp only [putA, putC, Nat.zero_add, Nat.reduceAdd] at ZZ HB4
      obtain ⟨c0, ⟨k1, k2, k3, k4', k5, k6, k7, k8, k9⟩, kf⟩ := ZZ
      exact bodyPost_ret (v := attV ⟨q1, q2, fl⟩) (by simp [results, Tryd.results18, go_sem, k1, k2, k3, k4', k5, k6, k7, k8, k9]) rfl ⟨by rw [HE.out], HB4⟩
    · have HE := Lib.hid (show dAt d = ⟨q1, q2, fl &&& (65535 - 256)⟩ by rw [HD.out, if_pos h8])
      obtain ⟨b8, hb8⟩ : ∃ b8, b8 = fl &&& 8 := ⟨_, rfl⟩
      rw [← hb8] at hbit h8
      obtain ⟨f2, hf2⟩ : ∃ f2, f2 = fl &&& (65535 - 256) := ⟨_, rfl⟩
      rw [← hf2] at hbit2 HE
      have hne : ((b8 : Int) != 0) = true := by simp; omega
      have hne' : ((b8 : Int) == 0) = false := by simp; omega
      have HA2 := Lib.hid (HA.out.putFl f2)
      have HZ2 := Lib.hid (HZ1.out.same (w' := w1.setCell ⟨z, 8, none⟩ (.int .u16 (f2 : Nat))) (by simp) (Below.heap_setCell _ _ _ _ hzz))
      have HB2 := Lib.hid (HB1.out.setCell (p := ⟨z, 8, none⟩) (show w.heap.size ≤ z by have := HSZ.out; omega) (.int .u16 (f2 : Nat)))
      have Z := Lib.hid (HZ2.out.putA ⟨q1, q2, f2⟩)
      have HB3 := Lib.hid (HB2.out.trans ((putA_but (w1.setCell ⟨z, 8, none⟩ (.int .u16 (f2 : Nat))) (w.heap.size + 1) ⟨q1, q2, f2⟩).below (C := w.heap.size) (Nat.le_succ _) HB2.out.size))
      obtain ⟨x0, ⟨x1, x2, x3, x4, x5, x6, x7, x8, x9⟩, xf⟩ := HZ2.out
      obtain ⟨y0, ⟨y1, y2, y3, y4, y5, y6, y7, y8, y9⟩, yf⟩ := HA2.out
      have v9 := HA.out.2.1.2.2.2.2.2.2.2.2
      have vf := HA.out.2.2
      dsimp only at x1 x2 x3 x4 x5 x6 x7 x8 x9 y1 y2 y3 y4 y5 y6 y7 y8 y9 v9
      clear h8 hb8 hf2
      go_wp2
      have ZZ := Z.out
      have HB4 := HB3.out
      simp only [putA, putC, Nat.zero_add, Nat.reduceAdd] at ZZ HB4
      obtain ⟨c0, ⟨k1, k2, k3, k4', k5, k6, k7, k8, k9⟩, kf⟩ := ZZ
      exact bodyPost_ret (v := attV ⟨q1, q2, f2⟩) (by simp [results, Tryd.results18, go_sem, k1, k2, k3, k4', k5, k6, k7, k8, k9]) rfl ⟨by rw [HE.out], HB4⟩
end Go.Proofs.YtlmhnebgkginkaaDoor.Lab
