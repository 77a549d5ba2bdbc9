/- What width.Of answers of any rune; its rows' places, and the look-up by halves; Mark, Wide, columns. -/
import Derived.Test.YtlaafmjiiiaceaaDoorWiTab
namespace Go.Proofs.YtlaafmjiiiaceaaDoor.Lab
open Go.RowKit

theorem len1 : unshownT.length = 4 := rfl
set_option maxHeartbeats 1000000 in
theorem row1 (k : Nat) (hk : k < 4) (w : World) (hT : TabAt w 0 unshownT) :
    Calls Tryd.prog 63 #[.int .i64 k] w fun e w' => e = .returned (.agg #[.int .i32 (loT unshownT k), .int .i32 (hiT unshownT k)]) ∧ Below w.heap.size w w' := by
  obtain ⟨h0, h1⟩ := hT
  obtain ⟨c0, c1⟩ := h1 k hk
  clear h1
  generalize loT unshownT k = x at *
  generalize hiT unshownT k = y at *
  go_enter Tryd.func63, Tryd.ntmps63
  go_wp2
  exact bodyPost_ret (v := .agg #[.int .i32 x, .int .i32 y]) (by simp [results, Tryd.results63, go_sem]) rfl ⟨rfl, (Below.refl _ _).alloc (Nat.le_refl _) _⟩
theorem row1i (q : Int) (k : Nat) (hq : q = (k : Int)) (hk : k < 4) (w : World) (hT : TabAt w 0 unshownT) :
    Calls Tryd.prog 63 #[.int .i64 q] w fun e w' => e = .returned (.agg #[.int .i32 (loT unshownT k), .int .i32 (hiT unshownT k)]) ∧ Below w.heap.size w w' := by
  subst hq; exact row1 k hk w hT

theorem len2 : marksT.length = 32 := rfl
set_option maxHeartbeats 1000000 in
theorem row2 (k : Nat) (hk : k < 32) (w : World) (hT : TabAt w 1 marksT) :
    Calls Tryd.prog 64 #[.int .i64 k] w fun e w' => e = .returned (.agg #[.int .i32 (loT marksT k), .int .i32 (hiT marksT k)]) ∧ Below w.heap.size w w' := by
  obtain ⟨h0, h1⟩ := hT
  obtain ⟨c0, c1⟩ := h1 k hk
  clear h1
  generalize loT marksT k = x at *
  generalize hiT marksT k = y at *
  go_enter Tryd.func64, Tryd.ntmps64
  go_wp2
  exact bodyPost_ret (v := .agg #[.int .i32 x, .int .i32 y]) (by simp [results, Tryd.results64, go_sem]) rfl ⟨rfl, (Below.refl _ _).alloc (Nat.le_refl _) _⟩
theorem row2i (q : Int) (k : Nat) (hq : q = (k : Int)) (hk : k < 32) (w : World) (hT : TabAt w 1 marksT) :
    Calls Tryd.prog 64 #[.int .i64 q] w fun e w' => e = .returned (.agg #[.int .i32 (loT marksT k), .int .i32 (hiT marksT k)]) ∧ Below w.heap.size w w' := by
  subst hq; exact row2 k hk w hT

theorem len3 : broadT.length = 15 := rfl
set_option maxHeartbeats 1000000 in
theorem row3 (k : Nat) (hk : k < 15) (w : World) (hT : TabAt w 2 broadT) :
    Calls Tryd.prog 65 #[.int .i64 k] w fun e w' => e = .returned (.agg #[.int .i32 (loT broadT k), .int .i32 (hiT broadT k)]) ∧ Below w.heap.size w w' := by
  obtain ⟨h0, h1⟩ := hT
  obtain ⟨c0, c1⟩ := h1 k hk
  clear h1
  generalize loT broadT k = x at *
  generalize hiT broadT k = y at *
  go_enter Tryd.func65, Tryd.ntmps65
  go_wp2
  exact bodyPost_ret (v := .agg #[.int .i32 x, .int .i32 y]) (by simp [results, Tryd.results65, go_sem]) rfl ⟨rfl, (Below.refl _ _).alloc (Nat.le_refl _) _⟩
theorem row3i (q : Int) (k : Nat) (hq : q = (k : Int)) (hk : k < 15) (w : World) (hT : TabAt w 2 broadT) :
    Calls Tryd.prog 65 #[.int .i64 q] w fun e w' => e = .returned (.agg #[.int .i32 (loT broadT k), .int .i32 (hiT broadT k)]) ∧ Below w.heap.size w w' := by
  subst hq; exact row3 k hk w hT

set_option maxHeartbeats 4000000 in
theorem among1 (x : Int) (w : World) (hT : TabAt w 0 unshownT) :
    Calls Tryd.prog 62 #[.int .i32 x, .int .i64 4, .func (.func 63) #[] #[]] w fun e w' => e = .returned (.bool (inB unshownT x)) ∧ Below w.heap.size w w' := by
  have H := Lib.hid hT
  clear hT
  go_enter Tryd.func62, Tryd.ntmps62
  go_wp2
  go_loopw [7, 8] (fun va vb wr => ∃ a b : Nat, a ≤ b ∧ b ≤ 4 ∧ va = .int .i64 a ∧ vb = .int .i64 b ∧ Hid ((∀ i, i < a → hiT unshownT i < x) ∧ (∀ i, b ≤ i → i < 4 → x < loT unshownT i)) ∧ Hid (Below w.heap.size w wr)) (fun va vb _ => (intOf vb - intOf va).toNat)
  case atStart => exact ⟨0, 4, by omega, by omega, rfl, rfl, Lib.hid ⟨fun i hi => by omega, fun i h1 h2 => by omega⟩, Lib.hid (Below.refl _ _)⟩
  case round =>
    obtain ⟨a, b, hab, hb, rfl, rfl, hR, hB⟩ := hrel
    by_cases hlt : a < b
    · go_wp2_with fail
      refine (row1i _ ((a + b) / 2) (by omega) (by omega) _ (H.out.below hB.out)).mono ?_
      rintro e w5 ⟨rfl, hb5⟩
      have HB := Lib.hid (show Below w.heap.size w w5 from hB.out.trans (hb5.mono hB.out.size))
      clear hb5
      obtain ⟨k, hk⟩ : ∃ k, k = (a + b) / 2 := ⟨_, rfl⟩
      have hq : ((a : Int) + (b : Int)) / 2 = (k : Int) := by omega
      rw [← hk]
      simp only [hq]
      have HK := Lib.hid hk
      have k1 : a ≤ k := by omega
      have k2 : k < b := by omega
      have k3 : k < 4 := by omega
      clear hk hq
      have H1 := Lib.hid (fun i (h : i < k) => (show hiT unshownT i < loT unshownT k from rise_at unshownT rise1 i k h k3))
      have H2 := Lib.hid (fun i (h : k < i) (hi : i < 4) => (show hiT unshownT k < loT unshownT i from rise_at unshownT rise1 k i h hi))
      have H3 := Lib.hid (rise_in unshownT rise1 k k3)
      have H4 := Lib.hid (fun (h1 : loT unshownT k ≤ x) (h2 : x ≤ hiT unshownT k) => inB_at (l := unshownT) k k3 h1 h2)
      have H5 := Lib.hid (fun i (hi : i < 4) => rise_in unshownT rise1 i hi)
      have HR2 := Lib.hid (show (x < loT unshownT k → ∀ i, k ≤ i → i < 4 → x < loT unshownT i) ∧ (hiT unshownT k < x → ∀ i, i < k + 1 → hiT unshownT i < x) from
        ⟨fun h i h1 h2 => by
          by_cases e : i = k
          · subst e; exact h
          · have := H2.out i (by omega) h2; have := H3.out; omega,
         fun h i h1 => by
          by_cases e : i = k
          · subst e; exact h
          · have := H1.out i (by omega); have := H3.out; omega⟩)
      generalize loT unshownT k = lo at *
      generalize hiT unshownT k = hi at *
      by_cases hx : x < lo
      · go_wp2
        go_roundw
        case rel => exact ⟨a, k, by omega, by omega, rfl, rfl, Lib.hid ⟨hR.out.1, HR2.out.1 hx⟩, Lib.hid (HB.out.alloc HB.out.size _)⟩
        case measure => simp [intOf]; omega
      · by_cases hy : hi < x
        · go_wp2
          go_roundw
          case rel => exact ⟨k + 1, b, by omega, by omega, by go_num, rfl, Lib.hid ⟨HR2.out.2 hy, hR.out.2⟩, Lib.hid (HB.out.alloc HB.out.size _)⟩
          case measure => simp [intOf]; omega
        · go_wp2
          go_ret
          exact ⟨by rw [H4.out (by omega) (by omega)]; rfl, HB.out.alloc HB.out.size _⟩
    · obtain rfl : a = b := by omega
      go_wp2
      go_ret
      exact ⟨by rw [inB_none a (fun i h1 h2 => hR.out.1 i h1) (fun i h1 h2 => hR.out.2 i h1 h2)]; rfl, hB.out⟩

set_option maxHeartbeats 4000000 in
theorem among2 (x : Int) (w : World) (hT : TabAt w 1 marksT) :
    Calls Tryd.prog 62 #[.int .i32 x, .int .i64 32, .func (.func 64) #[] #[]] w fun e w' => e = .returned (.bool (inB marksT x)) ∧ Below w.heap.size w w' := by
  have H := Lib.hid hT
  clear hT
  go_enter Tryd.func62, Tryd.ntmps62
  go_wp2
  go_loopw [7, 8] (fun va vb wr => ∃ a b : Nat, a ≤ b ∧ b ≤ 32 ∧ va = .int .i64 a ∧ vb = .int .i64 b ∧ Hid ((∀ i, i < a → hiT marksT i < x) ∧ (∀ i, b ≤ i → i < 32 → x < loT marksT i)) ∧ Hid (Below w.heap.size w wr)) (fun va vb _ => (intOf vb - intOf va).toNat)
  case atStart => exact ⟨0, 32, by omega, by omega, rfl, rfl, Lib.hid ⟨fun i hi => by omega, fun i h1 h2 => by omega⟩, Lib.hid (Below.refl _ _)⟩
  case round =>
    obtain ⟨a, b, hab, hb, rfl, rfl, hR, hB⟩ := hrel
    by_cases hlt : a < b
    · go_wp2_with fail
      refine (row2i _ ((a + b) / 2) (by omega) (by omega) _ (H.out.below hB.out)).mono ?_
      rintro e w5 ⟨rfl, hb5⟩
      have HB := Lib.hid (show Below w.heap.size w w5 from hB.out.trans (hb5.mono hB.out.size))
      clear hb5
      obtain ⟨k, hk⟩ : ∃ k, k = (a + b) / 2 := ⟨_, rfl⟩
      have hq : ((a : Int) + (b : Int)) / 2 = (k : Int) := by omega
      rw [← hk]
      simp only [hq]
      have HK := Lib.hid hk
      have k1 : a ≤ k := by omega
      have k2 : k < b := by omega
      have k3 : k < 32 := by omega
      clear hk hq
      have H1 := Lib.hid (fun i (h : i < k) => (show hiT marksT i < loT marksT k from rise_at marksT rise2 i k h k3))
      have H2 := Lib.hid (fun i (h : k < i) (hi : i < 32) => (show hiT marksT k < loT marksT i from rise_at marksT rise2 k i h hi))
      have H3 := Lib.hid (rise_in marksT rise2 k k3)
      have H4 := Lib.hid (fun (h1 : loT marksT k ≤ x) (h2 : x ≤ hiT marksT k) => inB_at (l := marksT) k k3 h1 h2)
      have H5 := Lib.hid (fun i (hi : i < 32) => rise_in marksT rise2 i hi)
      have HR2 := Lib.hid (show (x < loT marksT k → ∀ i, k ≤ i → i < 32 → x < loT marksT i) ∧ (hiT marksT k < x → ∀ i, i < k + 1 → hiT marksT i < x) from
        ⟨fun h i h1 h2 => by
          by_cases e : i = k
          · subst e; exact h
          · have := H2.out i (by omega) h2; have := H3.out; omega,
         fun h i h1 => by
          by_cases e : i = k
          · subst e; exact h
          · have := H1.out i (by omega); have := H3.out; omega⟩)
      generalize loT marksT k = lo at *
      generalize hiT marksT k = hi at *
      by_cases hx : x < lo
      · go_wp2
        go_roundw
        case rel => exact ⟨a, k, by omega, by omega, rfl, rfl, Lib.hid ⟨hR.out.1, HR2.out.1 hx⟩, Lib.hid (HB.out.alloc HB.out.size _)⟩
        case measure => simp [intOf]; omega
      · by_cases hy : hi < x
        · go_wp2
          go_roundw
          case rel => exact ⟨k + 1, b, by omega, by omega, by go_num, rfl, Lib.hid ⟨HR2.out.2 hy, hR.out.2⟩, Lib.hid (HB.out.alloc HB.out.size _)⟩
          case measure => simp [intOf]; omega
        · go_wp2
          go_ret
          exact ⟨by rw [H4.out (by omega) (by omega)]; rfl, HB.out.alloc HB.out.size _⟩
    · obtain rfl : a = b := by omega
      go_wp2
      go_ret
      exact ⟨by rw [inB_none a (fun i h1 h2 => hR.out.1 i h1) (fun i h1 h2 => hR.out.2 i h1 h2)]; rfl, hB.out⟩

set_option maxHeartbeats 4000000 in
theorem among3 (x : Int) (w : World) (hT : TabAt w 2 broadT) :
    Calls Tryd.prog 62 #[.int .i32 x, .int .i64 15, .func (.func 65) #[] #[]] w fun e w' => e = .returned (.bool (inB broadT x)) ∧ Below w.heap.size w w' := by
  have H := Lib.hid hT
  clear hT
  go_enter Tryd.func62, Tryd.ntmps62
  go_wp2
  go_loopw [7, 8] (fun va vb wr => ∃ a b : Nat, a ≤ b ∧ b ≤ 15 ∧ va = .int .i64 a ∧ vb = .int .i64 b ∧ Hid ((∀ i, i < a → hiT broadT i < x) ∧ (∀ i, b ≤ i → i < 15 → x < loT broadT i)) ∧ Hid (Below w.heap.size w wr)) (fun va vb _ => (intOf vb - intOf va).toNat)
  case atStart => exact ⟨0, 15, by omega, by omega, rfl, rfl, Lib.hid ⟨fun i hi => by omega, fun i h1 h2 => by omega⟩, Lib.hid (Below.refl _ _)⟩
  case round =>
    obtain ⟨a, b, hab, hb, rfl, rfl, hR, hB⟩ := hrel
    by_cases hlt : a < b
    · go_wp2_with fail
      refine (row3i _ ((a + b) / 2) (by omega) (by omega) _ (H.out.below hB.out)).mono ?_
      rintro e w5 ⟨rfl, hb5⟩
      have HB := Lib.hid (show Below w.heap.size w w5 from hB.out.trans (hb5.mono hB.out.size))
      clear hb5
      obtain ⟨k, hk⟩ : ∃ k, k = (a + b) / 2 := ⟨_, rfl⟩
      have hq : ((a : Int) + (b : Int)) / 2 = (k : Int) := by omega
      rw [← hk]
      simp only [hq]
      have HK := Lib.hid hk
      have k1 : a ≤ k := by omega
      have k2 : k < b := by omega
      have k3 : k < 15 := by omega
      clear hk hq
      have H1 := Lib.hid (fun i (h : i < k) => (show hiT broadT i < loT broadT k from rise_at broadT rise3 i k h k3))
      have H2 := Lib.hid (fun i (h : k < i) (hi : i < 15) => (show hiT broadT k < loT broadT i from rise_at broadT rise3 k i h hi))
      have H3 := Lib.hid (rise_in broadT rise3 k k3)
      have H4 := Lib.hid (fun (h1 : loT broadT k ≤ x) (h2 : x ≤ hiT broadT k) => inB_at (l := broadT) k k3 h1 h2)
      have H5 := Lib.hid (fun i (hi : i < 15) => rise_in broadT rise3 i hi)
      have HR2 := Lib.hid (show (x < loT broadT k → ∀ i, k ≤ i → i < 15 → x < loT broadT i) ∧ (hiT broadT k < x → ∀ i, i < k + 1 → hiT broadT i < x) from
        ⟨fun h i h1 h2 => by
          by_cases e : i = k
          · subst e; exact h
          · have := H2.out i (by omega) h2; have := H3.out; omega,
         fun h i h1 => by
          by_cases e : i = k
          · subst e; exact h
          · have := H1.out i (by omega); have := H3.out; omega⟩)
      generalize loT broadT k = lo at *
      generalize hiT broadT k = hi at *
      by_cases hx : x < lo
      · go_wp2
        go_roundw
        case rel => exact ⟨a, k, by omega, by omega, rfl, rfl, Lib.hid ⟨hR.out.1, HR2.out.1 hx⟩, Lib.hid (HB.out.alloc HB.out.size _)⟩
        case measure => simp [intOf]; omega
      · by_cases hy : hi < x
        · go_wp2
          go_roundw
          case rel => exact ⟨k + 1, b, by omega, by omega, by go_num, rfl, Lib.hid ⟨HR2.out.2 hy, hR.out.2⟩, Lib.hid (HB.out.alloc HB.out.size _)⟩
          case measure => simp [intOf]; omega
        · go_wp2
          go_ret
          exact ⟨by rw [H4.out (by omega) (by omega)]; rfl, HB.out.alloc HB.out.size _⟩
    · obtain rfl : a = b := by omega
      go_wp2
      go_ret
      exact ⟨by rw [inB_none a (fun i h1 h2 => hR.out.1 i h1) (fun i h1 h2 => hR.out.2 i h1 h2)]; rfl, hB.out⟩
end Go.Proofs.YtlaafmjiiiaceaaDoor.Lab
