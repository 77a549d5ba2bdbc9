/- The small ones of package tabs: within, isCol, place, last, Label, Cols, Declassify, Raise. -/
import Derived.Test.YtmfbknmcmopjnaaTbLab
set_option linter.unusedVariables false
namespace Go.Proofs.Ytmfbknmcmopjnaa.Lab
open Go Go.RowKit Go.Shelf

theorem ret_int {x y : Int} (h : x = y) : Ending.returned (.int .i64 x) = .returned (.int .i64 y) := by rw [h]
theorem within_any (n a b : Int) (w : World) : Calls Try.prog 33 #[.int .i64 n, .int .i64 a, .int .i64 b] w fun e w' => e = .returned (.int .i64 (inN n a b)) ∧ w = w' := by
  go_enter Try.func33, Try.ntmps33
  go_wp2
  all_goals
    go_ret
    refine ⟨?_, rfl⟩
    refine ret_int ?_
    unfold inN
    omega
theorem label_any (t : Tb) (w : World) : Calls Try.prog 17 #[tbV t] w fun e w' => e = .returned (.int .u8 (t.l : Nat)) ∧ Below w.heap.size w w' := by
  go_enter Try.func17, Try.ntmps17
  go_wp2
  go_ret
  exact ⟨rfl, (Below.refl _ _).alloc (Nat.le_refl _) _⟩
theorem cols_any (t : Tb) (w : World) : Calls Try.prog 18 #[tbV t] w fun e w' => e = .returned (.int .i64 (t.L.length : Nat)) ∧ Below w.heap.size w w' := by
  go_enter Try.func18, Try.ntmps18
  go_wp2
  go_ret
  exact ⟨rfl, (Below.refl _ _).alloc (Nat.le_refl _) _⟩
theorem last_any (t : Tb) (h : t.L.length ≤ 512) (w : World) : Calls Try.prog 47 #[tbV t] w fun e w' => e = .returned (.int .i64 (lastM t.L : Nat)) ∧ Below w.heap.size w w' := by
  have h1 : IntKind.i64.wrap ((t.L.length : Int) - 1) = (t.L.length : Int) - 1 := by rw [IntKind.wrap_i64]; omega
  go_enter Try.func47, Try.ntmps47
  go_wp2
  all_goals
    go_ret
    refine ⟨ret_int ?_, (Below.refl _ _).alloc (Nat.le_refl _) _⟩
    unfold lastM
    omega
def isC (L : List Bool) (c : Int) : Bool := decide (0 ≤ c ∧ c < L.length)
theorem isCol_any (t : Tb) (c : Int) (w : World) : Calls Try.prog 49 #[tbV t, .int .i64 c] w fun e w' => e = .returned (.bool (isC t.L c)) ∧ Below w.heap.size w w' := by
  by_cases h0 : 0 ≤ c
  · by_cases h1 : c < (t.L.length : Int)
    · have HE := Lib.hid (show isC t.L c = true by unfold isC; simp [h0, h1])
      go_enter Try.func49, Try.ntmps49
      go_wp2
      go_ret
      exact ⟨by rw [HE.out]; rfl, (Below.refl _ _).alloc (Nat.le_refl _) _⟩
    · have HE := Lib.hid (show isC t.L c = false by unfold isC; simp [h1])
      go_enter Try.func49, Try.ntmps49
      go_wp2
      go_ret
      exact ⟨by rw [HE.out]; rfl, (Below.refl _ _).alloc (Nat.le_refl _) _⟩
  · have HE := Lib.hid (show isC t.L c = false by unfold isC; simp [h0])
    go_enter Try.func49, Try.ntmps49
    go_wp2
    go_ret
    exact ⟨by rw [HE.out]; rfl, (Below.refl _ _).alloc (Nat.le_refl _) _⟩
theorem mask63 (c : Nat) (h : c < 512) : bits .and .i64 (c : Int) 63 = ((c % 64 : Nat) : Int) := by
  have : ∀ c : Fin 512, bits .and .i64 ((c : Nat) : Int) 63 = (((c : Nat) % 64 : Nat) : Int) := by decide +kernel
  exact this ⟨c, h⟩
theorem shl1 (c : Nat) (h : c < 64) : IntKind.u64.wrap (2 ^ min c 64) = ((2 ^ c : Nat) : Int) := by
  have : ∀ c : Fin 64, IntKind.u64.wrap (2 ^ min (c : Nat) 64) = ((2 ^ (c : Nat) : Nat) : Int) := by decide +kernel
  exact this ⟨c, h⟩
set_option maxHeartbeats 2000000 in
theorem place_any (c : Nat) (h : c < 512) (w : World) : Calls Try.prog 50 #[.int .i64 (c : Nat)] w fun e w' => e = .returned (.tuple #[.int .i64 ((c / 64 : Nat) : Int), .int .u64 ((2 ^ (c % 64) : Nat) : Int)]) ∧ Below w.heap.size w w' := by
  have h1 := mask63 c h
  obtain ⟨m, hm⟩ : ∃ m, m = c % 64 := ⟨_, rfl⟩
  have h2 := shl1 m (by omega)
  obtain ⟨z, hz⟩ : ∃ z : Nat, z = 2 ^ m := ⟨_, rfl⟩
  rw [← hm] at h1 ⊢
  rw [← hz] at h2 ⊢
  clear hz
  have h3 : (c : Int) / 64 = ((c / 64 : Nat) : Int) := by omega
  obtain ⟨q, hq⟩ : ∃ q, q = c / 64 := ⟨_, rfl⟩
  rw [← hq] at h3 ⊢
  clear hm hq
  go_enter Try.func50, Try.ntmps50
  go_wp2
  go_quiet (fail)
  go_wp2
  refine bodyPost_ret (v := .tuple #[.int .i64 (q : Nat), .int .u64 (z : Nat)]) (by simp [results, Try.results50, go_sem]) rfl ⟨rfl, below_drewN (Below.refl _ _) _⟩
theorem tbV_eq (t u : Tb) (h : u.L = t.L) : tbV u = .agg #[wV t.L 0, wV t.L 1, wV t.L 2, wV t.L 3, wV t.L 4, wV t.L 5, wV t.L 6, wV t.L 7, .int .i64 (t.L.length : Nat), .int .u8 (u.b : Nat), .int .u8 (u.l : Nat)] := by rw [← h]
theorem decl_any (t : Tb) (w : World) : Calls Try.prog 29 #[tbV t] w fun e w' => e = .returned (tbV t.decl) ∧ Below w.heap.size w w' := by
  have HV := Lib.hid (tbV_eq t t.decl rfl)
  go_enter Try.func29, Try.ntmps29
  go_wp2
  refine bodyPost_ret (v := tbV t.decl) (by rw [HV.out]; simp [results, Try.results29, go_sem]; exact ⟨rfl, rfl⟩) rfl ⟨rfl, ?_⟩
  repeat' first | exact (((Below.refl _ _).alloc (Nat.le_refl _) _).alloc (by simp) _) | refine Below.setCell ?_ (by simp) _
theorem max_cast (a b : Nat) : max (a : Int) (b : Int) = ((max a b : Nat) : Int) := by omega
set_option maxHeartbeats 2000000 in
theorem raise_any (t : Tb) (ht : t.Ok) (l : Nat) (hl : l ≤ 1) (w : World) : Calls Try.prog 30 #[tbV t, .int .u8 (l : Nat)] w fun e w' => e = .returned (tbV (t.raise l)) ∧ Below w.heap.size w w' := by
  obtain ⟨y, hy⟩ : ∃ y, y = max t.l l := ⟨_, rfl⟩
  have HJ := Lib.hid (fun w s => join_two w s (t.l : Nat) (l : Nat) (by have := ht.l1; omega) (by omega))
  rw [max_cast, ← hy] at HJ
  have HV := Lib.hid (tbV_eq t (t.raise l) rfl)
  have HY := Lib.hid (show (t.raise l).l = y by rw [hy]; rfl)
  clear hy
  go_enter Try.func30, Try.ntmps30
  go_wp2_with fail
  refine (HJ.out _ _ ?c0 ?c1).mono ?_
  case c0 => rw [World.cell?_alloc_at _ _ _ _ (by simp)]; rfl
  case c1 => rw [World.cell?_alloc_at _ _ _ _ (by simp)]; rfl
  rintro e w1 ⟨rfl, rfl⟩
  go_wp2
  refine bodyPost_ret (v := tbV (t.raise l)) (by rw [HV.out, HY.out]; simp [results, Try.results30, go_sem]; try rfl) rfl ⟨rfl, ?_⟩
  repeat' first | exact ((((Below.refl _ _).alloc (Nat.le_refl _) _).alloc (by simp) _).alloc (by simp; omega) _) | refine Below.setCell ?_ (by simp) _
end Go.Proofs.Ytmfbknmcmopjnaa.Lab
