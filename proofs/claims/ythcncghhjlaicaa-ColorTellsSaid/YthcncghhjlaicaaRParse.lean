/- What the document's answer for Parse is, of any text that is not too long. -/
import Derived.Test.YthcncghhjlaicaaRSplit
import Derived.Test.YthcncghhjlaicaaRThree
import Derived.Test.YthcncghhjlaicaaTakes
import Derived.Deep.RegionHeld3
import Derived.Deep.DeepCutAuto
import Derived.Deep.CutBlock
import Derived.RegionTactic
import Derived.Laws.AppendOwn
import Derived.Laws.AppendOwnNone
namespace Go.Proofs.Ythcncghhjlaicaa.Lab
open Go.RowKit

theorem infoStr : (Try.prog.info? 9).map (fun i => (i.zero, i.size, i.bytes)) = some (some (.string ⟨#[]⟩), 1, 16) := by kernel_rfl

/-- What the loop has found so far: pieces, and where the next one begins. -/
def Found (s : ByteArray) (k g : Nat) (ps : List ByteArray) : Prop :=
  4 ≤ g ∧ g ≤ k ∧ k ≤ s.size + 1 ∧ ps.length ≤ k ∧ (∀ j, g ≤ j → j < k → s.data.toList[j]? ≠ some 47) ∧
  ((k ≤ s.size ∧ splitL (s.data.toList.drop 4) = ps.map (·.data.toList) ++ splitL (s.data.toList.drop g)) ∨ (k = s.size + 1 ∧ splitL (s.data.toList.drop 4) = ps.map (·.data.toList)))

theorem Found.start {s : ByteArray} (h : 4 ≤ s.size) : Found s 4 4 [] := ⟨by omega, by omega, by omega, by simp, fun j h1 h2 => by omega, .inl ⟨h, by simp⟩⟩

theorem Found.skip {s : ByteArray} {k g : Nat} {ps : List ByteArray} (h : Found s k g ps) (hk : k < s.size) (hc : s[k].toNat ≠ 47) : Found s (k + 1) g ps := by
  obtain ⟨h1, h2, h3, h4, h5, h6⟩ := h
  have h7 : splitL (s.data.toList.drop 4) = ps.map (·.data.toList) ++ splitL (s.data.toList.drop g) := by
    rcases h6 with h6 | h6
    · exact h6.2
    · omega
  refine ⟨h1, by omega, by omega, by omega, fun j g1 g2 => ?_, .inl ⟨by omega, h7⟩⟩
  by_cases e : j = k
  · subst e
    intro hj
    have hs : s.data.toList[j]? = some s[j] := by rw [List.getElem?_eq_getElem (by simpa using hk)]; rfl
    rw [hs] at hj
    apply hc
    rw [Option.some.inj hj]
    rfl
  · exact h5 j g1 (by omega)

theorem piece (s : ByteArray) (g k : Nat) : (s.extract g k).data.toList = (s.data.toList.drop g).take (k - g) := by
  rw [Lib.extract_data]

theorem Found.cut {s : ByteArray} {k g : Nat} {ps : List ByteArray} (h : Found s k g ps) (hk : k < s.size) (hc : s[k].toNat = 47) : Found s (k + 1) (k + 1) (ps ++ [s.extract g k]) := by
  obtain ⟨h1, h2, h3, h4, h5, h6⟩ := h
  have h7 : splitL (s.data.toList.drop 4) = ps.map (·.data.toList) ++ splitL (s.data.toList.drop g) := by
    rcases h6 with h6 | h6
    · exact h6.2
    · omega
  have hs : s.data.toList[k]? = some 47 := by
    rw [List.getElem?_eq_getElem (by simpa using hk)]
    have : s[k] = 47 := UInt8.toNat_inj.mp hc
    exact congrArg some this
  have h8 := splitL_at (s.data.toList.drop g) (k - g) (fun j hj => by rw [List.getElem?_drop]; exact h5 _ (by omega) (by omega)) (by rw [List.getElem?_drop, show g + (k - g) = k from by omega]; exact hs)
  refine ⟨by omega, by omega, by omega, by simp; omega, fun j g1 g2 => by omega, .inl ⟨by omega, ?_⟩⟩
  rw [h7, h8, List.drop_drop, show g + (k - g + 1) = k + 1 from by omega]
  simp

theorem Found.last {s : ByteArray} {k g : Nat} {ps : List ByteArray} (h : Found s k g ps) (hk : k = s.size) : Found s (k + 1) (k + 1) (ps ++ [s.extract g k]) := by
  obtain ⟨h1, h2, h3, h4, h5, h6⟩ := h
  have h7 : splitL (s.data.toList.drop 4) = ps.map (·.data.toList) ++ splitL (s.data.toList.drop g) := by
    rcases h6 with h6 | h6
    · exact h6.2
    · omega
  have h8 := splitL_none (s.data.toList.drop g) (fun j => by
    rw [List.getElem?_drop]
    by_cases hj : g + j < k
    · exact h5 _ (by omega) hj
    · rw [List.getElem?_eq_none (by simp; omega)]; simp)
  refine ⟨by omega, by omega, by omega, by simp; omega, fun j g1 g2 => by omega, .inr ⟨by omega, ?_⟩⟩
  rw [h7, h8]
  simp only [List.map_append, List.map_cons, List.map_nil, piece]
  rw [List.take_of_length_le (by simp; omega)]

abbrev strs (ps : List ByteArray) : List Value := ps.map Value.string

theorem strs_one (ps : List ByteArray) : ∀ u ∈ strs ps, u.oneCell' = true := by
  intro u hu
  obtain ⟨_, _, rfl⟩ := List.mem_map.1 hu
  rfl

theorem new1 (w : World) (x : ByteArray) (T : TypeId) (n : Nat) (hn : n = w.heap.size) : ∀ j u, (strs [x])[j]? = some u → (w.alloc (.cells #[.string x] T)).cell? ((⟨n, 0, none⟩ : Addr).add j) = some u := by
  intro j u hj
  have hp : (⟨n, 0, none⟩ : Addr).add j = ⟨n, 0 + j, none⟩ := by unfold Addr.add; split <;> simp_all
  rw [hp, Nat.zero_add, World.cell?_alloc_at _ _ _ _ hn, List.getElem?_toArray]
  exact hj

/-- Three texts of the call's own. -/
theorem three_of_own {w : World} {base : Nat} {T : TypeId} {v : Value} {x y z : ByteArray} (h : w.ownsRow base T 1 v 3 (strs [x, y, z])) :
    ∃ g c, v = .slice (some ⟨g, 0, none⟩) 3 c ∧ base ≤ g ∧ g < w.heap.size ∧ w.cell? ⟨g, 0, none⟩ = some (.string x) ∧ w.cell? ⟨g, 1, none⟩ = some (.string y) ∧ w.cell? ⟨g, 2, none⟩ = some (.string z) := by
  rcases h.2 with ⟨_, h0⟩ | ⟨g, cap, cur, rfl, hb, hg, hr⟩
  · cases h0
  · have hc := h.cells (g := g) rfl
    have hp : ∀ j, (⟨g, 0, none⟩ : Addr).add j = ⟨g, 0 + j, none⟩ := by intro j; unfold Addr.add; split <;> simp_all
    simp only [hp, Nat.zero_add] at hc
    exact ⟨g, cap, rfl, hb, (h.lt g rfl).2, hc 0 _ rfl, hc 1 _ rfl, hc 2 _ rfl⟩

theorem row_form {w : World} {base : Nat} {T : TypeId} {v : Value} {n : Nat} {xs : List Value} (h : w.ownsRow base T 1 v n xs) : ∃ a c, v = .slice a n c := by
  rcases h.2 with ⟨h0, h1⟩ | ⟨g, cap, cur, h0, _⟩
  · exact ⟨none, 0, by rw [h0, h1]⟩
  · exact ⟨_, _, h0⟩

theorem rthree_of {s1 s2 s3 : ByteArray} {a b c : List UInt8} (h1 : s1.size ≤ maxLen) (h2 : s2.size ≤ maxLen) (h3 : s3.size ≤ maxLen) (e1 : Hid (s1.data.toList = a)) (e2 : Hid (s2.data.toList = b)) (e3 : Hid (s3.data.toList = c)) (w : World) :
    Calls Try.prog 27 #[.string s1, .string s2, .string s3] w (RowsPost a b c w) := by
  have h := rthree_any s1 s2 s3 h1 h2 h3 w
  rw [e1.out, e2.out, e3.out] at h
  exact h

theorem set3_far {w : World} {B H : Nat} (ne : ¬ B = H) (j : Nat) (x y z : Value) : (((w.setCell ⟨H, 0, none⟩ x).setCell ⟨H, 1, none⟩ y).setCell ⟨H, 2, none⟩ z).cell? ⟨B, j, none⟩ = w.cell? ⟨B, j, none⟩ := by
  have k : ∀ (w : World) (i : Nat) (u : Value), (w.setCell ⟨H, i, none⟩ u).cell? ⟨B, j, none⟩ = w.cell? ⟨B, j, none⟩ := fun w i u => World.cell?_of_block (Below.heap_setCell w _ u B ne)
  rw [k, k, k]

/-- The result, as it lies while the call runs; the pieces' row. -/
def PR (w0 w : World) : Prop := Below w0.heap.size w0 w ∧ V3 w w0.heap.size 0 0 0
theorem PR.below {w0 w w' : World} (h : PR w0 w) (hb : Below w.heap.size w w') : PR w0 w' := ⟨bstep h.1 hb, h.2.below hb⟩
theorem PR.past {w0 w : World} (h : PR w0 w) (o : Obj) : PR w0 (w.alloc o) := h.below ((Below.refl _ _).alloc (Nat.le_refl _) o)
theorem PR.drew {w0 w : World} (h : PR w0 w) : PR w0 w.drew := h.below (Below.refl _ _).drew
theorem PR.grown {w0 w w' : World} {row : Option Nat} (h : PR w0 w) (hg : w.grownBy w' row) (hr : ∀ k, row = some k → w0.heap.size + 1 ≤ k) : PR w0 w' := by
  refine ⟨Below.grown h.1 hg h.1.size (fun k hk => by have := hr k hk; omega), h.2.block hg.size (hg.block _ h.2.1 ?_)⟩
  intro e
  have := hr _ e.symm
  omega

theorem first_hash {s : ByteArray} {h0 : 0 < s.size} (h : s[0].toNat = 35) : Lib.hasPrefix s.data.toList [35] = true := by
  obtain ⟨⟨d⟩⟩ := s
  cases d with
  | nil => simp [ByteArray.size] at h0
  | cons x xs =>
    have e : x = 35 := UInt8.toNat_inj.mp (show x.toNat = (35 : UInt8).toNat from h)
    simp [Lib.hasPrefix, List.isPrefixOf, e]

theorem first_of {s : ByteArray} {c : UInt8} {l : List UInt8} (h : Lib.hasPrefix s.data.toList (c :: l) = true) (h0 : 0 < s.size) : s[0].toNat = c.toNat := by
  obtain ⟨⟨d⟩⟩ := s
  cases d with
  | nil => simp [ByteArray.size] at h0
  | cons x xs =>
    simp [Lib.hasPrefix, List.isPrefixOf] at h
    show x.toNat = c.toNat
    rw [h.1]

set_option maxRecDepth 100000 in
set_option maxHeartbeats 4000000 in
theorem rparse_hash (s : ByteArray) (h : (Lib.hasPrefix s.data.toList [35] = true ∧ s.size = 4) ∨ (Lib.hasPrefix s.data.toList [35] = true ∧ s.size = 7)) (w : World) :
    Calls Try.prog 19 #[.string s] w (FormPost (parseV s.data.toList) (parseB s.data.toList) w) := by
  rcases h with h1 | h2
  · have hd : Lib.hasPrefix s.data.toList [35] = true ∧ s.size = 4 := h1
    obtain ⟨hp, hz⟩ := hd
    obtain ⟨e1, e2⟩ := parse_hash (d := 1) (by decide) hp (by rw [← Lib.size_eq, hz])
    have q1 : ((s.extract 1 2)).data.toList = (s.data.toList.drop 1).take 1 := by rw [piece]
    have q2 : ((s.extract 2 3)).data.toList = ((s.data.toList.drop 1).drop 1).take 1 := by rw [piece, List.drop_drop]
    have q3 : ((s.extract 3 4)).data.toList = (s.data.toList.drop 1).drop (2 * 1) := by
      rw [piece, List.drop_drop, List.take_of_length_le (by simp; omega)]
    have z1 : (s.extract 1 2).size ≤ maxLen := by rw [Lib.size_eq, q1]; simp; unfold maxLen; omega
    have z2 : (s.extract 2 3).size ≤ maxLen := by rw [Lib.size_eq, q2]; simp; unfold maxLen; omega
    have z3 : (s.extract 3 4).size ≤ maxLen := by rw [Lib.size_eq, q3]; simp; unfold maxLen; omega
    have hl0 : 0 < s.size := by omega
    have hc0 : ((s[0].toNat : Int) == 35) = true := by
      have h5 : s[0].toNat = 35 := first_of hp (by omega)
      simp only [beq_iff_eq]
      omega
    have t1 : ((s.size : Int) == 4) = true := by rw [hz]; rfl
    have t2 : ((s.size : Int) == 7) = false := by rw [hz]; rfl
    obtain ⟨x1, hx1⟩ : ∃ x, s.extract 1 2 = x := ⟨_, rfl⟩
    obtain ⟨x2, hx2⟩ : ∃ x, s.extract 2 3 = x := ⟨_, rfl⟩
    obtain ⟨x3, hx3⟩ : ∃ x, s.extract 3 4 = x := ⟨_, rfl⟩
    rw [hx1] at z1 q1
    rw [hx2] at z2 q2
    rw [hx3] at z3 q3
    have X1 := Lib.hid q1
    have X2 := Lib.hid q2
    have X3 := Lib.hid q3
    have E1 := Lib.hid e1
    have E2 := Lib.hid e2
    clear q1 q2 q3 e1 e2 hp
    go_enter Try.func19, Try.ntmps19
    go_upto_region 2 with (fail)
    have RQ : PR w (w.alloc (.cells #[.int .u16 0, .int .u16 0, .int .u16 0] 30)).drew := PR.drew ⟨(Below.refl _ _).alloc (Nat.le_refl _) _, V3.newAt w w.heap.size rfl 0 0 0 _⟩
    refine wp_region_held_drew (S := fun _ => True) (by kernel_rfl) ?_ (fun hHeld => ?_)
    · trivial
    refine take_at (i := 0) (v := ?_) rfl (by kernel_rfl) (by kernel_rfl) (by kernel_rfl) (fun _ _ _ h => h) (by kernel_rfl) True.intro ?_ ?_
    rotate_left
    · (intro w hSw; (try dsimp only at hSw); go_simp; try with_reducible rfl)
    simp only [Act.put, List.setIfInBounds_toArray, List.set_cons_zero, List.set_cons_succ]
    refine take_at (i := 1) (v := ?_) rfl (by kernel_rfl) (by kernel_rfl) (by kernel_rfl) (fun _ _ _ h => h) (by kernel_rfl) True.intro ?_ ?_
    rotate_left
    · (intro w hSw; (try dsimp only at hSw); go_simp; try with_reducible rfl)
    simp only [Act.put, List.setIfInBounds_toArray, List.set_cons_zero, List.set_cons_succ]
    refine take_at (i := 2) (v := ?_) rfl (by kernel_rfl) (by kernel_rfl) (by kernel_rfl) (fun _ _ _ h => h) (by kernel_rfl) True.intro ?_ ?_
    rotate_left
    · (intro w hSw; (try dsimp only at hSw); go_simp; try with_reducible rfl)
    simp only [Act.put, List.setIfInBounds_toArray, List.set_cons_zero, List.set_cons_succ]
    refine take_at (i := 3) (v := ?_) rfl (by kernel_rfl) (by kernel_rfl) (by kernel_rfl) (fun _ _ _ h => h) (by kernel_rfl) True.intro ?_ ?_
    rotate_left
    · (intro w hSw; (try dsimp only at hSw); go_simp; try with_reducible rfl)
    simp only [Act.put, List.setIfInBounds_toArray, List.set_cons_zero, List.set_cons_succ]
    refine take_at (i := 4) (v := ?_) rfl (by kernel_rfl) (by kernel_rfl) (by kernel_rfl) (fun _ _ _ h => h) (by kernel_rfl) True.intro ?_ ?_
    rotate_left
    · (intro w hSw; (try dsimp only at hSw); go_simp; try with_reducible rfl)
    simp only [Act.put, List.setIfInBounds_toArray, List.set_cons_zero, List.set_cons_succ]
    refine take_at (i := 5) (v := ?_) rfl (by kernel_rfl) (by kernel_rfl) (by kernel_rfl) (fun _ _ _ h => h) (by kernel_rfl) True.intro ?_ ?_
    rotate_left
    · (intro w hSw; (try dsimp only at hSw); go_simp; try with_reducible rfl)
    simp only [Act.put, List.setIfInBounds_toArray, List.set_cons_zero, List.set_cons_succ]
    refine do_at (i := 6) rfl (by kernel_rfl) (by kernel_rfl) (fun K hK => ?_)
    go_simp
    refine (rthree_of z1 z2 z3 X1 X2 X3 _).mono ?_
    rintro e w6 ⟨rfl, hb6⟩
    have RQ' := RQ.below hb6
    clear RQ hb6
    have RQ := RQ'
    clear RQ'
    obtain ⟨⟨s2, s3, s4⟩, s5, s6, s7⟩ := RQ.2.s
    go_wp2_with fail
    refine hK.out _ _ ?_ (fun hHeld => ?_)
    · trivial
    clear hK K
    try simp only [Act.put, List.setIfInBounds_toArray, List.set_cons_zero, List.set_cons_succ]
    refine take_at (i := 7) (v := ?_) rfl (by kernel_rfl) (by kernel_rfl) (by kernel_rfl) (fun _ _ _ h => h) (by kernel_rfl) True.intro ?_ ?_
    rotate_left
    · (intro w hSw; (try dsimp only at hSw); go_simp; try with_reducible rfl)
    simp only [Act.put, List.setIfInBounds_toArray, List.set_cons_zero, List.set_cons_succ]
    refine take_at (i := 8) (v := ?_) rfl (by kernel_rfl) (by kernel_rfl) (by kernel_rfl) (fun _ _ _ h => h) (by kernel_rfl) True.intro ?_ ?_
    rotate_left
    · (intro w hSw; (try dsimp only at hSw); go_simp; try with_reducible rfl)
    simp only [Act.put, List.setIfInBounds_toArray, List.set_cons_zero, List.set_cons_succ]
    refine do_at (i := 9) rfl (by kernel_rfl) (by kernel_rfl) (fun K hK => ?_)
    go_simp
    refine hK.out _ _ ?_ (fun hHeld => ?_)
    · trivial
    clear hK K
    try simp only [Act.put, List.setIfInBounds_toArray, List.set_cons_zero, List.set_cons_succ]
    refine take_at (i := 10) (v := ?_) rfl (by kernel_rfl) (by kernel_rfl) (by kernel_rfl) (fun _ _ _ h => h) (by kernel_rfl) True.intro ?_ ?_
    rotate_left
    · (intro w hSw; (try dsimp only at hSw); go_simp; try with_reducible rfl)
    simp only [Act.put, List.setIfInBounds_toArray, List.set_cons_zero, List.set_cons_succ]
    refine wpAnyH_done (by kernel_rfl) ?_ _
    go_wp2
    refine bodyPost_ret (v := .tuple #[valT (rowsV ((s.data.toList.drop 1).take 1) (((s.data.toList.drop 1).drop 1).take 1) ((s.data.toList.drop 1).drop (2 * 1))), .bool (rowsB ((s.data.toList.drop 1).take 1) (((s.data.toList.drop 1).drop 1).take 1) ((s.data.toList.drop 1).drop (2 * 1)))]) (by simp [results, Try.results19, go_sem, s2, s3, s4]) rfl (parse_end E2.out E1.out rfl ?_)
    exact ((RQ.1.setCell (by simp) _).setCell (by simp) _).setCell (by simp) _
  · have hd : Lib.hasPrefix s.data.toList [35] = true ∧ s.size = 7 := h2
    obtain ⟨hp, hz⟩ := hd
    obtain ⟨e1, e2⟩ := parse_hash (d := 2) (by decide) hp (by rw [← Lib.size_eq, hz])
    have q1 : ((s.extract 1 3)).data.toList = (s.data.toList.drop 1).take 2 := by rw [piece]
    have q2 : ((s.extract 3 5)).data.toList = ((s.data.toList.drop 1).drop 2).take 2 := by rw [piece, List.drop_drop]
    have q3 : ((s.extract 5 7)).data.toList = (s.data.toList.drop 1).drop (2 * 2) := by
      rw [piece, List.drop_drop, List.take_of_length_le (by simp; omega)]
    have z1 : (s.extract 1 3).size ≤ maxLen := by rw [Lib.size_eq, q1]; simp; unfold maxLen; omega
    have z2 : (s.extract 3 5).size ≤ maxLen := by rw [Lib.size_eq, q2]; simp; unfold maxLen; omega
    have z3 : (s.extract 5 7).size ≤ maxLen := by rw [Lib.size_eq, q3]; simp; unfold maxLen; omega
    have hl0 : 0 < s.size := by omega
    have hc0 : ((s[0].toNat : Int) == 35) = true := by
      have h5 : s[0].toNat = 35 := first_of hp (by omega)
      simp only [beq_iff_eq]
      omega
    have t1 : ((s.size : Int) == 4) = false := by rw [hz]; rfl
    have t2 : ((s.size : Int) == 7) = true := by rw [hz]; rfl
    obtain ⟨x1, hx1⟩ : ∃ x, s.extract 1 3 = x := ⟨_, rfl⟩
    obtain ⟨x2, hx2⟩ : ∃ x, s.extract 3 5 = x := ⟨_, rfl⟩
    obtain ⟨x3, hx3⟩ : ∃ x, s.extract 5 7 = x := ⟨_, rfl⟩
    rw [hx1] at z1 q1
    rw [hx2] at z2 q2
    rw [hx3] at z3 q3
    have X1 := Lib.hid q1
    have X2 := Lib.hid q2
    have X3 := Lib.hid q3
    have E1 := Lib.hid e1
    have E2 := Lib.hid e2
    clear q1 q2 q3 e1 e2 hp
    go_enter Try.func19, Try.ntmps19
    go_upto_region 4 with (fail)
    have RQ : PR w (w.alloc (.cells #[.int .u16 0, .int .u16 0, .int .u16 0] 30)).drew := PR.drew ⟨(Below.refl _ _).alloc (Nat.le_refl _) _, V3.newAt w w.heap.size rfl 0 0 0 _⟩
    refine wp_region_held_drew (S := fun _ => True) (by kernel_rfl) ?_ (fun hHeld => ?_)
    · trivial
    refine take_at (i := 0) (v := ?_) rfl (by kernel_rfl) (by kernel_rfl) (by kernel_rfl) (fun _ _ _ h => h) (by kernel_rfl) True.intro ?_ ?_
    rotate_left
    · (intro w hSw; (try dsimp only at hSw); go_simp; try with_reducible rfl)
    simp only [Act.put, List.setIfInBounds_toArray, List.set_cons_zero, List.set_cons_succ]
    refine take_at (i := 1) (v := ?_) rfl (by kernel_rfl) (by kernel_rfl) (by kernel_rfl) (fun _ _ _ h => h) (by kernel_rfl) True.intro ?_ ?_
    rotate_left
    · (intro w hSw; (try dsimp only at hSw); go_simp; try with_reducible rfl)
    simp only [Act.put, List.setIfInBounds_toArray, List.set_cons_zero, List.set_cons_succ]
    refine take_at (i := 2) (v := ?_) rfl (by kernel_rfl) (by kernel_rfl) (by kernel_rfl) (fun _ _ _ h => h) (by kernel_rfl) True.intro ?_ ?_
    rotate_left
    · (intro w hSw; (try dsimp only at hSw); go_simp; try with_reducible rfl)
    simp only [Act.put, List.setIfInBounds_toArray, List.set_cons_zero, List.set_cons_succ]
    refine take_at (i := 3) (v := ?_) rfl (by kernel_rfl) (by kernel_rfl) (by kernel_rfl) (fun _ _ _ h => h) (by kernel_rfl) True.intro ?_ ?_
    rotate_left
    · (intro w hSw; (try dsimp only at hSw); go_simp; try with_reducible rfl)
    simp only [Act.put, List.setIfInBounds_toArray, List.set_cons_zero, List.set_cons_succ]
    refine take_at (i := 4) (v := ?_) rfl (by kernel_rfl) (by kernel_rfl) (by kernel_rfl) (fun _ _ _ h => h) (by kernel_rfl) True.intro ?_ ?_
    rotate_left
    · (intro w hSw; (try dsimp only at hSw); go_simp; try with_reducible rfl)
    simp only [Act.put, List.setIfInBounds_toArray, List.set_cons_zero, List.set_cons_succ]
    refine take_at (i := 5) (v := ?_) rfl (by kernel_rfl) (by kernel_rfl) (by kernel_rfl) (fun _ _ _ h => h) (by kernel_rfl) True.intro ?_ ?_
    rotate_left
    · (intro w hSw; (try dsimp only at hSw); go_simp; try with_reducible rfl)
    simp only [Act.put, List.setIfInBounds_toArray, List.set_cons_zero, List.set_cons_succ]
    refine do_at (i := 6) rfl (by kernel_rfl) (by kernel_rfl) (fun K hK => ?_)
    go_simp
    refine (rthree_of z1 z2 z3 X1 X2 X3 _).mono ?_
    rintro e w6 ⟨rfl, hb6⟩
    have RQ' := RQ.below hb6
    clear RQ hb6
    have RQ := RQ'
    clear RQ'
    obtain ⟨⟨s2, s3, s4⟩, s5, s6, s7⟩ := RQ.2.s
    go_wp2_with fail
    refine hK.out _ _ ?_ (fun hHeld => ?_)
    · trivial
    clear hK K
    try simp only [Act.put, List.setIfInBounds_toArray, List.set_cons_zero, List.set_cons_succ]
    refine take_at (i := 7) (v := ?_) rfl (by kernel_rfl) (by kernel_rfl) (by kernel_rfl) (fun _ _ _ h => h) (by kernel_rfl) True.intro ?_ ?_
    rotate_left
    · (intro w hSw; (try dsimp only at hSw); go_simp; try with_reducible rfl)
    simp only [Act.put, List.setIfInBounds_toArray, List.set_cons_zero, List.set_cons_succ]
    refine take_at (i := 8) (v := ?_) rfl (by kernel_rfl) (by kernel_rfl) (by kernel_rfl) (fun _ _ _ h => h) (by kernel_rfl) True.intro ?_ ?_
    rotate_left
    · (intro w hSw; (try dsimp only at hSw); go_simp; try with_reducible rfl)
    simp only [Act.put, List.setIfInBounds_toArray, List.set_cons_zero, List.set_cons_succ]
    refine do_at (i := 9) rfl (by kernel_rfl) (by kernel_rfl) (fun K hK => ?_)
    go_simp
    refine hK.out _ _ ?_ (fun hHeld => ?_)
    · trivial
    clear hK K
    try simp only [Act.put, List.setIfInBounds_toArray, List.set_cons_zero, List.set_cons_succ]
    refine take_at (i := 10) (v := ?_) rfl (by kernel_rfl) (by kernel_rfl) (by kernel_rfl) (fun _ _ _ h => h) (by kernel_rfl) True.intro ?_ ?_
    rotate_left
    · (intro w hSw; (try dsimp only at hSw); go_simp; try with_reducible rfl)
    simp only [Act.put, List.setIfInBounds_toArray, List.set_cons_zero, List.set_cons_succ]
    refine wpAnyH_done (by kernel_rfl) ?_ _
    go_wp2
    refine bodyPost_ret (v := .tuple #[valT (rowsV ((s.data.toList.drop 1).take 2) (((s.data.toList.drop 1).drop 2).take 2) ((s.data.toList.drop 1).drop (2 * 2))), .bool (rowsB ((s.data.toList.drop 1).take 2) (((s.data.toList.drop 1).drop 2).take 2) ((s.data.toList.drop 1).drop (2 * 2)))]) (by simp [results, Try.results19, go_sem, s2, s3, s4]) rfl (parse_end E2.out E1.out rfl ?_)
    exact ((RQ.1.setCell (by simp) _).setCell (by simp) _).setCell (by simp) _

set_option maxRecDepth 100000 in
set_option maxHeartbeats 2000000 in
theorem rparse_none (s : ByteArray) (hs : s.size ≤ 4096) (h1 : Lib.hasPrefix s.data.toList rgbP = false) (h2 : Lib.hasPrefix s.data.toList [35] = false ∨ (s.size ≠ 4 ∧ s.size ≠ 7)) (w : World) :
    Calls Try.prog 19 #[.string s] w (FormPost (parseV s.data.toList) (parseB s.data.toList) w) := by
  have hpn := parse_no h1 (by rw [← Lib.size_eq]; exact h2)
  have HP := Lib.hid hpn
  have HV := Lib.hid (parse_zero hpn)
  clear hpn
  by_cases h4 : s.size < 4
  · have t1 : ((s.size : Int) == 4) = false := by simp; omega
    have t2 : ((s.size : Int) == 7) = false := by simp; omega
    have t3 : decide (s.size < 4) = true := by simp; omega
    have t4 : (s.size : Int) < 4 := by omega
    clear h2 h1
    go_enter Try.func19, Try.ntmps19
    go_wp2
    refine bodyPost_ret (v := .tuple #[val 0 0 0, .bool false]) (by simp [results, Try.results19, go_sem]) rfl (parse_end HV.out HP.out rfl ?_)
    exact (Below.refl _ _).alloc (Nat.le_refl _) _
  · have hx : (s.extract 0 4).toList ≠ [114, 103, 98, 58] := by
      intro e
      rw [ByteArray.toList_eq, piece] at e
      have : Lib.hasPrefix s.data.toList rgbP = true := by
        rw [← Lib.hasPrefix_of_take]
        simp only [Nat.sub_zero, List.drop_zero] at e
        rw [show rgbP.length = 4 from rfl, e, decide_eq_true (by simp; omega)]
        rfl
      rw [this] at h1
      cases h1
    have hx' : ((s.extract 0 4).toList == [114, 103, 98, 58]) = false := by simpa using hx
    have t4 : ¬ (s.size : Int) < 4 := by omega
    have l4 : (4 : Int) ≤ (s.size : Int) := by omega
    have t5 : decide (s.size < 4) = false := by simp; omega
    have l0 : 0 < s.size := by omega
    by_cases g1 : s.size = 4
    · have hc0 : ((s[0].toNat : Int) == 35) = false := by
        rw [Bool.eq_false_iff]
        intro e
        have h5 : s[0].toNat = 35 := by simp only [beq_iff_eq] at e; omega
        rcases h2 with h2 | h2
        · rw [first_hash h5] at h2; cases h2
        · exact h2.1 g1
      have t1 : ((s.size : Int) == 4) = true := by rw [g1]; rfl
      have t2 : ((s.size : Int) == 7) = false := by rw [g1]; rfl
      clear hx h2 h1
      go_enter Try.func19, Try.ntmps19
      go_wp2
      refine bodyPost_ret (v := .tuple #[val 0 0 0, .bool false]) (by simp [results, Try.results19, go_sem]) rfl (parse_end HV.out HP.out rfl ?_)
      exact (Below.refl _ _).alloc (Nat.le_refl _) _
    · have t1 : ((s.size : Int) == 4) = false := by simp; omega
      by_cases g2 : s.size = 7
      · have hc0 : ((s[0].toNat : Int) == 35) = false := by
          rw [Bool.eq_false_iff]
          intro e
          have h5 : s[0].toNat = 35 := by simp only [beq_iff_eq] at e; omega
          rcases h2 with h2 | h2
          · rw [first_hash h5] at h2; cases h2
          · exact h2.2 g2
        have t2 : ((s.size : Int) == 7) = true := by rw [g2]; rfl
        clear hx h2 h1
        go_enter Try.func19, Try.ntmps19
        go_wp2
        refine bodyPost_ret (v := .tuple #[val 0 0 0, .bool false]) (by simp [results, Try.results19, go_sem]) rfl (parse_end HV.out HP.out rfl ?_)
        exact (Below.refl _ _).alloc (Nat.le_refl _) _
      · have t2 : ((s.size : Int) == 7) = false := by simp; omega
        clear hx h2 h1
        go_enter Try.func19, Try.ntmps19
        go_wp2
        refine bodyPost_ret (v := .tuple #[val 0 0 0, .bool false]) (by simp [results, Try.results19, go_sem]) rfl (parse_end HV.out HP.out rfl ?_)
        exact (Below.refl _ _).alloc (Nat.le_refl _) _

theorem pre_size {s : ByteArray} (h : Lib.hasPrefix s.data.toList rgbP = true) : 4 ≤ s.size := by
  have h2 := Lib.hasPrefix_of_take s.data.toList rgbP
  rw [h, Bool.and_eq_true, decide_eq_true_eq] at h2
  rw [Lib.size_eq]
  exact h2.1
theorem pre_take {s : ByteArray} (h : Lib.hasPrefix s.data.toList rgbP = true) : (s.data.toList.drop 0).take (4 - 0) = [114, 103, 98, 58] := by
  have h2 := Lib.hasPrefix_of_take s.data.toList rgbP
  rw [h, Bool.and_eq_true] at h2
  exact beq_iff_eq.mp h2.2
theorem three_map {ps : List ByteArray} {a b c : List UInt8} (h : ps.map (·.data.toList) = [a, b, c]) : ∃ x y z, ps = [x, y, z] ∧ x.data.toList = a ∧ y.data.toList = b ∧ z.data.toList = c := by
  match ps, h with
  | [x, y, z], h =>
    simp at h
    exact ⟨x, y, z, rfl, h.1, h.2.1, h.2.2⟩
theorem splitL_le : ∀ (l p : List UInt8), p ∈ splitL l → p.length ≤ l.length
  | [], p, h => by simp [splitL] at h; subst h; simp
  | x :: xs, p, h => by
    rw [splitL_cons] at h
    obtain ⟨q, qs, hq⟩ := splitL_ne xs
    have ih := splitL_le xs
    by_cases h0 : x = 47
    · rw [if_pos h0] at h
      rcases List.mem_cons.1 h with rfl | h
      · simp
      · have := ih p h; simp; omega
    · rw [if_neg h0, hq] at h
      rw [hq] at ih
      rcases List.mem_cons.1 h with rfl | h
      · have := ih q (by simp); simp; omega
      · have := ih p (by simpa using Or.inr h); simp; omega
theorem piece_len {s : ByteArray} {ps : List ByteArray} (h : splitL (s.data.toList.drop 4) = ps.map (·.data.toList)) (x : ByteArray) (hx : x ∈ ps) : x.size ≤ s.size := by
  have h1 := splitL_le (s.data.toList.drop 4) x.data.toList (by rw [h]; exact List.mem_map.2 ⟨x, hx, rfl⟩)
  rw [Lib.size_eq, Lib.size_eq s]
  simp at h1 ⊢
  omega

set_option maxRecDepth 100000 in
set_option maxHeartbeats 4000000 in
theorem rparse_rgb (s : ByteArray) (hs : s.size ≤ 4096) (hp : Lib.hasPrefix s.data.toList rgbP = true) (t1 : ((s.size : Int) == 4) = false) (t2 : ((s.size : Int) == 7) = false) (w : World) :
    Calls Try.prog 19 #[.string s] w (FormPost (parseV s.data.toList) (parseB s.data.toList) w) := by
  obtain ⟨ib, hi, hz0, hz1, hz2⟩ := info_parts infoStr
  have h4 : 4 ≤ s.size := pre_size hp
  have l0 : 0 < s.size := by omega
  have hc0 : ((s[0].toNat : Int) == 35) = false := by
    have h5 : s[0].toNat = 114 := first_of hp l0
    simp only [h5]
    decide
  have hx : ((s.extract 0 4).toList == [114, 103, 98, 58]) = true := by
    rw [beq_iff_eq, ByteArray.toList_eq, piece]
    exact pre_take hp
  have t4 : ¬ (s.size : Int) < 4 := by omega
  have l4 : (4 : Int) ≤ (s.size : Int) := by omega
  have t5 : decide (s.size < 4) = false := by simp; omega
  have HP := Lib.hid hp
  have H4 := Lib.hid h4
  clear hp
  go_enter Try.func19, Try.ntmps19
  go_wp2_with fail
  go_loopw [4, 5, 6] (fun v g i wr => ∃ (k q : Nat) (ps : List ByteArray), i = .int .i64 k ∧ g = .int .i64 q ∧ Hid (Found s k q ps) ∧ Hid (PR w wr ∧ wr.ownsRow (w.heap.size + 1) 9 1 v ps.length (strs ps))) (fun _ _ i _ => s.size + 1 - (intOf i).toNat)
  case atStart => exact ⟨4, 4, [], rfl, rfl, Lib.hid (Found.start H4.out), Lib.hid ⟨⟨(Below.refl _ _).alloc (Nat.le_refl _) _, V3.newAt w w.heap.size rfl 0 0 0 _⟩, World.ownsRow_nil _ _ _ _⟩⟩
  case round =>
    obtain ⟨k, q, ps, rfl, rfl, hF, hR⟩ := hrel
    have hk1 := hF.out.2.2.1
    have hq1 := hF.out.2.1
    have hpl := hF.out.2.2.2.1
    have lq : (q : Int) ≤ (k : Int) := by omega
    by_cases hk : k < s.size
    · have lk : (k : Int) ≤ (s.size : Int) := by omega
      have n1 : ((k : Int) == (s.size : Int)) = false := by simp; omega
      by_cases hc : s[k].toNat = 47
      · have c1 : ((s[k].toNat : Int) == 47) = true := by rw [hc]; rfl
        have HC := Lib.hid hc
        clear hc
        go_wp2_with (at_builtin; refine wpList_append_own _ rfl (.tmp 66) (.tmp 71) 57 rfl (w.heap.size + 1) 9 ib (.string ⟨#[]⟩) 1 16 Try.underlying57 hi hz0 hz1 hz2 rfl (by decide) _ _ _ rfl (hR.out.2.alloc _) ⟨wr.heap.size, 0, none⟩ 1 1 (strs [s.extract q k]) rfl rfl ?c1 ?c2 ?c3 ?c4 ?c5 ?_)
        case c1 => exact new1 _ _ _ _ rfl
        case c2 => exact strs_one _
        case c3 => unfold maxLen; omega
        case c4 => omega
        case c5 => have := hR.out.1.2.1; simp; omega
        intro v' w' own' grow' _
        go_wp2_with fail
        go_roundw
        case rel => exact ⟨k + 1, k + 1, ps ++ [s.extract q k], by go_num, by go_num, Lib.hid (hF.out.cut hk HC.out), Lib.hid ⟨(hR.out.1.past _).grown grow' (fun j hj => (hR.out.2.lt j hj).1), by simpa using own'⟩⟩
        case measure => simp [intOf]; omega
      · have c1 : ((s[k].toNat : Int) == 47) = false := by
          rw [Bool.eq_false_iff]
          intro e
          exact hc (by simp only [beq_iff_eq] at e; omega)
        have HC := Lib.hid hc
        clear hc
        go_wp2_with fail
        go_roundw
        case rel => exact ⟨k + 1, q, ps, by go_num, rfl, Lib.hid (hF.out.skip hk HC.out), hR⟩
        case measure => simp [intOf]; omega
    · by_cases hk2 : k = s.size
      · have lk : (k : Int) ≤ (s.size : Int) := by omega
        have n1 : ((k : Int) == (s.size : Int)) = true := by rw [hk2]; simp
        have HK := Lib.hid hk2
        clear hk2
        go_wp2_with (at_builtin; refine wpList_append_own _ rfl (.tmp 66) (.tmp 71) 57 rfl (w.heap.size + 1) 9 ib (.string ⟨#[]⟩) 1 16 Try.underlying57 hi hz0 hz1 hz2 rfl (by decide) _ _ _ rfl (hR.out.2.alloc _) ⟨wr.heap.size, 0, none⟩ 1 1 (strs [s.extract q k]) rfl rfl ?c1 ?c2 ?c3 ?c4 ?c5 ?_)
        case c1 => exact new1 _ _ _ _ rfl
        case c2 => exact strs_one _
        case c3 => unfold maxLen; omega
        case c4 => omega
        case c5 => have := hR.out.1.2.1; simp; omega
        intro v' w' own' grow' _
        go_wp2_with fail
        go_roundw
        case rel => exact ⟨k + 1, k + 1, ps ++ [s.extract q k], by go_num, by go_num, Lib.hid (hF.out.last HK.out), Lib.hid ⟨(hR.out.1.past _).grown grow' (fun j hj => (hR.out.2.lt j hj).1), by simpa using own'⟩⟩
        case measure => simp [intOf]; omega
      · have hke : k = s.size + 1 := by omega
        have hsp : splitL (s.data.toList.drop 4) = ps.map (·.data.toList) := by
          rcases hF.out.2.2.2.2.2 with h | h
          · omega
          · exact h.2
        have lk : ¬ (k : Int) ≤ (s.size : Int) := by omega
        obtain ⟨e1, e2⟩ := parse_pre HP.out
        rcases rgb_split HP.out with ⟨a, b, c, h1, h2, h3⟩ | ⟨h1, h2⟩
        · rw [hsp] at h1
          obtain ⟨x, y, z, rfl, hx1, hy1, hz1'⟩ := three_map h1
          obtain ⟨g, cp, hv, hgb, hg, g0, g1, g2⟩ := three_of_own hR.out.2
          subst hv
          have z1 : x.size ≤ maxLen := by have := piece_len hsp x (by simp); unfold maxLen; omega
          have z2 : y.size ≤ maxLen := by have := piece_len hsp y (by simp); unfold maxLen; omega
          have z3 : z.size ≤ maxLen := by have := piece_len hsp z (by simp); unfold maxLen; omega
          have X1 := Lib.hid hx1
          have X2 := Lib.hid hy1
          have X3 := Lib.hid hz1'
          have E1 := Lib.hid (e1.trans h2)
          have E2 := Lib.hid (e2.trans h3)
          have ne : ¬ g = w.heap.size := by omega
          have RQ := hR.out.1.drew
          have L3 : ([x, y, z].length : Int) = 3 := rfl
          clear hF hR h1 h2 h3 hsp hx1 hy1 hz1' e1 e2 hpl
          go_upto_region 17 with (fail)
          refine wp_region_held_drew (S := fun w' => w'.cell? ⟨g, 0, none⟩ = some (.string x) ∧ w'.cell? ⟨g, 1, none⟩ = some (.string y) ∧ w'.cell? ⟨g, 2, none⟩ = some (.string z)) (by kernel_rfl) ?_ (fun hHeld => ?_)
          · exact ⟨g0, g1, g2⟩
          refine take_at (i := 0) (v := ?_) rfl (by kernel_rfl) (by kernel_rfl) (by kernel_rfl) (fun _ _ _ h => h) (by kernel_rfl) (by assumption) ?_ ?_
          rotate_left
          · (intro w hSw; (try dsimp only at hSw); go_simp; try with_reducible rfl)
          simp only [Act.put, List.setIfInBounds_toArray, List.set_cons_zero, List.set_cons_succ]
          refine take_at (i := 1) (v := ?_) rfl (by kernel_rfl) (by kernel_rfl) (by kernel_rfl) (fun _ _ _ h => h) (by kernel_rfl) (by assumption) ?_ ?_
          rotate_left
          · (intro w hSw; (try dsimp only at hSw); go_simp; try with_reducible rfl)
          simp only [Act.put, List.setIfInBounds_toArray, List.set_cons_zero, List.set_cons_succ]
          refine take_at (i := 2) (v := ?_) rfl (by kernel_rfl) (by kernel_rfl) (by kernel_rfl) (fun _ _ _ h => h) (by kernel_rfl) (by assumption) ?_ ?_
          rotate_left
          · (intro w hSw; (try dsimp only at hSw); go_simp; try with_reducible rfl)
          simp only [Act.put, List.setIfInBounds_toArray, List.set_cons_zero, List.set_cons_succ]
          refine take_at (i := 3) (v := ?_) rfl (by kernel_rfl) (by kernel_rfl) (by kernel_rfl) (fun _ _ _ h => h) (by kernel_rfl) (by assumption) ?_ ?_
          rotate_left
          · (intro w hSw; (try dsimp only at hSw); go_simp; try with_reducible rfl)
          simp only [Act.put, List.setIfInBounds_toArray, List.set_cons_zero, List.set_cons_succ]
          refine take_at (i := 4) (v := ?_) rfl (by kernel_rfl) (by kernel_rfl) (by kernel_rfl) (fun _ _ _ h => h) (by kernel_rfl) (by assumption) ?_ ?_
          rotate_left
          · (intro w hSw; (try dsimp only at hSw); go_simp; try with_reducible rfl)
          simp only [Act.put, List.setIfInBounds_toArray, List.set_cons_zero, List.set_cons_succ]
          refine take_at (i := 5) (v := ?_) rfl (by kernel_rfl) (by kernel_rfl) (by kernel_rfl) (fun _ _ _ h => h) (by kernel_rfl) (by assumption) ?_ ?_
          rotate_left
          · (intro w hSw; (try dsimp only at hSw); go_simp; try with_reducible rfl)
          simp only [Act.put, List.setIfInBounds_toArray, List.set_cons_zero, List.set_cons_succ]
          refine take_at (i := 6) (v := ?_) rfl (by kernel_rfl) (by kernel_rfl) (by kernel_rfl) (fun _ _ _ h => h) (by kernel_rfl) (by assumption) ?_ ?_
          rotate_left
          · (intro w hSw; (try dsimp only at hSw); go_simp; try with_reducible rfl)
          simp only [Act.put, List.setIfInBounds_toArray, List.set_cons_zero, List.set_cons_succ]
          refine take_at (i := 7) (v := ?_) rfl (by kernel_rfl) (by kernel_rfl) (by kernel_rfl) (fun _ _ _ h => h) (by kernel_rfl) (by assumption) ?_ ?_
          rotate_left
          · (intro w hSw; (try dsimp only at hSw); go_simp; try with_reducible rfl)
          simp only [Act.put, List.setIfInBounds_toArray, List.set_cons_zero, List.set_cons_succ]
          refine take_at (i := 8) (v := ?_) rfl (by kernel_rfl) (by kernel_rfl) (by kernel_rfl) (fun _ _ _ h => h) (by kernel_rfl) (by assumption) ?_ ?_
          rotate_left
          · (intro w hSw; (try dsimp only at hSw); go_simp; try with_reducible rfl)
          simp only [Act.put, List.setIfInBounds_toArray, List.set_cons_zero, List.set_cons_succ]
          refine do_at (i := 9) rfl (by kernel_rfl) (by kernel_rfl) (fun K hK => ?_)
          go_simp
          refine (rthree_of z1 z2 z3 X1 X2 X3 _).mono ?_
          rintro e w6 ⟨rfl, hb6⟩
          have RQ' := RQ.below hb6
          have g0' := (hb6.cell (p := ⟨g, 0, none⟩) hg).trans g0
          have g1' := (hb6.cell (p := ⟨g, 1, none⟩) hg).trans g1
          have g2' := (hb6.cell (p := ⟨g, 2, none⟩) hg).trans g2
          clear RQ g0 g1 g2
          have RQ := RQ'
          clear RQ'
          obtain ⟨⟨s2, s3, s4⟩, s5, s6, s7⟩ := RQ.2.s
          go_wp2_with fail
          refine hK.out _ _ ?_ (fun hHeld => ?_)
          · exact ⟨g0', g1', g2'⟩
          clear hK K
          try simp only [Act.put, List.setIfInBounds_toArray, List.set_cons_zero, List.set_cons_succ]
          refine take_at (i := 10) (v := ?_) rfl (by kernel_rfl) (by kernel_rfl) (by kernel_rfl) (fun _ _ _ h => h) (by kernel_rfl) (by assumption) ?_ ?_
          rotate_left
          · (intro w hSw; (try dsimp only at hSw); go_simp; try with_reducible rfl)
          simp only [Act.put, List.setIfInBounds_toArray, List.set_cons_zero, List.set_cons_succ]
          refine take_at (i := 11) (v := ?_) rfl (by kernel_rfl) (by kernel_rfl) (by kernel_rfl) (fun _ _ _ h => h) (by kernel_rfl) (by assumption) ?_ ?_
          rotate_left
          · (intro w hSw; (try dsimp only at hSw); go_simp; try with_reducible rfl)
          simp only [Act.put, List.setIfInBounds_toArray, List.set_cons_zero, List.set_cons_succ]
          refine do_at (i := 12) rfl (by kernel_rfl) (by kernel_rfl) (fun K hK => ?_)
          go_simp
          refine hK.out _ _ ?_ (fun hHeld => ?_)
          · exact ⟨(set3_far ne 0 _ _ _).trans g0', (set3_far ne 1 _ _ _).trans g1', (set3_far ne 2 _ _ _).trans g2'⟩
          clear hK K
          try simp only [Act.put, List.setIfInBounds_toArray, List.set_cons_zero, List.set_cons_succ]
          refine take_at (i := 13) (v := ?_) rfl (by kernel_rfl) (by kernel_rfl) (by kernel_rfl) (fun _ _ _ h => h) (by kernel_rfl) (by assumption) ?_ ?_
          rotate_left
          · (intro w hSw; (try dsimp only at hSw); go_simp; try with_reducible rfl)
          simp only [Act.put, List.setIfInBounds_toArray, List.set_cons_zero, List.set_cons_succ]
          refine wpAnyH_done (by kernel_rfl) ?_ _
          go_wp2
          refine bodyPost_ret (v := .tuple #[valT (rowsV a b c), .bool (rowsB a b c)]) (by simp [results, Try.results19, go_sem, s2, s3, s4]) rfl (parse_end E2.out E1.out rfl ?_)
          exact ((RQ.1.setCell (by simp) _).setCell (by simp) _).setCell (by simp) _
        · rw [hsp, List.length_map] at h1
          obtain ⟨a, c, hv⟩ := row_form hR.out.2
          subst hv
          have n3 : ((ps.length : Int) != 3) = true := by simp; omega
          have n4 : ((ps.length : Int) == 3) = false := by simp; omega
          have HP0 := Lib.hid (e1.trans h2)
          have HV := Lib.hid (parse_zero (e1.trans h2))
          have RQ := hR.out.1
          obtain ⟨⟨s2, s3, s4⟩, s5, s6, s7⟩ := RQ.2.s
          clear hF hR h1 h2 hsp e1 e2 hpl
          go_wp2
          refine bodyPost_ret (v := .tuple #[val 0 0 0, .bool false]) (by simp [results, Try.results19, go_sem, s2, s3, s4]) rfl (parse_end HV.out HP0.out rfl ?_)
          exact ((RQ.1.setCell (by simp) _).setCell (by simp) _).setCell (by simp) _

set_option maxRecDepth 100000 in
set_option maxHeartbeats 4000000 in
theorem rparse_rgb4 (s : ByteArray) (hs : s.size ≤ 4096) (hp : Lib.hasPrefix s.data.toList rgbP = true) (t1 : ((s.size : Int) == 4) = true) (t2 : ((s.size : Int) == 7) = false) (w : World) :
    Calls Try.prog 19 #[.string s] w (FormPost (parseV s.data.toList) (parseB s.data.toList) w) := by
  obtain ⟨ib, hi, hz0, hz1, hz2⟩ := info_parts infoStr
  have h4 : 4 ≤ s.size := pre_size hp
  have l0 : 0 < s.size := by omega
  have hc0 : ((s[0].toNat : Int) == 35) = false := by
    have h5 : s[0].toNat = 114 := first_of hp l0
    simp only [h5]
    decide
  have hx : ((s.extract 0 4).toList == [114, 103, 98, 58]) = true := by
    rw [beq_iff_eq, ByteArray.toList_eq, piece]
    exact pre_take hp
  have t4 : ¬ (s.size : Int) < 4 := by omega
  have l4 : (4 : Int) ≤ (s.size : Int) := by omega
  have t5 : decide (s.size < 4) = false := by simp; omega
  have HP := Lib.hid hp
  have H4 := Lib.hid h4
  clear hp
  go_enter Try.func19, Try.ntmps19
  go_wp2_with fail
  go_loopw [4, 5, 6] (fun v g i wr => ∃ (k q : Nat) (ps : List ByteArray), i = .int .i64 k ∧ g = .int .i64 q ∧ Hid (Found s k q ps) ∧ Hid (PR w wr ∧ wr.ownsRow (w.heap.size + 1) 9 1 v ps.length (strs ps))) (fun _ _ i _ => s.size + 1 - (intOf i).toNat)
  case atStart => exact ⟨4, 4, [], rfl, rfl, Lib.hid (Found.start H4.out), Lib.hid ⟨⟨(Below.refl _ _).alloc (Nat.le_refl _) _, V3.newAt w w.heap.size rfl 0 0 0 _⟩, World.ownsRow_nil _ _ _ _⟩⟩
  case round =>
    obtain ⟨k, q, ps, rfl, rfl, hF, hR⟩ := hrel
    have hk1 := hF.out.2.2.1
    have hq1 := hF.out.2.1
    have hpl := hF.out.2.2.2.1
    have lq : (q : Int) ≤ (k : Int) := by omega
    by_cases hk : k < s.size
    · have lk : (k : Int) ≤ (s.size : Int) := by omega
      have n1 : ((k : Int) == (s.size : Int)) = false := by simp; omega
      by_cases hc : s[k].toNat = 47
      · have c1 : ((s[k].toNat : Int) == 47) = true := by rw [hc]; rfl
        have HC := Lib.hid hc
        clear hc
        go_wp2_with (at_builtin; refine wpList_append_own _ rfl (.tmp 66) (.tmp 71) 57 rfl (w.heap.size + 1) 9 ib (.string ⟨#[]⟩) 1 16 Try.underlying57 hi hz0 hz1 hz2 rfl (by decide) _ _ _ rfl (hR.out.2.alloc _) ⟨wr.heap.size, 0, none⟩ 1 1 (strs [s.extract q k]) rfl rfl ?c1 ?c2 ?c3 ?c4 ?c5 ?_)
        case c1 => exact new1 _ _ _ _ rfl
        case c2 => exact strs_one _
        case c3 => unfold maxLen; omega
        case c4 => omega
        case c5 => have := hR.out.1.2.1; simp; omega
        intro v' w' own' grow' _
        go_wp2_with fail
        go_roundw
        case rel => exact ⟨k + 1, k + 1, ps ++ [s.extract q k], by go_num, by go_num, Lib.hid (hF.out.cut hk HC.out), Lib.hid ⟨(hR.out.1.past _).grown grow' (fun j hj => (hR.out.2.lt j hj).1), by simpa using own'⟩⟩
        case measure => simp [intOf]; omega
      · have c1 : ((s[k].toNat : Int) == 47) = false := by
          rw [Bool.eq_false_iff]
          intro e
          exact hc (by simp only [beq_iff_eq] at e; omega)
        have HC := Lib.hid hc
        clear hc
        go_wp2_with fail
        go_roundw
        case rel => exact ⟨k + 1, q, ps, by go_num, rfl, Lib.hid (hF.out.skip hk HC.out), hR⟩
        case measure => simp [intOf]; omega
    · by_cases hk2 : k = s.size
      · have lk : (k : Int) ≤ (s.size : Int) := by omega
        have n1 : ((k : Int) == (s.size : Int)) = true := by rw [hk2]; simp
        have HK := Lib.hid hk2
        clear hk2
        go_wp2_with (at_builtin; refine wpList_append_own _ rfl (.tmp 66) (.tmp 71) 57 rfl (w.heap.size + 1) 9 ib (.string ⟨#[]⟩) 1 16 Try.underlying57 hi hz0 hz1 hz2 rfl (by decide) _ _ _ rfl (hR.out.2.alloc _) ⟨wr.heap.size, 0, none⟩ 1 1 (strs [s.extract q k]) rfl rfl ?c1 ?c2 ?c3 ?c4 ?c5 ?_)
        case c1 => exact new1 _ _ _ _ rfl
        case c2 => exact strs_one _
        case c3 => unfold maxLen; omega
        case c4 => omega
        case c5 => have := hR.out.1.2.1; simp; omega
        intro v' w' own' grow' _
        go_wp2_with fail
        go_roundw
        case rel => exact ⟨k + 1, k + 1, ps ++ [s.extract q k], by go_num, by go_num, Lib.hid (hF.out.last HK.out), Lib.hid ⟨(hR.out.1.past _).grown grow' (fun j hj => (hR.out.2.lt j hj).1), by simpa using own'⟩⟩
        case measure => simp [intOf]; omega
      · have hke : k = s.size + 1 := by omega
        have hsp : splitL (s.data.toList.drop 4) = ps.map (·.data.toList) := by
          rcases hF.out.2.2.2.2.2 with h | h
          · omega
          · exact h.2
        have lk : ¬ (k : Int) ≤ (s.size : Int) := by omega
        obtain ⟨e1, e2⟩ := parse_pre HP.out
        rcases rgb_split HP.out with ⟨a, b, c, h1, h2, h3⟩ | ⟨h1, h2⟩
        · rw [hsp] at h1
          obtain ⟨x, y, z, rfl, hx1, hy1, hz1'⟩ := three_map h1
          obtain ⟨g, cp, hv, hgb, hg, g0, g1, g2⟩ := three_of_own hR.out.2
          subst hv
          have z1 : x.size ≤ maxLen := by have := piece_len hsp x (by simp); unfold maxLen; omega
          have z2 : y.size ≤ maxLen := by have := piece_len hsp y (by simp); unfold maxLen; omega
          have z3 : z.size ≤ maxLen := by have := piece_len hsp z (by simp); unfold maxLen; omega
          have X1 := Lib.hid hx1
          have X2 := Lib.hid hy1
          have X3 := Lib.hid hz1'
          have E1 := Lib.hid (e1.trans h2)
          have E2 := Lib.hid (e2.trans h3)
          have ne : ¬ g = w.heap.size := by omega
          have RQ := hR.out.1.drew
          have L3 : ([x, y, z].length : Int) = 3 := rfl
          clear hF hR h1 h2 h3 hsp hx1 hy1 hz1' e1 e2 hpl
          go_upto_region 17 with (fail)
          refine wp_region_held_drew (S := fun w' => w'.cell? ⟨g, 0, none⟩ = some (.string x) ∧ w'.cell? ⟨g, 1, none⟩ = some (.string y) ∧ w'.cell? ⟨g, 2, none⟩ = some (.string z)) (by kernel_rfl) ?_ (fun hHeld => ?_)
          · exact ⟨g0, g1, g2⟩
          refine take_at (i := 0) (v := ?_) rfl (by kernel_rfl) (by kernel_rfl) (by kernel_rfl) (fun _ _ _ h => h) (by kernel_rfl) (by assumption) ?_ ?_
          rotate_left
          · (intro w hSw; (try dsimp only at hSw); go_simp; try with_reducible rfl)
          simp only [Act.put, List.setIfInBounds_toArray, List.set_cons_zero, List.set_cons_succ]
          refine take_at (i := 1) (v := ?_) rfl (by kernel_rfl) (by kernel_rfl) (by kernel_rfl) (fun _ _ _ h => h) (by kernel_rfl) (by assumption) ?_ ?_
          rotate_left
          · (intro w hSw; (try dsimp only at hSw); go_simp; try with_reducible rfl)
          simp only [Act.put, List.setIfInBounds_toArray, List.set_cons_zero, List.set_cons_succ]
          refine take_at (i := 2) (v := ?_) rfl (by kernel_rfl) (by kernel_rfl) (by kernel_rfl) (fun _ _ _ h => h) (by kernel_rfl) (by assumption) ?_ ?_
          rotate_left
          · (intro w hSw; (try dsimp only at hSw); go_simp; try with_reducible rfl)
          simp only [Act.put, List.setIfInBounds_toArray, List.set_cons_zero, List.set_cons_succ]
          refine take_at (i := 3) (v := ?_) rfl (by kernel_rfl) (by kernel_rfl) (by kernel_rfl) (fun _ _ _ h => h) (by kernel_rfl) (by assumption) ?_ ?_
          rotate_left
          · (intro w hSw; (try dsimp only at hSw); go_simp; try with_reducible rfl)
          simp only [Act.put, List.setIfInBounds_toArray, List.set_cons_zero, List.set_cons_succ]
          refine take_at (i := 4) (v := ?_) rfl (by kernel_rfl) (by kernel_rfl) (by kernel_rfl) (fun _ _ _ h => h) (by kernel_rfl) (by assumption) ?_ ?_
          rotate_left
          · (intro w hSw; (try dsimp only at hSw); go_simp; try with_reducible rfl)
          simp only [Act.put, List.setIfInBounds_toArray, List.set_cons_zero, List.set_cons_succ]
          refine take_at (i := 5) (v := ?_) rfl (by kernel_rfl) (by kernel_rfl) (by kernel_rfl) (fun _ _ _ h => h) (by kernel_rfl) (by assumption) ?_ ?_
          rotate_left
          · (intro w hSw; (try dsimp only at hSw); go_simp; try with_reducible rfl)
          simp only [Act.put, List.setIfInBounds_toArray, List.set_cons_zero, List.set_cons_succ]
          refine take_at (i := 6) (v := ?_) rfl (by kernel_rfl) (by kernel_rfl) (by kernel_rfl) (fun _ _ _ h => h) (by kernel_rfl) (by assumption) ?_ ?_
          rotate_left
          · (intro w hSw; (try dsimp only at hSw); go_simp; try with_reducible rfl)
          simp only [Act.put, List.setIfInBounds_toArray, List.set_cons_zero, List.set_cons_succ]
          refine take_at (i := 7) (v := ?_) rfl (by kernel_rfl) (by kernel_rfl) (by kernel_rfl) (fun _ _ _ h => h) (by kernel_rfl) (by assumption) ?_ ?_
          rotate_left
          · (intro w hSw; (try dsimp only at hSw); go_simp; try with_reducible rfl)
          simp only [Act.put, List.setIfInBounds_toArray, List.set_cons_zero, List.set_cons_succ]
          refine take_at (i := 8) (v := ?_) rfl (by kernel_rfl) (by kernel_rfl) (by kernel_rfl) (fun _ _ _ h => h) (by kernel_rfl) (by assumption) ?_ ?_
          rotate_left
          · (intro w hSw; (try dsimp only at hSw); go_simp; try with_reducible rfl)
          simp only [Act.put, List.setIfInBounds_toArray, List.set_cons_zero, List.set_cons_succ]
          refine do_at (i := 9) rfl (by kernel_rfl) (by kernel_rfl) (fun K hK => ?_)
          go_simp
          refine (rthree_of z1 z2 z3 X1 X2 X3 _).mono ?_
          rintro e w6 ⟨rfl, hb6⟩
          have RQ' := RQ.below hb6
          have g0' := (hb6.cell (p := ⟨g, 0, none⟩) hg).trans g0
          have g1' := (hb6.cell (p := ⟨g, 1, none⟩) hg).trans g1
          have g2' := (hb6.cell (p := ⟨g, 2, none⟩) hg).trans g2
          clear RQ g0 g1 g2
          have RQ := RQ'
          clear RQ'
          obtain ⟨⟨s2, s3, s4⟩, s5, s6, s7⟩ := RQ.2.s
          go_wp2_with fail
          refine hK.out _ _ ?_ (fun hHeld => ?_)
          · exact ⟨g0', g1', g2'⟩
          clear hK K
          try simp only [Act.put, List.setIfInBounds_toArray, List.set_cons_zero, List.set_cons_succ]
          refine take_at (i := 10) (v := ?_) rfl (by kernel_rfl) (by kernel_rfl) (by kernel_rfl) (fun _ _ _ h => h) (by kernel_rfl) (by assumption) ?_ ?_
          rotate_left
          · (intro w hSw; (try dsimp only at hSw); go_simp; try with_reducible rfl)
          simp only [Act.put, List.setIfInBounds_toArray, List.set_cons_zero, List.set_cons_succ]
          refine take_at (i := 11) (v := ?_) rfl (by kernel_rfl) (by kernel_rfl) (by kernel_rfl) (fun _ _ _ h => h) (by kernel_rfl) (by assumption) ?_ ?_
          rotate_left
          · (intro w hSw; (try dsimp only at hSw); go_simp; try with_reducible rfl)
          simp only [Act.put, List.setIfInBounds_toArray, List.set_cons_zero, List.set_cons_succ]
          refine do_at (i := 12) rfl (by kernel_rfl) (by kernel_rfl) (fun K hK => ?_)
          go_simp
          refine hK.out _ _ ?_ (fun hHeld => ?_)
          · exact ⟨(set3_far ne 0 _ _ _).trans g0', (set3_far ne 1 _ _ _).trans g1', (set3_far ne 2 _ _ _).trans g2'⟩
          clear hK K
          try simp only [Act.put, List.setIfInBounds_toArray, List.set_cons_zero, List.set_cons_succ]
          refine take_at (i := 13) (v := ?_) rfl (by kernel_rfl) (by kernel_rfl) (by kernel_rfl) (fun _ _ _ h => h) (by kernel_rfl) (by assumption) ?_ ?_
          rotate_left
          · (intro w hSw; (try dsimp only at hSw); go_simp; try with_reducible rfl)
          simp only [Act.put, List.setIfInBounds_toArray, List.set_cons_zero, List.set_cons_succ]
          refine wpAnyH_done (by kernel_rfl) ?_ _
          go_wp2
          refine bodyPost_ret (v := .tuple #[valT (rowsV a b c), .bool (rowsB a b c)]) (by simp [results, Try.results19, go_sem, s2, s3, s4]) rfl (parse_end E2.out E1.out rfl ?_)
          exact ((RQ.1.setCell (by simp) _).setCell (by simp) _).setCell (by simp) _
        · rw [hsp, List.length_map] at h1
          obtain ⟨a, c, hv⟩ := row_form hR.out.2
          subst hv
          have n3 : ((ps.length : Int) != 3) = true := by simp; omega
          have n4 : ((ps.length : Int) == 3) = false := by simp; omega
          have HP0 := Lib.hid (e1.trans h2)
          have HV := Lib.hid (parse_zero (e1.trans h2))
          have RQ := hR.out.1
          obtain ⟨⟨s2, s3, s4⟩, s5, s6, s7⟩ := RQ.2.s
          clear hF hR h1 h2 hsp e1 e2 hpl
          go_wp2
          refine bodyPost_ret (v := .tuple #[val 0 0 0, .bool false]) (by simp [results, Try.results19, go_sem, s2, s3, s4]) rfl (parse_end HV.out HP0.out rfl ?_)
          exact ((RQ.1.setCell (by simp) _).setCell (by simp) _).setCell (by simp) _

set_option maxRecDepth 100000 in
set_option maxHeartbeats 4000000 in
theorem rparse_rgb7 (s : ByteArray) (hs : s.size ≤ 4096) (hp : Lib.hasPrefix s.data.toList rgbP = true) (t1 : ((s.size : Int) == 4) = false) (t2 : ((s.size : Int) == 7) = true) (w : World) :
    Calls Try.prog 19 #[.string s] w (FormPost (parseV s.data.toList) (parseB s.data.toList) w) := by
  obtain ⟨ib, hi, hz0, hz1, hz2⟩ := info_parts infoStr
  have h4 : 4 ≤ s.size := pre_size hp
  have l0 : 0 < s.size := by omega
  have hc0 : ((s[0].toNat : Int) == 35) = false := by
    have h5 : s[0].toNat = 114 := first_of hp l0
    simp only [h5]
    decide
  have hx : ((s.extract 0 4).toList == [114, 103, 98, 58]) = true := by
    rw [beq_iff_eq, ByteArray.toList_eq, piece]
    exact pre_take hp
  have t4 : ¬ (s.size : Int) < 4 := by omega
  have l4 : (4 : Int) ≤ (s.size : Int) := by omega
  have t5 : decide (s.size < 4) = false := by simp; omega
  have HP := Lib.hid hp
  have H4 := Lib.hid h4
  clear hp
  go_enter Try.func19, Try.ntmps19
  go_wp2_with fail
  go_loopw [4, 5, 6] (fun v g i wr => ∃ (k q : Nat) (ps : List ByteArray), i = .int .i64 k ∧ g = .int .i64 q ∧ Hid (Found s k q ps) ∧ Hid (PR w wr ∧ wr.ownsRow (w.heap.size + 1) 9 1 v ps.length (strs ps))) (fun _ _ i _ => s.size + 1 - (intOf i).toNat)
  case atStart => exact ⟨4, 4, [], rfl, rfl, Lib.hid (Found.start H4.out), Lib.hid ⟨⟨(Below.refl _ _).alloc (Nat.le_refl _) _, V3.newAt w w.heap.size rfl 0 0 0 _⟩, World.ownsRow_nil _ _ _ _⟩⟩
  case round =>
    obtain ⟨k, q, ps, rfl, rfl, hF, hR⟩ := hrel
    have hk1 := hF.out.2.2.1
    have hq1 := hF.out.2.1
    have hpl := hF.out.2.2.2.1
    have lq : (q : Int) ≤ (k : Int) := by omega
    by_cases hk : k < s.size
    · have lk : (k : Int) ≤ (s.size : Int) := by omega
      have n1 : ((k : Int) == (s.size : Int)) = false := by simp; omega
      by_cases hc : s[k].toNat = 47
      · have c1 : ((s[k].toNat : Int) == 47) = true := by rw [hc]; rfl
        have HC := Lib.hid hc
        clear hc
        go_wp2_with (at_builtin; refine wpList_append_own _ rfl (.tmp 66) (.tmp 71) 57 rfl (w.heap.size + 1) 9 ib (.string ⟨#[]⟩) 1 16 Try.underlying57 hi hz0 hz1 hz2 rfl (by decide) _ _ _ rfl (hR.out.2.alloc _) ⟨wr.heap.size, 0, none⟩ 1 1 (strs [s.extract q k]) rfl rfl ?c1 ?c2 ?c3 ?c4 ?c5 ?_)
        case c1 => exact new1 _ _ _ _ rfl
        case c2 => exact strs_one _
        case c3 => unfold maxLen; omega
        case c4 => omega
        case c5 => have := hR.out.1.2.1; simp; omega
        intro v' w' own' grow' _
        go_wp2_with fail
        go_roundw
        case rel => exact ⟨k + 1, k + 1, ps ++ [s.extract q k], by go_num, by go_num, Lib.hid (hF.out.cut hk HC.out), Lib.hid ⟨(hR.out.1.past _).grown grow' (fun j hj => (hR.out.2.lt j hj).1), by simpa using own'⟩⟩
        case measure => simp [intOf]; omega
      · have c1 : ((s[k].toNat : Int) == 47) = false := by
          rw [Bool.eq_false_iff]
          intro e
          exact hc (by simp only [beq_iff_eq] at e; omega)
        have HC := Lib.hid hc
        clear hc
        go_wp2_with fail
        go_roundw
        case rel => exact ⟨k + 1, q, ps, by go_num, rfl, Lib.hid (hF.out.skip hk HC.out), hR⟩
        case measure => simp [intOf]; omega
    · by_cases hk2 : k = s.size
      · have lk : (k : Int) ≤ (s.size : Int) := by omega
        have n1 : ((k : Int) == (s.size : Int)) = true := by rw [hk2]; simp
        have HK := Lib.hid hk2
        clear hk2
        go_wp2_with (at_builtin; refine wpList_append_own _ rfl (.tmp 66) (.tmp 71) 57 rfl (w.heap.size + 1) 9 ib (.string ⟨#[]⟩) 1 16 Try.underlying57 hi hz0 hz1 hz2 rfl (by decide) _ _ _ rfl (hR.out.2.alloc _) ⟨wr.heap.size, 0, none⟩ 1 1 (strs [s.extract q k]) rfl rfl ?c1 ?c2 ?c3 ?c4 ?c5 ?_)
        case c1 => exact new1 _ _ _ _ rfl
        case c2 => exact strs_one _
        case c3 => unfold maxLen; omega
        case c4 => omega
        case c5 => have := hR.out.1.2.1; simp; omega
        intro v' w' own' grow' _
        go_wp2_with fail
        go_roundw
        case rel => exact ⟨k + 1, k + 1, ps ++ [s.extract q k], by go_num, by go_num, Lib.hid (hF.out.last HK.out), Lib.hid ⟨(hR.out.1.past _).grown grow' (fun j hj => (hR.out.2.lt j hj).1), by simpa using own'⟩⟩
        case measure => simp [intOf]; omega
      · have hke : k = s.size + 1 := by omega
        have hsp : splitL (s.data.toList.drop 4) = ps.map (·.data.toList) := by
          rcases hF.out.2.2.2.2.2 with h | h
          · omega
          · exact h.2
        have lk : ¬ (k : Int) ≤ (s.size : Int) := by omega
        obtain ⟨e1, e2⟩ := parse_pre HP.out
        rcases rgb_split HP.out with ⟨a, b, c, h1, h2, h3⟩ | ⟨h1, h2⟩
        · rw [hsp] at h1
          obtain ⟨x, y, z, rfl, hx1, hy1, hz1'⟩ := three_map h1
          obtain ⟨g, cp, hv, hgb, hg, g0, g1, g2⟩ := three_of_own hR.out.2
          subst hv
          have z1 : x.size ≤ maxLen := by have := piece_len hsp x (by simp); unfold maxLen; omega
          have z2 : y.size ≤ maxLen := by have := piece_len hsp y (by simp); unfold maxLen; omega
          have z3 : z.size ≤ maxLen := by have := piece_len hsp z (by simp); unfold maxLen; omega
          have X1 := Lib.hid hx1
          have X2 := Lib.hid hy1
          have X3 := Lib.hid hz1'
          have E1 := Lib.hid (e1.trans h2)
          have E2 := Lib.hid (e2.trans h3)
          have ne : ¬ g = w.heap.size := by omega
          have RQ := hR.out.1.drew
          have L3 : ([x, y, z].length : Int) = 3 := rfl
          clear hF hR h1 h2 h3 hsp hx1 hy1 hz1' e1 e2 hpl
          go_upto_region 17 with (fail)
          refine wp_region_held_drew (S := fun w' => w'.cell? ⟨g, 0, none⟩ = some (.string x) ∧ w'.cell? ⟨g, 1, none⟩ = some (.string y) ∧ w'.cell? ⟨g, 2, none⟩ = some (.string z)) (by kernel_rfl) ?_ (fun hHeld => ?_)
          · exact ⟨g0, g1, g2⟩
          refine take_at (i := 0) (v := ?_) rfl (by kernel_rfl) (by kernel_rfl) (by kernel_rfl) (fun _ _ _ h => h) (by kernel_rfl) (by assumption) ?_ ?_
          rotate_left
          · (intro w hSw; (try dsimp only at hSw); go_simp; try with_reducible rfl)
          simp only [Act.put, List.setIfInBounds_toArray, List.set_cons_zero, List.set_cons_succ]
          refine take_at (i := 1) (v := ?_) rfl (by kernel_rfl) (by kernel_rfl) (by kernel_rfl) (fun _ _ _ h => h) (by kernel_rfl) (by assumption) ?_ ?_
          rotate_left
          · (intro w hSw; (try dsimp only at hSw); go_simp; try with_reducible rfl)
          simp only [Act.put, List.setIfInBounds_toArray, List.set_cons_zero, List.set_cons_succ]
          refine take_at (i := 2) (v := ?_) rfl (by kernel_rfl) (by kernel_rfl) (by kernel_rfl) (fun _ _ _ h => h) (by kernel_rfl) (by assumption) ?_ ?_
          rotate_left
          · (intro w hSw; (try dsimp only at hSw); go_simp; try with_reducible rfl)
          simp only [Act.put, List.setIfInBounds_toArray, List.set_cons_zero, List.set_cons_succ]
          refine take_at (i := 3) (v := ?_) rfl (by kernel_rfl) (by kernel_rfl) (by kernel_rfl) (fun _ _ _ h => h) (by kernel_rfl) (by assumption) ?_ ?_
          rotate_left
          · (intro w hSw; (try dsimp only at hSw); go_simp; try with_reducible rfl)
          simp only [Act.put, List.setIfInBounds_toArray, List.set_cons_zero, List.set_cons_succ]
          refine take_at (i := 4) (v := ?_) rfl (by kernel_rfl) (by kernel_rfl) (by kernel_rfl) (fun _ _ _ h => h) (by kernel_rfl) (by assumption) ?_ ?_
          rotate_left
          · (intro w hSw; (try dsimp only at hSw); go_simp; try with_reducible rfl)
          simp only [Act.put, List.setIfInBounds_toArray, List.set_cons_zero, List.set_cons_succ]
          refine take_at (i := 5) (v := ?_) rfl (by kernel_rfl) (by kernel_rfl) (by kernel_rfl) (fun _ _ _ h => h) (by kernel_rfl) (by assumption) ?_ ?_
          rotate_left
          · (intro w hSw; (try dsimp only at hSw); go_simp; try with_reducible rfl)
          simp only [Act.put, List.setIfInBounds_toArray, List.set_cons_zero, List.set_cons_succ]
          refine take_at (i := 6) (v := ?_) rfl (by kernel_rfl) (by kernel_rfl) (by kernel_rfl) (fun _ _ _ h => h) (by kernel_rfl) (by assumption) ?_ ?_
          rotate_left
          · (intro w hSw; (try dsimp only at hSw); go_simp; try with_reducible rfl)
          simp only [Act.put, List.setIfInBounds_toArray, List.set_cons_zero, List.set_cons_succ]
          refine take_at (i := 7) (v := ?_) rfl (by kernel_rfl) (by kernel_rfl) (by kernel_rfl) (fun _ _ _ h => h) (by kernel_rfl) (by assumption) ?_ ?_
          rotate_left
          · (intro w hSw; (try dsimp only at hSw); go_simp; try with_reducible rfl)
          simp only [Act.put, List.setIfInBounds_toArray, List.set_cons_zero, List.set_cons_succ]
          refine take_at (i := 8) (v := ?_) rfl (by kernel_rfl) (by kernel_rfl) (by kernel_rfl) (fun _ _ _ h => h) (by kernel_rfl) (by assumption) ?_ ?_
          rotate_left
          · (intro w hSw; (try dsimp only at hSw); go_simp; try with_reducible rfl)
          simp only [Act.put, List.setIfInBounds_toArray, List.set_cons_zero, List.set_cons_succ]
          refine do_at (i := 9) rfl (by kernel_rfl) (by kernel_rfl) (fun K hK => ?_)
          go_simp
          refine (rthree_of z1 z2 z3 X1 X2 X3 _).mono ?_
          rintro e w6 ⟨rfl, hb6⟩
          have RQ' := RQ.below hb6
          have g0' := (hb6.cell (p := ⟨g, 0, none⟩) hg).trans g0
          have g1' := (hb6.cell (p := ⟨g, 1, none⟩) hg).trans g1
          have g2' := (hb6.cell (p := ⟨g, 2, none⟩) hg).trans g2
          clear RQ g0 g1 g2
          have RQ := RQ'
          clear RQ'
          obtain ⟨⟨s2, s3, s4⟩, s5, s6, s7⟩ := RQ.2.s
          go_wp2_with fail
          refine hK.out _ _ ?_ (fun hHeld => ?_)
          · exact ⟨g0', g1', g2'⟩
          clear hK K
          try simp only [Act.put, List.setIfInBounds_toArray, List.set_cons_zero, List.set_cons_succ]
          refine take_at (i := 10) (v := ?_) rfl (by kernel_rfl) (by kernel_rfl) (by kernel_rfl) (fun _ _ _ h => h) (by kernel_rfl) (by assumption) ?_ ?_
          rotate_left
          · (intro w hSw; (try dsimp only at hSw); go_simp; try with_reducible rfl)
          simp only [Act.put, List.setIfInBounds_toArray, List.set_cons_zero, List.set_cons_succ]
          refine take_at (i := 11) (v := ?_) rfl (by kernel_rfl) (by kernel_rfl) (by kernel_rfl) (fun _ _ _ h => h) (by kernel_rfl) (by assumption) ?_ ?_
          rotate_left
          · (intro w hSw; (try dsimp only at hSw); go_simp; try with_reducible rfl)
          simp only [Act.put, List.setIfInBounds_toArray, List.set_cons_zero, List.set_cons_succ]
          refine do_at (i := 12) rfl (by kernel_rfl) (by kernel_rfl) (fun K hK => ?_)
          go_simp
          refine hK.out _ _ ?_ (fun hHeld => ?_)
          · exact ⟨(set3_far ne 0 _ _ _).trans g0', (set3_far ne 1 _ _ _).trans g1', (set3_far ne 2 _ _ _).trans g2'⟩
          clear hK K
          try simp only [Act.put, List.setIfInBounds_toArray, List.set_cons_zero, List.set_cons_succ]
          refine take_at (i := 13) (v := ?_) rfl (by kernel_rfl) (by kernel_rfl) (by kernel_rfl) (fun _ _ _ h => h) (by kernel_rfl) (by assumption) ?_ ?_
          rotate_left
          · (intro w hSw; (try dsimp only at hSw); go_simp; try with_reducible rfl)
          simp only [Act.put, List.setIfInBounds_toArray, List.set_cons_zero, List.set_cons_succ]
          refine wpAnyH_done (by kernel_rfl) ?_ _
          go_wp2
          refine bodyPost_ret (v := .tuple #[valT (rowsV a b c), .bool (rowsB a b c)]) (by simp [results, Try.results19, go_sem, s2, s3, s4]) rfl (parse_end E2.out E1.out rfl ?_)
          exact ((RQ.1.setCell (by simp) _).setCell (by simp) _).setCell (by simp) _
        · rw [hsp, List.length_map] at h1
          obtain ⟨a, c, hv⟩ := row_form hR.out.2
          subst hv
          have n3 : ((ps.length : Int) != 3) = true := by simp; omega
          have n4 : ((ps.length : Int) == 3) = false := by simp; omega
          have HP0 := Lib.hid (e1.trans h2)
          have HV := Lib.hid (parse_zero (e1.trans h2))
          have RQ := hR.out.1
          obtain ⟨⟨s2, s3, s4⟩, s5, s6, s7⟩ := RQ.2.s
          clear hF hR h1 h2 hsp e1 e2 hpl
          go_wp2
          refine bodyPost_ret (v := .tuple #[val 0 0 0, .bool false]) (by simp [results, Try.results19, go_sem, s2, s3, s4]) rfl (parse_end HV.out HP0.out rfl ?_)
          exact ((RQ.1.setCell (by simp) _).setCell (by simp) _).setCell (by simp) _

theorem rparse_any (s : ByteArray) (hs : s.size ≤ 4096) (w : World) :
    Calls Try.prog 19 #[.string s] w (FormPost (parseV s.data.toList) (parseB s.data.toList) w) := by
  by_cases hp : Lib.hasPrefix s.data.toList rgbP = true
  · by_cases h4 : s.size = 4
    · exact rparse_rgb4 s hs hp (by rw [h4]; rfl) (by rw [h4]; rfl) w
    · by_cases h7 : s.size = 7
      · exact rparse_rgb7 s hs hp (by rw [h7]; rfl) (by rw [h7]; rfl) w
      · exact rparse_rgb s hs hp (by simp; omega) (by simp; omega) w
  · have hp' : Lib.hasPrefix s.data.toList rgbP = false := by simpa using hp
    by_cases hh : Lib.hasPrefix s.data.toList [35] = true
    · by_cases h4 : s.size = 4
      · exact rparse_hash s (.inl ⟨hh, h4⟩) w
      · by_cases h7 : s.size = 7
        · exact rparse_hash s (.inr ⟨hh, h7⟩) w
        · exact rparse_none s hs hp' (.inr ⟨h4, h7⟩) w
    · exact rparse_none s hs hp' (.inl (by simpa using hh)) w
end Go.Proofs.Ythcncghhjlaicaa.Lab
