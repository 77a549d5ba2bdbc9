/- The Go law ParamParts: its walk. -/
import Derived.Test.YtijnjeibnochpaaDoorPaBackM
import Derived.Test.YtijnjeibnochpaaDoorTakes
import Derived.Deep.CutBlock
import Derived.Deep.DeepCutAuto
namespace Go.Proofs.YtijnjeibnochpaaDoor.Lab
open Go.RowKit

theorem infoInt : (Tryd.prog.info? 3).map (fun i => (i.zero, i.size, i.bytes)) = some (some (.int .i64 0), 1, 8) := by kernel_rfl
theorem len_full (R : Rws) : (R.length = 0 ∧ full R = [[-1]]) ∨ (R.length ≠ 0 ∧ full R = R) := by
  unfold full
  by_cases h : R.length = 0
  · exact .inl ⟨h, if_pos h⟩
  · exact .inr ⟨h, if_neg h⟩
theorem full_ok {R : Rws} (h : ∀ r ∈ R, okRow r) : ∀ r ∈ full R, okRow r := by
  rcases len_full R with ⟨_, e⟩ | ⟨_, e⟩
  · rw [e]
    intro r hr
    simp only [List.mem_singleton] at hr
    subst hr
    exact ⟨by decide, by decide, by simp⟩
  · rw [e]
    exact h
theorem full_lit {w : World} {lo : Nat} (h : lo ≤ w.heap.size) : RowsAt ((w.alloc (.cells #[.int .i64 (-1)] 3)).alloc (.cells #[.slice (some ⟨w.heap.size, 0, none⟩) 1 1] 33)) lo (.slice (some ⟨w.heap.size + 1, 0, none⟩) 1 1) [[-1]] :=
  (lit1 w [-1] (by simp [maxLen])).lower h
theorem cat_data (a b : ByteArray) : (a ++ b).data.toList = a.data.toList ++ b.data.toList := by simp
theorem cat_size (a b : ByteArray) : (a ++ b).size = a.size + b.size := by simp
theorem AllGood.cat {a b : ByteArray} (ha : AllGood a) (hb : AllGood b) : AllGood (a ++ b) := by
  rw [AllGood.iff] at ha hb ⊢
  rw [cat_data]
  intro c hc
  rcases List.mem_append.1 hc with h | h
  · exact ha c h
  · exact hb c h
theorem parsed_size {s : ByteArray} (h : s.size ≠ 0) : s.data.toList ≠ [] := by
  intro e
  have := congrArg List.length e
  rw [← Lib.size_eq] at this
  exact h this
theorem own_lower {w : World} {lo lo' n size : Nat} {e : TypeId} {v : Value} {xs : List Value} (h : w.ownsRow lo e size v n xs) (hl : lo' ≤ lo) : w.ownsRow lo' e size v n xs := by
  refine ⟨h.1, ?_⟩
  rcases h.2 with hn | ⟨g, cap, cur, e, hb, rest⟩
  · exact .inl hn
  · exact .inr ⟨g, cap, cur, e, Nat.le_trans hl hb, rest⟩
theorem own_some {w : World} {base n : Nat} {e : TypeId} {v : Value} {xs : List Value} (h : w.ownsRow base e 1 v n xs) (hn : 1 ≤ n) : ∃ g c, v = .slice (some ⟨g, 0, none⟩) n c ∧ n ≤ c ∧ c ≤ maxLen := by
  rcases h.2 with ⟨_, h0⟩ | ⟨g, cap, cur, rfl, _, _, h1, h2, _⟩
  · omega
  · exact ⟨g, cap, rfl, h1, h2⟩
theorem RowsAt.own {w : World} {lo g n c : Nat} {R : Rws} (h : RowsAt w lo (.slice (some ⟨g, 0, none⟩) n c) R) (hn : n = R.length) : ∃ us : List Value, us.length = n ∧ n ≤ maxLen ∧ (∀ j u, us[j]? = some u → w.cell? ⟨g, j, none⟩ = some u) ∧ (∀ u ∈ us, u.oneCell' = true) ∧
    w.ownsRow lo 33 1 (.slice (some ⟨g, 0, none⟩) n c) n us ∧ ∀ i, i < R.length → IntsAt w lo (us.getD i undef) (R.getD i []) := by
  subst hn
  obtain ⟨us, h, hi⟩ := h
  have hu : us.length = R.length := by simpa using h.1
  refine ⟨us, hu, ?_, fun j u hj => by have := h.cells (g := g) rfl j u hj; rwa [Addr.add_mid, Nat.zero_add] at this, us_one hu hi, h, hi⟩
  rcases h.2 with ⟨e, _⟩ | ⟨_, cap, _, e, _, _, h1, h2, _⟩
  · simp at e
  · simp at e
    omega

theorem parsed_text (X : ByteArray) (l : List UInt8) (hl : X.data.toList = l) (hs : l.length ≤ maxLen) (hg : ∀ c ∈ l, good c) (w : World) :
    Calls Tryd.prog 20 #[.string X] w (RowsOut w (parsed l)) := by
  subst hl
  exact parsed_any X (by rw [Lib.size_eq]; exact hs) ((AllGood.iff _).2 hg) w
theorem reads_text (l : List UInt8) (hs : l.length ≤ maxLen) (hg : ∀ c ∈ l, good c) (w : World) (lo : Nat) (v : Value) (h : RowsAt w lo v (parsed l)) (X : ByteArray) (hl : X.data.toList = l) :
    Calls Tryd.prog 13 #[.string X, v] w fun e w' => e = .returned (.bool true) ∧ Below w.heap.size w w' := by
  subst hl
  exact reads_any X (by rw [Lib.size_eq]; exact hs) ((AllGood.iff _).2 hg) w lo v h
theorem IntsAt.drew {w : World} {lo : Nat} {v : Value} {r : List Int} (h : IntsAt w lo v r) : IntsAt w.drew lo v r := h.below ⟨rfl, rfl, rfl, Nat.le_refl _, fun _ _ => rfl⟩
theorem good_mid {a b : List UInt8} {c : UInt8} (ha : ∀ x ∈ a, good x) (hc : good c) (hb : ∀ x ∈ b, good x) : ∀ x ∈ a ++ c :: b, good x := by
  intro x hx
  rcases List.mem_append.1 hx with h | h
  · exact ha x h
  · rcases List.mem_cons.1 h with rfl | h
    · exact hc
    · exact hb x h

set_option maxRecDepth 100000 in
set_option maxHeartbeats 16000000 in
theorem parts_any (a a' : Option Addr) (len cap len' cap' : Nat) (T T' : Nat → Int) (w : World) (h1 : IsBytes w a len cap T) (h2 : IsBytes w a' len' cap' T') (hT : TB w) :
    Calls Tryd.prog 5 #[.slice a len cap, .slice a' len' cap'] w fun e w' => e = .returned (.bool true) ∧ Below w.heap.size w w' := by
  have H1 := Lib.hid h1
  have H2 := Lib.hid h2
  have HT := Lib.hid hT
  have hl1 := h1.1
  have hl2 := h2.1
  have hc1 := h1.2.1
  have hc2 := h2.2.1
  unfold maxLen at hc1 hc2
  clear h1 h2 hT
  obtain ⟨m, hm, hml, hm100⟩ : ∃ m : Nat, min (len : Int) 100 = m ∧ m ≤ len ∧ m ≤ 100 := ⟨min len 100, by omega, by omega, by omega⟩
  obtain ⟨m', hm', hml', hm100'⟩ : ∃ m : Nat, min (len' : Int) 100 = m ∧ m ≤ len' ∧ m ≤ 100 := ⟨min len' 100, by omega, by omega, by omega⟩
  have sl1 := fun w => low_bytes a len m cap (by omega) w
  have sl2 := fun w => low_bytes a' len' m' cap' (by omega) w
  obtain ⟨ib, hi, hz0, hz1, hz2⟩ := info_parts infoRow
  obtain ⟨jb, ji, jz0, jz1, jz2⟩ := info_parts infoInt
  go_enter Tryd.func5, Tryd.ntmps5
  go_wp2_with fail
  refine (works_any _ HT.out.1).mono ?_
  rintro e w1 ⟨rfl, b1⟩
  have HB1 := Lib.hid b1
  clear b1
  go_wp2_with fail
  have RQ := HB1.out.drew
  clear HB1
  refine wp_region_held_drew (S := fun _ => True) (by kernel_rfl) ?_ (fun hHeld => ?_)
  · trivial
  refine take_at (i := 0) (v := ?_) rfl (by kernel_rfl) (by kernel_rfl) (by kernel_rfl) (fun _ _ _ h => h) (by kernel_rfl) (by assumption) ?_ ?_
  rotate_left
  · (intro w hSw; (try dsimp only at hSw); go_simp; try with_reducible rfl)
  simp only [Act.put, List.setIfInBounds_toArray, List.set_cons_zero, List.set_cons_succ]
  refine take_at (i := 1) (v := ?_) rfl (by kernel_rfl) (by kernel_rfl) (by kernel_rfl) (fun _ _ _ h => h) (by kernel_rfl) (by assumption) ?_ ?_
  rotate_left
  · (intro w hSw; (try dsimp only at hSw); go_simp; try with_reducible rfl)
  simp only [Act.put, List.setIfInBounds_toArray, List.set_cons_zero, List.set_cons_succ]
  refine take_at (i := 2) (v := ?_) rfl (by kernel_rfl) (by kernel_rfl) (by kernel_rfl) (fun _ _ _ h => h) (by kernel_rfl) (by assumption) ?_ ?_
  rotate_left
  · (intro w hSw; (try dsimp only at hSw); go_simp; try with_reducible rfl)
  simp only [Act.put, List.setIfInBounds_toArray, List.set_cons_zero, List.set_cons_succ]
  refine take_at (i := 3) (v := ?_) rfl (by kernel_rfl) (by kernel_rfl) (by kernel_rfl) (fun _ _ _ h => h) (by kernel_rfl) (by assumption) ?_ ?_
  rotate_left
  · (intro w hSw; (try dsimp only at hSw); go_simp; try with_reducible rfl)
  simp only [Act.put, List.setIfInBounds_toArray, List.set_cons_zero, List.set_cons_succ]
  refine take_at (i := 4) (v := ?_) rfl (by kernel_rfl) (by kernel_rfl) (by kernel_rfl) (fun _ _ _ h => h) (by kernel_rfl) (by assumption) ?_ ?_
  rotate_left
  · (intro w hSw; (try dsimp only at hSw); go_simp; try with_reducible rfl)
  simp only [Act.put, List.setIfInBounds_toArray, List.set_cons_zero, List.set_cons_succ]
  refine take_at (i := 7) (v := ?_) rfl (by kernel_rfl) (by kernel_rfl) (by kernel_rfl) (fun _ _ _ h => h) (by kernel_rfl) (by assumption) ?_ ?_
  rotate_left
  · (intro w hSw; (try dsimp only at hSw); go_simp; try with_reducible rfl)
  simp only [Act.put, List.setIfInBounds_toArray, List.set_cons_zero, List.set_cons_succ]
  refine take_at (i := 8) (v := ?_) rfl (by kernel_rfl) (by kernel_rfl) (by kernel_rfl) (fun _ _ _ h => h) (by kernel_rfl) (by assumption) ?_ ?_
  rotate_left
  · (intro w hSw; (try dsimp only at hSw); go_simp; try with_reducible rfl)
  simp only [Act.put, List.setIfInBounds_toArray, List.set_cons_zero, List.set_cons_succ]
  refine take_at (i := 9) (v := ?_) rfl (by kernel_rfl) (by kernel_rfl) (by kernel_rfl) (fun _ _ _ h => h) (by kernel_rfl) (by assumption) ?_ ?_
  rotate_left
  · (intro w hSw; (try dsimp only at hSw); go_simp; try with_reducible rfl)
  simp only [Act.put, List.setIfInBounds_toArray, List.set_cons_zero, List.set_cons_succ]
  refine take_at (i := 10) (v := ?_) rfl (by kernel_rfl) (by kernel_rfl) (by kernel_rfl) (fun _ _ _ h => h) (by kernel_rfl) (by assumption) ?_ ?_
  rotate_left
  · (intro w hSw; (try dsimp only at hSw); go_simp; try with_reducible rfl)
  simp only [Act.put, List.setIfInBounds_toArray, List.set_cons_zero, List.set_cons_succ]
  refine take_at (i := 11) (v := ?_) rfl (by kernel_rfl) (by kernel_rfl) (by kernel_rfl) (fun _ _ _ h => h) (by kernel_rfl) (by assumption) ?_ ?_
  rotate_left
  · (intro w hSw; (try dsimp only at hSw); go_simp; try with_reducible rfl)
  simp only [Act.put, List.setIfInBounds_toArray, List.set_cons_zero, List.set_cons_succ]
  refine do_at (i := 5) rfl (by kernel_rfl) (by kernel_rfl) (fun K hK => ?_)
  go_simp
  refine (drawn_any a m cap T _ ((H1.out.take hml).on RQ)).mono ?_
  rintro e wx ⟨sA0, rfl, hsA0, bx⟩
  have RQ' := RQ.trans (bx.mono RQ.size)
  clear RQ bx hHeld
  have RQ := RQ'
  clear RQ'
  go_wp2_with fail
  refine hK.out _ _ ?_ (fun hHeld => ?_)
  · trivial
  clear hK K
  try simp only [Act.put, List.setIfInBounds_toArray, List.set_cons_zero, List.set_cons_succ]
  refine do_at (i := 6) rfl (by kernel_rfl) (by kernel_rfl) (fun K hK => ?_)
  go_simp
  refine (map_any sA0 hsA0 _ (HT.out.on RQ).2).mono ?_
  rintro e wx ⟨sA, rfl, ⟨hsA, hgA⟩, bx⟩
  have RQ' := RQ.trans (bx.mono RQ.size)
  clear RQ bx hHeld
  have RQ := RQ'
  clear RQ'
  have HGA := Lib.hid hgA
  clear hgA
  go_wp2_with fail
  refine hK.out _ _ ?_ (fun hHeld => ?_)
  · trivial
  clear hK K
  try simp only [Act.put, List.setIfInBounds_toArray, List.set_cons_zero, List.set_cons_succ]
  refine do_at (i := 12) rfl (by kernel_rfl) (by kernel_rfl) (fun K hK => ?_)
  go_simp
  refine (drawn_any a' m' cap' T' _ ((H2.out.take hml').on RQ)).mono ?_
  rintro e wx ⟨sB0, rfl, hsB0, bx⟩
  have RQ' := RQ.trans (bx.mono RQ.size)
  clear RQ bx hHeld
  have RQ := RQ'
  clear RQ'
  go_wp2_with fail
  refine hK.out _ _ ?_ (fun hHeld => ?_)
  · trivial
  clear hK K
  try simp only [Act.put, List.setIfInBounds_toArray, List.set_cons_zero, List.set_cons_succ]
  refine do_at (i := 13) rfl (by kernel_rfl) (by kernel_rfl) (fun K hK => ?_)
  go_simp
  refine (map_any sB0 hsB0 _ (HT.out.on RQ).2).mono ?_
  rintro e wx ⟨sB, rfl, ⟨hsB, hgB⟩, bx⟩
  have RQ' := RQ.trans (bx.mono RQ.size)
  clear RQ bx hHeld
  have RQ := RQ'
  clear RQ'
  have HGB := Lib.hid hgB
  clear hgB
  go_wp2_with fail
  refine hK.out _ _ ?_ (fun hHeld => ?_)
  · trivial
  clear hK K
  try simp only [Act.put, List.setIfInBounds_toArray, List.set_cons_zero, List.set_cons_succ]
  refine take_at (i := 14) (v := ?_) rfl (by kernel_rfl) (by kernel_rfl) (by kernel_rfl) (fun _ _ _ h => h) (by kernel_rfl) (by assumption) ?_ ?_
  rotate_left
  · (intro w hSw; (try dsimp only at hSw); go_simp; try with_reducible rfl)
  simp only [Act.put, List.setIfInBounds_toArray, List.set_cons_zero, List.set_cons_succ]
  refine take_at (i := 15) (v := ?_) rfl (by kernel_rfl) (by kernel_rfl) (by kernel_rfl) (fun _ _ _ h => h) (by kernel_rfl) (by assumption) ?_ ?_
  rotate_left
  · (intro w hSw; (try dsimp only at hSw); go_simp; try with_reducible rfl)
  simp only [Act.put, List.setIfInBounds_toArray, List.set_cons_zero, List.set_cons_succ]
  refine wpAnyH_done (by kernel_rfl) ?_ _
  have HB2 := Lib.hid RQ
  clear RQ hHeld sl1 sl2 hm hm'
  go_wp2_with fail
  refine (parse_ok sA (by unfold maxLen; omega) HGA.out _).mono ?_
  rintro e w3 ⟨v1, rfl, R1, b3⟩
  have HR1 := Lib.hid (R1.lower HB2.out.size)
  have HB3 := Lib.hid (HB2.out.trans (b3.mono HB2.out.size))
  clear R1 b3 HB2
  go_wp2_with fail
  refine (parse_ok sB (by unfold maxLen; omega) HGB.out _).mono ?_
  rintro e w4 ⟨v2, rfl, R2, b4⟩
  have HR2 := Lib.hid (R2.lower HB3.out.size)
  have HR1' := Lib.hid (HR1.out.below b4)
  have HB4 := Lib.hid (HB3.out.trans (b4.mono HB3.out.size))
  clear R2 b4 HB3 HR1
  obtain ⟨PA, hPA⟩ : ∃ P, parsed sA.data.toList = P := ⟨_, rfl⟩
  obtain ⟨PB, hPB⟩ : ∃ P, parsed sB.data.toList = P := ⟨_, rfl⟩
  rw [hPA] at HR1'
  rw [hPB] at HR2
  have HPA := Lib.hid hPA
  have HPB := Lib.hid hPB
  clear hPA hPB
  obtain ⟨av1, c1, rfl⟩ := HR1'.out.slice
  obtain ⟨av2, c2, rfl⟩ := HR2.out.slice
  go_upto_if 44 with (fail)
  go_cut [7] (fun v wc => ∃ g c n : Nat, v = .slice (some ⟨g, 0, none⟩) n c ∧ n = (full PA).length ∧ Hid (RowsAt wc w.heap.size (.slice (some ⟨g, 0, none⟩) n c) (full PA)) ∧ Hid (RowsAt wc w.heap.size (.slice av2 PB.length c2) PB) ∧ Hid (Below w.heap.size w wc))
  case first =>
    rcases len_full PA with ⟨h0, hf⟩ | ⟨h0, hf⟩
    · have HF := Lib.hid hf
      have HL := Lib.hid h0
      rw [h0]
      clear hf h0 HR1'
      go_wp2
      go_meet
      case rel => exact ⟨_, _, 1, rfl, by rw [HF.out]; rfl, by rw [HF.out]; exact full_lit HB4.out.size, Lib.hid ((HR2.out.past _).past _), Lib.hid ((HB4.out.alloc HB4.out.size _).alloc (by have := HB4.out.size; simp; omega) _)⟩
    · have HF := Lib.hid hf
      obtain ⟨g, u, hg, _⟩ := HR1'.out.row (i := 0) (by omega)
      subst hg
      have e0 : (((PA.length : Nat) : Int) == 0) = false := by simp; intro h; exact h0 (by rw [h]; rfl)
      clear hf h0
      go_wp2
      go_meet
      case rel => exact ⟨g, c1, PA.length, rfl, by rw [HF.out], by rw [HF.out]; exact HR1', HR2, HB4⟩
  case rest =>
    obtain ⟨g1, cp1, n1, rfl, hn1, HP1, HP2, HB5⟩ := hcut
    obtain ⟨w5, rfl⟩ : ∃ w5 : World, w5 = wc := ⟨_, rfl⟩
    have HN1 := Lib.hid hn1
    clear hn1 HR1' HR2 HB4
    go_upto_if 49 with (fail)
    go_cut [9] (fun v wc => ∃ g c n : Nat, v = .slice (some ⟨g, 0, none⟩) n c ∧ n = (full PB).length ∧ Hid (RowsAt wc w.heap.size (.slice (some ⟨g, 0, none⟩) n c) (full PB)) ∧ Hid (RowsAt wc w.heap.size (.slice (some ⟨g1, 0, none⟩) n1 cp1) (full PA)) ∧ Hid (Below w.heap.size w wc))
    case first =>
      rcases len_full PB with ⟨h0, hf⟩ | ⟨h0, hf⟩
      · have HF := Lib.hid hf
        rw [h0]
        clear hf h0 HP2
        go_wp2
        go_meet
        case rel => exact ⟨_, _, 1, rfl, by rw [HF.out]; rfl, by rw [HF.out]; exact full_lit HB5.out.size, Lib.hid ((HP1.out.past _).past _), Lib.hid ((HB5.out.alloc HB5.out.size _).alloc (by have := HB5.out.size; simp; omega) _)⟩
      · have HF := Lib.hid hf
        obtain ⟨g, u, hg, _⟩ := HP2.out.row (i := 0) (by omega)
        subst hg
        have e0 : (((PB.length : Nat) : Int) == 0) = false := by simp; intro h; exact h0 (by rw [h]; rfl)
        clear hf h0
        go_wp2
        go_meet
        case rel => exact ⟨g, c2, PB.length, rfl, by rw [HF.out], by rw [HF.out]; exact HP2, HP1, HB5⟩
    case rest =>
      obtain ⟨g2, cp2, n2, rfl, hn2, HQ2, HQ1, HB6⟩ := hcut
      obtain ⟨w6, rfl⟩ : ∃ w6 : World, w6 = wc := ⟨_, rfl⟩
      have HN2 := Lib.hid hn2
      have len1 : n1 ≤ 32 ∧ 1 ≤ n1 := by
        have := HN1.out
        have e := full_parsed sA.data.toList
        rw [HPA.out] at e
        rw [this, e, cut_len, FR_len]
        omega
      have len2 : n2 ≤ 32 ∧ 1 ≤ n2 := by
        have := hn2
        have e := full_parsed sB.data.toList
        rw [HPB.out] at e
        rw [this, e, cut_len, FR_len]
        omega
      obtain ⟨l1a, l1b⟩ := len1
      obtain ⟨l2a, l2b⟩ := len2
      clear hn2 HP1 HP2 HB5
      obtain ⟨us1, ul1, _, uc1, uo1, _, ui1⟩ := HQ1.out.own HN1.out
      obtain ⟨us2, ul2, _, uc2, uo2, _, ui2⟩ := HQ2.out.own HN2.out
      have HU1 := Lib.hid ui1
      have HU2 := Lib.hid ui2
      have HC1 := Lib.hid uc1
      have HC2 := Lib.hid uc2
      have HL1 := Lib.hid ul1
      have HL2 := Lib.hid ul2
      have HO1 := Lib.hid uo1
      have HO2 := Lib.hid uo2
      have hb6 : w.heap.size ≤ w6.heap.size := HB6.out.size
      clear ui1 ui2 uc1 uc2 ul1 ul2 uo1 uo2
      have h0 := Lib.hid (World.ownsRow_lit (e := 33) (base := w6.heap.size) (size := 1) w6 #[] 0 (Nat.le_refl _) (Nat.zero_le _) rfl)
      have hg1 : g1 < w6.heap.size ∧ g2 < w6.heap.size := by
        obtain ⟨g, u, e, h, _⟩ := HQ1.out.row (i := 0) (by rw [← HN1.out]; omega)
        obtain ⟨g', u', e', h', _⟩ := HQ2.out.row (i := 0) (by rw [← HN2.out]; omega)
        simp at e e'
        exact ⟨by omega, by omega⟩
      obtain ⟨hg1, hg2⟩ := hg1
      go_wp2_with (at_builtin; refine wpList_append_own _ rfl (.tmp 52) (.tmp 53) 28 rfl w6.heap.size 33 ib (.slice none 0 0) 1 24 Tryd.underlying28 hi hz0 hz1 hz2 rfl (by decide) _ 0 [] rfl h0.out ⟨g1, 0, none⟩ n1 cp1 us1 rfl (by rw [HL1.out, Nat.mul_one]) ?c1 HO1.out ?c3 ?c4 ?c5 ?_)
      case c1 => exact HC1.out
      case c4 => omega
      intro v7 w7 own7 grow7 _
      have b7 : Below w6.heap.size w6 w7 := ((Below.refl _ _).alloc (Nat.le_refl _) _).grown grow7 (by simp) (fun j hj => (h0.out.lt j hj).1)
      have o7 : w7.ownsRow w6.heap.size 33 1 v7 n1 us1 := by simpa using own7
      obtain ⟨g7, c7, rfl, _, _⟩ := own_some o7 l1b
      have HB7 := Lib.hid b7
      have HO7 := Lib.hid o7
      clear own7 grow7 b7 o7
      go_wp2_with (at_builtin; refine wpList_append_own _ rfl (.tmp 54) (.tmp 55) 28 rfl w6.heap.size 33 ib (.slice none 0 0) 1 24 Tryd.underlying28 hi hz0 hz1 hz2 rfl (by decide) _ n1 us1 rfl HO7.out ⟨g2, 0, none⟩ n2 cp2 us2 rfl (by rw [HL2.out, Nat.mul_one]) ?d1 HO2.out ?d3 ?d4 ?d5 ?_)
      case d1 =>
        intro j u hj
        rw [Addr.add_mid, Nat.zero_add]
        exact (HB7.out.cell (p := ⟨g2, j, none⟩) hg2).trans (HC2.out j u hj)
      case d3 => unfold maxLen; omega
      case d4 => omega
      case d5 => exact HB7.out.size
      intro v8 w8 own8 grow8 _
      have HB8 := Lib.hid (HB7.out.grown grow8 HB7.out.size (fun j hj => (HO7.out.lt j hj).1))
      obtain ⟨nt, hnt⟩ : ∃ nt, nt = n1 + n2 := ⟨_, rfl⟩
      have R8 : RowsAt w8 w.heap.size v8 (full PA ++ full PB) := by
        refine rows_append (n := nt) (own_lower (lo' := w.heap.size) (show w7.ownsRow w6.heap.size 33 1 _ (full PA).length us1 by rw [← HN1.out]; exact HO7.out) hb6) (fun i hi => (HU1.out i hi).below HB7.out) (fun i hi => (HU2.out i hi).below HB7.out) (by rw [← HN1.out, ← HN2.out]; exact hnt) (own_lower (by rw [hnt]; exact own8) hb6) grow8
      obtain ⟨g8, c8, rfl, h8a, h8b⟩ := own_some own8 (by omega)
      rw [← hnt] at R8 h8a ⊢
      have HR8 := Lib.hid R8
      have HNT := Lib.hid hnt
      have HB9 := Lib.hid (HB6.out.trans (HB8.out.mono hb6))
      have HQ1' := Lib.hid (HQ1.out.below HB8.out)
      have HQ2' := Lib.hid (HQ2.out.below HB8.out)
      have hnt64 : nt ≤ 64 := by omega
      unfold maxLen at h8b
      clear own8 grow8 R8 hnt HB7 HO7 h0 HC1 HC2 HL1 HL2 HO1 HO2 HU1 HU2 HB8 HQ1 HQ2 HB6 hb6 hg1 hg2
      obtain ⟨mm, hmm, hmn, hm32⟩ : ∃ mm : Nat, min (nt : Int) 32 = mm ∧ mm ≤ nt ∧ mm = min nt 32 := ⟨min nt 32, by omega, by omega, rfl⟩
      have HM32 := Lib.hid hm32
      have sl3 := fun w => low_rows (some ⟨g8, 0, none⟩) nt mm c8 (by omega) w
      clear hm32
      go_upto_region 11 with (fail)
      have lA : sA.data.toList.length ≤ 400 := by rw [← Lib.size_eq]; exact hsA
      have lB : sB.data.toList.length ≤ 400 := by rw [← Lib.size_eq]; exact hsB
      have gA := (AllGood.iff _).1 HGA.out
      have gB := (AllGood.iff _).1 HGB.out
      have LA := Lib.hid lA
      have LB := Lib.hid lB
      have GA := Lib.hid gA
      have GB := Lib.hid gB
      have C1 := Lib.hid (reads_text (sA.data.toList ++ 59 :: sB.data.toList) (by simp only [List.length_append, List.length_cons]; unfold maxLen; omega) (good_mid gA (by decide) gB) w8 w.heap.size (.slice (some ⟨g8, 0, none⟩) mm c8) (by
        have e2 : nt = (full PA ++ full PB).length := by rw [List.length_append, ← HN1.out, ← HN2.out]; exact HNT.out
        have e3 : (full PA ++ full PB).take 32 = (full PA ++ full PB).take mm := by
          rw [HM32.out, List.take_eq_take_iff]
          omega
        rw [parsed_semi, HPA.out, HPB.out, e3]
        exact HR8.out.take e2 hmn))
      clear lA lB gA gB
      go_cut [82] (fun t wc => t = .bool false ∧ Hid (Below w8.heap.size w8 wc))
      case first =>
        by_cases hse : sA.size = 0
        · have hne : ¬ (0 : Int) < sA.size := by omega
          go_wp2_with fail
          refine (C1.out _ (by rw [cat_data, cat_data]; simp)).mono ?_
          rintro e w9 ⟨rfl, b9⟩
          have HB10 := Lib.hid b9
          clear b9 C1
          go_wp2
          go_meet
          case rel => exact ⟨by simp, HB10⟩
        · have hne : (0 : Int) < sA.size := by omega
          go_wp2_with fail
          refine (C1.out _ (by rw [cat_data, cat_data]; simp)).mono ?_
          rintro e w9 ⟨rfl, b9⟩
          have HB10 := Lib.hid b9
          clear b9 C1
          go_wp2_with fail
          refine (parsed_text _ (sA.data.toList ++ 59 :: [48, 48, 48]) (by rw [cat_data]) (by have := LA.out; simp only [List.length_append, List.length_cons, List.length_nil]; unfold maxLen; omega) (good_mid GA.out (by decide) (by decide)) _).mono ?_
          rintro e w10 ⟨va, rfl, Ra, b10⟩
          have HRa := Lib.hid (show RowsAt w10 w9.heap.size va (parsed (sA.data.toList ++ [59, 48])) by
            have Ra' : RowsAt w10 w9.heap.size va (parsed (sA.data.toList ++ [59, 48, 48, 48])) := Ra
            rwa [parsed_zeros] at Ra')
          have HB11 := Lib.hid (HB10.out.trans (b10.mono HB10.out.size))
          clear Ra b10 HB10
          go_wp2_with fail
          refine (parsed_text _ (sA.data.toList ++ 59 :: [48]) (by rw [cat_data]) (by have := LA.out; simp only [List.length_append, List.length_cons, List.length_nil]; unfold maxLen; omega) (good_mid GA.out (by decide) (by decide)) _).mono ?_
          rintro e w11 ⟨vb, rfl, Rb, b11⟩
          have HRb := Lib.hid (show RowsAt w11 w10.heap.size vb (parsed (sA.data.toList ++ [59, 48])) from Rb)
          have HRa' := Lib.hid (HRa.out.below b11)
          have HB12 := Lib.hid (HB11.out.trans (b11.mono HB11.out.size))
          clear Rb b11 HB11 HRa
          go_wp2_with fail
          refine (same_at HRa'.out HRb.out).mono ?_
          rintro e w12 ⟨rfl, q, rfl⟩
          have HB13 := Lib.hid (show Below w8.heap.size w8 (w11.drewN q) from HB12.out.trans ⟨rfl, rfl, rfl, Nat.le_refl _, fun _ _ => rfl⟩)
          clear HRa' HRb HB12
          go_wp2
          go_meet
          case rel => exact ⟨by simp, HB13⟩
      case rest =>
        obtain ⟨rfl, HBc⟩ := hcut
        obtain ⟨w9, rfl⟩ : ∃ w9 : World, w9 = wc := ⟨_, rfl⟩
        have HB10 := Lib.hid (HB9.out.trans (HBc.out.mono HB9.out.size))
        have HP1 := Lib.hid (HQ1'.out.below HBc.out)
        have HP2 := Lib.hid (HQ2'.out.below HBc.out)
        clear C1 HBc HB9 HQ1' HQ2' HR8 HNT HM32 sl3 hmm h8a h8b
        go_upto_region 13 with (fail)
        go_cut [90] (fun t wc => ∃ b : Bool, t = .bool b ∧ (b = true → n1 < 32 ∨ sA.data.toList.count 59 = 31) ∧ wc = w9)
        case first =>
          by_cases hn32 : n1 < 32
          · have hn32' : (n1 : Int) < 32 := by omega
            go_wp2
            go_meet
            case rel => exact ⟨true, by simp, fun _ => .inl hn32, rfl⟩
          · have hn32' : ¬ (n1 : Int) < 32 := by omega
            have C := Lib.hid (Tryd.strings_Count_one sA 59 w9)
            unfold Lib.countByte at C
            generalize sA.data.toList.count 59 = c at *
            go_wp2_with fail
            refine C.out.mono ?_
            rintro e w10 ⟨rfl, rfl⟩
            go_wp2
            go_meet
            case rel => exact ⟨((c : Int) == 31), by simp, fun h => .inr (by simp at h; omega), rfl⟩
        case rest =>
          obtain ⟨bb, rfl, hbb, rfl⟩ := hcut
          have HBB := Lib.hid hbb
          clear hbb
          obtain ⟨w10, rfl⟩ : ∃ w10 : World, w10 = wc := ⟨_, rfl⟩
          go_upto_if 90 with (fail)
          go_cut [] (fun wc => Hid (Below w.heap.size w wc))
          case first =>
            cases bb
            · go_wp2
              go_meet
              case rel => exact HB10
            · have okA := (parsed_back _ ((AllGood.iff _).1 HGA.out)).2.1
              have okB := (parsed_back _ ((AllGood.iff _).1 HGB.out)).2.1
              rw [HPA.out] at okA
              rw [HPB.out] at okB
              have hPA : n1 - 1 < (full PA).length := by rw [← HN1.out]; omega
              have hPB : 0 < (full PB).length := by rw [← HN2.out]; omega
              obtain ⟨ga0, ua, ea, hga, _, ca, IA⟩ := HP1.out.row hPA
              obtain ⟨gb0, ub, eb, hgb, _, cb, IB⟩ := HP2.out.row hPB
              obtain rfl : g1 = ga0 := by simpa using ea
              obtain rfl : g2 = gb0 := by simpa using eb
              obtain ⟨qa, hqa⟩ : ∃ q, (full PA).getD (n1 - 1) [] = q := ⟨_, rfl⟩
              obtain ⟨qb, hqb⟩ : ∃ q, (full PB).getD 0 [] = q := ⟨_, rfl⟩
              have oa : okRow qa := hqa ▸ full_ok okA _ (getD_mem [] hPA)
              have ob : okRow qb := hqb ▸ full_ok okB _ (getD_mem [] hPB)
              rw [hqa] at IA
              rw [hqb] at IB
              obtain ⟨xa, cxa, cura, rfl, _, lta, _⟩ := IA.open
              obtain ⟨xb, cxb, curb, rfl, _, ltb, _⟩ := IB.open
              have na := IA.1.cells (g := xa) rfl
              have nb := IB.1.cells (g := xb) rfl
              obtain ⟨ma, hma⟩ : ∃ m, m = qa.length := ⟨_, rfl⟩
              obtain ⟨mb, hmb⟩ : ∃ m, m = qb.length := ⟨_, rfl⟩
              rw [← hma] at ca
              rw [← hmb] at cb
              have ma8 : ma ≤ 8 := by rw [hma]; exact oa.2.1
              have mb8 : mb ≤ 8 := by rw [hmb]; exact ob.2.1
              have ma1 : 1 ≤ ma := by rw [hma]; exact oa.1
              have HCOL := Lib.hid (parsed_colon sA.data.toList sB.data.toList (by
                rw [HPA.out, ← HN1.out]
                exact HBB.out rfl))
              rw [HPA.out, HPB.out, ← HN1.out, hqa, hqb] at HCOL
              have ek : ((n1 : Int) - 1) = ((n1 - 1 : Nat) : Int) := by omega
              obtain ⟨kk, hkk⟩ : ∃ kk, kk = n1 - 1 := ⟨_, rfl⟩
              rw [← hkk] at ca ek HCOL
              have hkn : kk < n1 := by omega
              have NA := Lib.hid na
              have NB := Lib.hid nb
              have MA := Lib.hid hma
              have MB := Lib.hid hmb
              have HIA := Lib.hid IA
              have HIB := Lib.hid IB
              have ew : IntKind.i64.wrap (kk : Int) = kk := by rw [IntKind.wrap_i64]; omega
              have hn2p : 0 < n2 := by omega
              have HCA := Lib.hid ca
              have HCB := Lib.hid cb
              clear na nb hma hmb oa ob hqa hqb okA okB hPA hPB IA IB ea eb HBB hkk
              go_upto_region 14 with (fail)
              refine wp_region_held_drew (S := fun wx => wx.cell? ⟨g1, kk, none⟩ = some (.slice (some ⟨xa, 0, none⟩) ma cxa) ∧ wx.cell? ⟨g2, 0, none⟩ = some (.slice (some ⟨xb, 0, none⟩) mb cxb)) (by kernel_rfl) ?_ (fun hHeld => ?_)
              · exact ⟨HCA.out, HCB.out⟩
              refine take_at (i := 1) (v := ?_) rfl (by kernel_rfl) (by kernel_rfl) (by kernel_rfl) (fun _ _ _ h => h) (by kernel_rfl) (by assumption) ?_ ?_
              rotate_left
              · (intro w hSw; (try dsimp only at hSw); go_simp; try with_reducible rfl)
              simp only [Act.put, List.setIfInBounds_toArray, List.set_cons_zero, List.set_cons_succ]
              refine take_at (i := 2) (v := ?_) rfl (by kernel_rfl) (by kernel_rfl) (by kernel_rfl) (fun _ _ _ h => h) (by kernel_rfl) (by assumption) ?_ ?_
              rotate_left
              · (intro w hSw; (try dsimp only at hSw); go_simp; try with_reducible rfl)
              simp only [Act.put, List.setIfInBounds_toArray, List.set_cons_zero, List.set_cons_succ]
              refine take_at (i := 3) (v := ?_) rfl (by kernel_rfl) (by kernel_rfl) (by kernel_rfl) (fun _ _ _ h => h) (by kernel_rfl) (by assumption) ?_ ?_
              rotate_left
              · (intro w hSw; (try dsimp only at hSw); go_simp; try with_reducible rfl)
              simp only [Act.put, List.setIfInBounds_toArray, List.set_cons_zero, List.set_cons_succ]
              refine take_at (i := 4) (v := ?_) rfl (by kernel_rfl) (by kernel_rfl) (by kernel_rfl) (fun _ _ _ h => h) (by kernel_rfl) (by assumption) ?_ ?_
              rotate_left
              · (intro w hSw; (try dsimp only at hSw); go_simp; try with_reducible rfl)
              simp only [Act.put, List.setIfInBounds_toArray, List.set_cons_zero, List.set_cons_succ]
              refine take_at (i := 5) (v := ?_) rfl (by kernel_rfl) (by kernel_rfl) (by kernel_rfl) (fun _ _ _ h => h) (by kernel_rfl) (by assumption) ?_ ?_
              rotate_left
              · (intro w hSw; (try dsimp only at hSw); go_simp; try with_reducible rfl)
              simp only [Act.put, List.setIfInBounds_toArray, List.set_cons_zero, List.set_cons_succ]
              refine take_at (i := 6) (v := ?_) rfl (by kernel_rfl) (by kernel_rfl) (by kernel_rfl) (fun _ _ _ h => h) (by kernel_rfl) (by assumption) ?_ ?_
              rotate_left
              · (intro w hSw; (try dsimp only at hSw); go_simp; try with_reducible rfl)
              simp only [Act.put, List.setIfInBounds_toArray, List.set_cons_zero, List.set_cons_succ]
              refine take_at (i := 8) (v := ?_) rfl (by kernel_rfl) (by kernel_rfl) (by kernel_rfl) (fun _ _ _ h => h) (by kernel_rfl) (by assumption) ?_ ?_
              rotate_left
              · (intro w hSw; (try dsimp only at hSw); go_simp; try with_reducible rfl)
              simp only [Act.put, List.setIfInBounds_toArray, List.set_cons_zero, List.set_cons_succ]
              refine take_at (i := 9) (v := ?_) rfl (by kernel_rfl) (by kernel_rfl) (by kernel_rfl) (fun _ _ _ h => h) (by kernel_rfl) (by assumption) ?_ ?_
              rotate_left
              · (intro w hSw; (try dsimp only at hSw); go_simp; try with_reducible rfl)
              simp only [Act.put, List.setIfInBounds_toArray, List.set_cons_zero, List.set_cons_succ]
              refine take_at (i := 10) (v := ?_) rfl (by kernel_rfl) (by kernel_rfl) (by kernel_rfl) (fun _ _ _ h => h) (by kernel_rfl) (by assumption) ?_ ?_
              rotate_left
              · (intro w hSw; (try dsimp only at hSw); go_simp; try with_reducible rfl)
              simp only [Act.put, List.setIfInBounds_toArray, List.set_cons_zero, List.set_cons_succ]
              refine do_at (i := 0) rfl (by kernel_rfl) (by kernel_rfl) (fun K hK => ?_)
              go_wp2_with fail
              have h0 := Lib.hid (World.ownsRow_lit (e := 3) (base := w10.heap.size) (size := 1) w10.drew #[] 0 (Nat.le_refl _) (Nat.zero_le _) rfl)
              have HBd := Lib.hid (show Below w10.heap.size w10 (w10.drew.alloc (.cells #[] 3)) from ((Below.refl _ _).drew).alloc (Nat.le_refl _) _)
              refine hK.out _ _ ?_ (fun hHeld => ?_)
              · exact ⟨((HBd.out).cell (p := ⟨g1, kk, none⟩) hga).trans HCA.out, ((HBd.out).cell (p := ⟨g2, 0, none⟩) hgb).trans HCB.out⟩
              clear hK K
              try simp only [Act.put, List.setIfInBounds_toArray, List.set_cons_zero, List.set_cons_succ]
              refine do_at (i := 7) rfl (by kernel_rfl) (by kernel_rfl) (fun K hK => ?_)
              refine wp_append_own _ (.tmp 91) (.tmp 97) 33 rfl w10.heap.size 3 jb (.int .i64 0) 1 8 Tryd.underlying33 ji jz0 jz1 jz2 rfl (by decide) _ 0 [] rfl h0.out ⟨xa, 0, none⟩ ma cxa (intsV qa) rfl (by rw [MA.out]; simp) (fun j u hj => (HBd.out.cell (p := (⟨xa, 0, none⟩ : Addr).add j) (by unfold Addr.add; split <;> exact lta)).trans (NA.out j u hj)) (ints_one qa) (by unfold maxLen; omega) (by omega) HBd.out.size ?_
              intro v11 w11 own11 grow11 _
              have HO11 := Lib.hid (show w11.ownsRow w10.heap.size 3 1 v11 ma (intsV qa) by simpa using own11)
              have HB11 := Lib.hid (HBd.out.grown grow11 HBd.out.size (fun j hj => (h0.out.lt j hj).1))
              clear own11 grow11 h0 HBd
              refine hK.out _ _ ?_ (fun hHeld => ?_)
              · exact ⟨((HB11.out).cell (p := ⟨g1, kk, none⟩) hga).trans HCA.out, ((HB11.out).cell (p := ⟨g2, 0, none⟩) hgb).trans HCB.out⟩
              clear hK K
              try simp only [Act.put, List.setIfInBounds_toArray, List.set_cons_zero, List.set_cons_succ]
              refine do_at (i := 11) rfl (by kernel_rfl) (by kernel_rfl) (fun K hK => ?_)
              refine wp_append_own _ (.tmp 98) (.tmp 101) 33 rfl w10.heap.size 3 jb (.int .i64 0) 1 8 Tryd.underlying33 ji jz0 jz1 jz2 rfl (by decide) v11 ma (intsV qa) rfl HO11.out ⟨xb, 0, none⟩ mb cxb (intsV qb) rfl (by rw [MB.out]; simp) (fun j u hj => (HB11.out.cell (p := (⟨xb, 0, none⟩ : Addr).add j) (by unfold Addr.add; split <;> exact ltb)).trans (NB.out j u hj)) (ints_one qb) (by unfold maxLen; omega) (by omega) HB11.out.size ?_
              intro v12 w12 own12 grow12 _
              obtain ⟨nl, hnl⟩ : ∃ nl, nl = ma + mb := ⟨_, rfl⟩
              have HO12 := Lib.hid (show w12.ownsRow w10.heap.size 3 1 v12 nl (intsV (qa ++ qb)) by rw [hnl]; simpa [intsV] using own12)
              have HB12 := Lib.hid (HB11.out.grown grow12 HB11.out.size (fun j hj => (HO11.out.lt j hj).1))
              clear own12 grow12 HO11 HB11
              refine hK.out _ _ ?_ (fun hHeld => ?_)
              · exact ⟨((HB12.out).cell (p := ⟨g1, kk, none⟩) hga).trans HCA.out, ((HB12.out).cell (p := ⟨g2, 0, none⟩) hgb).trans HCB.out⟩
              clear hK K
              try simp only [Act.put, List.setIfInBounds_toArray, List.set_cons_zero, List.set_cons_succ]
              refine take_at (i := 12) (v := ?_) rfl (by kernel_rfl) (by kernel_rfl) (by kernel_rfl) (fun _ _ _ h => h) (by kernel_rfl) (by assumption) ?_ ?_
              rotate_left
              · (intro w hSw; (try dsimp only at hSw); go_simp; try with_reducible rfl)
              simp only [Act.put, List.setIfInBounds_toArray, List.set_cons_zero, List.set_cons_succ]
              refine wpAnyH_done (by kernel_rfl) ?_ _
              obtain ⟨gl, cl, rfl, hlc, hlm⟩ := own_some HO12.out (by omega)
              have HB13 := Lib.hid (HB10.out.trans (HB12.out.mono HB10.out.size))
              have hnl16 : nl ≤ 16 := by omega
              have HQL := Lib.hid (show (qa ++ qb).length = nl by rw [List.length_append, hnl, MA.out, MB.out])
              clear HIA HIB NA NB HCA HCB HP1 HP2 hHeld hnl MA MB HB12 HB10
              unfold maxLen at hlm
              go_wp2_with fail
              refine (parsed_text _ (sA.data.toList ++ 58 :: sB.data.toList) (by rw [cat_data, cat_data]; simp) (by have := LA.out; have := LB.out; simp only [List.length_append, List.length_cons]; unfold maxLen; omega) (good_mid GA.out (by decide) GB.out) _).mono ?_
              rintro e w13 ⟨vc, rfl, RC, b13⟩
              obtain ⟨PC, hPC⟩ : ∃ P, parsed (sA.data.toList ++ 58 :: sB.data.toList) = P := ⟨_, rfl⟩
              rw [hPC] at RC HCOL
              obtain ⟨avc, cvc, rfl⟩ := RC.slice
              obtain ⟨gc, uc, rfl, hgc, _, cc, IC⟩ := RC.row (i := kk) (by have := HCOL.out.1; omega)
              rw [HCOL.out.2] at IC
              obtain ⟨xc, cxc, curc, rfl, _⟩ := IC.open
              obtain ⟨nc, hnc⟩ : ∃ n, n = PC.length := ⟨_, rfl⟩
              rw [← hnc]
              have hcn : n1 ≤ nc := by rw [hnc]; exact HCOL.out.1
              have hcn' : ¬ nc < n1 := by omega
              have hcnI : ¬ (nc : Int) < (n1 : Int) := by omega
              have hkc : kk < nc := by omega
              obtain ⟨mc, hmc⟩ : ∃ n, n = ((qa ++ qb).take 8).length := ⟨_, rfl⟩
              rw [← hmc] at cc IC
              obtain ⟨ml, hml1, hml2, hml3⟩ : ∃ m : Nat, min (nl : Int) 8 = m ∧ m ≤ nl ∧ m = min nl 8 := ⟨min nl 8, by omega, by omega, rfl⟩
              have sl4 := fun w => low_ints (some ⟨gl, 0, none⟩) nl ml cl (by omega) w
              have HIL := Lib.hid (show IntsAt w12 w10.heap.size (.slice (some ⟨gl, 0, none⟩) ml cl) ((qa ++ qb).take 8) by
                have e2 : (qa ++ qb).take 8 = (qa ++ qb).take ml := by
                  rw [hml3, List.take_eq_take_iff, HQL.out]
                  omega
                rw [e2]
                exact IntsAt.take (by rw [HQL.out]; exact ⟨by rw [HQL.out]; exact HO12.out, by simp⟩) (by rw [HQL.out]; exact hml2))
              have HIL' := Lib.hid (HIL.out.below b13)
              have HIC := Lib.hid IC
              have HB14 := Lib.hid (HB13.out.trans (b13.mono HB13.out.size))
              have HCC := Lib.hid cc
              clear IC RC b13 HIL HO12 HCOL hPC hmc hnc hml3 HQL HB13 cc
              go_upto_region 16 with (fail)
              refine wp_region_held_drew (S := fun wx => wx.cell? ⟨gc, kk, none⟩ = some (.slice (some ⟨xc, 0, none⟩) mc cxc)) (by kernel_rfl) ?_ (fun hHeld => ?_)
              · exact HCC.out
              refine take_at (i := 0) (v := ?_) rfl (by kernel_rfl) (by kernel_rfl) (by kernel_rfl) (fun _ _ _ h => h) (by kernel_rfl) (by assumption) ?_ ?_
              rotate_left
              · (intro w hSw; (try dsimp only at hSw); go_simp; try with_reducible rfl)
              simp only [Act.put, List.setIfInBounds_toArray, List.set_cons_zero, List.set_cons_succ]
              refine take_at (i := 1) (v := ?_) rfl (by kernel_rfl) (by kernel_rfl) (by kernel_rfl) (fun _ _ _ h => h) (by kernel_rfl) (by assumption) ?_ ?_
              rotate_left
              · (intro w hSw; (try dsimp only at hSw); go_simp; try with_reducible rfl)
              simp only [Act.put, List.setIfInBounds_toArray, List.set_cons_zero, List.set_cons_succ]
              refine take_at (i := 2) (v := ?_) rfl (by kernel_rfl) (by kernel_rfl) (by kernel_rfl) (fun _ _ _ h => h) (by kernel_rfl) (by assumption) ?_ ?_
              rotate_left
              · (intro w hSw; (try dsimp only at hSw); go_simp; try with_reducible rfl)
              simp only [Act.put, List.setIfInBounds_toArray, List.set_cons_zero, List.set_cons_succ]
              refine take_at (i := 3) (v := ?_) rfl (by kernel_rfl) (by kernel_rfl) (by kernel_rfl) (fun _ _ _ h => h) (by kernel_rfl) (by assumption) ?_ ?_
              rotate_left
              · (intro w hSw; (try dsimp only at hSw); go_simp; try with_reducible rfl)
              simp only [Act.put, List.setIfInBounds_toArray, List.set_cons_zero, List.set_cons_succ]
              refine take_at (i := 4) (v := ?_) rfl (by kernel_rfl) (by kernel_rfl) (by kernel_rfl) (fun _ _ _ h => h) (by kernel_rfl) (by assumption) ?_ ?_
              rotate_left
              · (intro w hSw; (try dsimp only at hSw); go_simp; try with_reducible rfl)
              simp only [Act.put, List.setIfInBounds_toArray, List.set_cons_zero, List.set_cons_succ]
              refine take_at (i := 5) (v := ?_) rfl (by kernel_rfl) (by kernel_rfl) (by kernel_rfl) (fun _ _ _ h => h) (by kernel_rfl) (by assumption) ?_ ?_
              rotate_left
              · (intro w hSw; (try dsimp only at hSw); go_simp; try with_reducible rfl)
              simp only [Act.put, List.setIfInBounds_toArray, List.set_cons_zero, List.set_cons_succ]
              refine take_at (i := 6) (v := ?_) rfl (by kernel_rfl) (by kernel_rfl) (by kernel_rfl) (fun _ _ _ h => h) (by kernel_rfl) (by assumption) ?_ ?_
              rotate_left
              · (intro w hSw; (try dsimp only at hSw); go_simp; try with_reducible rfl)
              simp only [Act.put, List.setIfInBounds_toArray, List.set_cons_zero, List.set_cons_succ]
              refine take_at (i := 7) (v := ?_) rfl (by kernel_rfl) (by kernel_rfl) (by kernel_rfl) (fun _ _ _ h => h) (by kernel_rfl) (by assumption) ?_ ?_
              rotate_left
              · (intro w hSw; (try dsimp only at hSw); go_simp; try with_reducible rfl)
              simp only [Act.put, List.setIfInBounds_toArray, List.set_cons_zero, List.set_cons_succ]
              refine take_at (i := 8) (v := ?_) rfl (by kernel_rfl) (by kernel_rfl) (by kernel_rfl) (fun _ _ _ h => h) (by kernel_rfl) (by assumption) ?_ ?_
              rotate_left
              · (intro w hSw; (try dsimp only at hSw); go_simp; try with_reducible rfl)
              simp only [Act.put, List.setIfInBounds_toArray, List.set_cons_zero, List.set_cons_succ]
              refine take_at (i := 9) (v := ?_) rfl (by kernel_rfl) (by kernel_rfl) (by kernel_rfl) (fun _ _ _ h => h) (by kernel_rfl) (by assumption) ?_ ?_
              rotate_left
              · (intro w hSw; (try dsimp only at hSw); go_simp; try with_reducible rfl)
              simp only [Act.put, List.setIfInBounds_toArray, List.set_cons_zero, List.set_cons_succ]
              refine take_at (i := 10) (v := ?_) rfl (by kernel_rfl) (by kernel_rfl) (by kernel_rfl) (fun _ _ _ h => h) (by kernel_rfl) (by assumption) ?_ ?_
              rotate_left
              · (intro w hSw; (try dsimp only at hSw); go_simp; try with_reducible rfl)
              simp only [Act.put, List.setIfInBounds_toArray, List.set_cons_zero, List.set_cons_succ]
              refine take_at (i := 11) (v := ?_) rfl (by kernel_rfl) (by kernel_rfl) (by kernel_rfl) (fun _ _ _ h => h) (by kernel_rfl) (by assumption) ?_ ?_
              rotate_left
              · (intro w hSw; (try dsimp only at hSw); go_simp; try with_reducible rfl)
              simp only [Act.put, List.setIfInBounds_toArray, List.set_cons_zero, List.set_cons_succ]
              refine take_at (i := 12) (v := ?_) rfl (by kernel_rfl) (by kernel_rfl) (by kernel_rfl) (fun _ _ _ h => h) (by kernel_rfl) (by assumption) ?_ ?_
              rotate_left
              · (intro w hSw; (try dsimp only at hSw); go_simp; try with_reducible rfl)
              simp only [Act.put, List.setIfInBounds_toArray, List.set_cons_zero, List.set_cons_succ]
              refine take_at (i := 13) (v := ?_) rfl (by kernel_rfl) (by kernel_rfl) (by kernel_rfl) (fun _ _ _ h => h) (by kernel_rfl) (by assumption) ?_ ?_
              rotate_left
              · (intro w hSw; (try dsimp only at hSw); go_simp; try with_reducible rfl)
              simp only [Act.put, List.setIfInBounds_toArray, List.set_cons_zero, List.set_cons_succ]
              refine take_at (i := 14) (v := ?_) rfl (by kernel_rfl) (by kernel_rfl) (by kernel_rfl) (fun _ _ _ h => h) (by kernel_rfl) (by assumption) ?_ ?_
              rotate_left
              · (intro w hSw; (try dsimp only at hSw); go_simp; try with_reducible rfl)
              simp only [Act.put, List.setIfInBounds_toArray, List.set_cons_zero, List.set_cons_succ]
              refine take_at (i := 15) (v := ?_) rfl (by kernel_rfl) (by kernel_rfl) (by kernel_rfl) (fun _ _ _ h => h) (by kernel_rfl) (by assumption) ?_ ?_
              rotate_left
              · (intro w hSw; (try dsimp only at hSw); go_simp; try with_reducible rfl)
              simp only [Act.put, List.setIfInBounds_toArray, List.set_cons_zero, List.set_cons_succ]
              refine take_at (i := 16) (v := ?_) rfl (by kernel_rfl) (by kernel_rfl) (by kernel_rfl) (fun _ _ _ h => h) (by kernel_rfl) (by assumption) ?_ ?_
              rotate_left
              · (intro w hSw; (try dsimp only at hSw); go_simp; try with_reducible rfl)
              simp only [Act.put, List.setIfInBounds_toArray, List.set_cons_zero, List.set_cons_succ]
              refine do_at (i := 17) rfl (by kernel_rfl) (by kernel_rfl) (fun K hK => ?_)
              go_simp
              refine (row_at HIC.out.drew HIL'.out.drew).mono ?_
              rintro e wx ⟨rfl, q, rfl⟩
              have HB15 := Lib.hid (show Below w13.heap.size w13 (w13.drew.drewN q) from ⟨rfl, rfl, rfl, Nat.le_refl _, fun _ _ => rfl⟩)
              go_wp2_with fail
              refine hK.out _ _ ?_ (fun hHeld => ?_)
              · exact (HB15.out.cell (p := ⟨gc, kk, none⟩) hgc).trans HCC.out
              clear hK K
              try simp only [Act.put, List.setIfInBounds_toArray, List.set_cons_zero, List.set_cons_succ]
              refine take_at (i := 18) (v := ?_) rfl (by kernel_rfl) (by kernel_rfl) (by kernel_rfl) (fun _ _ _ h => h) (by kernel_rfl) (by assumption) ?_ ?_
              rotate_left
              · (intro w hSw; (try dsimp only at hSw); go_simp; try with_reducible rfl)
              simp only [Act.put, List.setIfInBounds_toArray, List.set_cons_zero, List.set_cons_succ]
              refine take_at (i := 19) (v := ?_) rfl (by kernel_rfl) (by kernel_rfl) (by kernel_rfl) (fun _ _ _ h => h) (by kernel_rfl) (by assumption) ?_ ?_
              rotate_left
              · (intro w hSw; (try dsimp only at hSw); go_simp; try with_reducible rfl)
              simp only [Act.put, List.setIfInBounds_toArray, List.set_cons_zero, List.set_cons_succ]
              refine wpAnyH_done (by kernel_rfl) ?_ _
              go_wp2
              go_meet
              case rel => exact Lib.hid (HB14.out.trans ⟨rfl, rfl, rfl, Nat.le_refl _, fun _ _ => rfl⟩)
          case rest =>
            obtain ⟨we, rfl⟩ : ∃ we : World, we = wc := ⟨_, rfl⟩
            have HE := hcut
            clear hcut HP1 HP2 HB10 HBB
            go_wp2_with fail
            refine (new_any _).mono ?_
            rintro e w14 ⟨rfl, L14, b14⟩
            obtain ⟨B, hB⟩ : ∃ B, B = we.heap.size := ⟨_, rfl⟩
            rw [← hB] at L14 ⊢
            have hBlo : w.heap.size ≤ B := by rw [hB]; exact HE.out.size
            have HL14 := Lib.hid L14
            have HB14 := Lib.hid (HE.out.trans (b14.mono HE.out.size))
            clear b14 L14 hB
            go_wp2_with fail
            refine (byte_at w14 B _ 53 (by decide) HL14.out).mono ?_
            rintro e w15 ⟨rfl, L15, b15⟩
            have HL15 := Lib.hid L15
            have HB15 := Lib.hid (HB14.out.trans (b15.below hBlo HB14.out.size))
            clear L15 b15 HL14 HB14
            go_wp2_with fail
            refine (all_any w15 B _ HL15.out).mono ?_
            rintro e w16 ⟨v16, rfl, R16, b16⟩
            have R16' : RowsAt w16 w15.heap.size v16 [[5]] := R16
            have HL16 := Lib.hid (HL15.out.below b16)
            have HB16 := Lib.hid (HB15.out.trans (b16.mono HB15.out.size))
            have hB15 := HL15.out.lt
            obtain ⟨av, cv, rfl⟩ := R16'.slice
            obtain ⟨gy, uy, rfl, _, _, cy, IY⟩ := R16'.row (i := 0) (by decide)
            obtain ⟨gi, ci, cur, rfl, hgi, _, _, _, ki, fi⟩ := IY.open
            have c0 := ki 0 (by decide)
            have f0 := fi 0
            simp only [List.getD_cons_zero, List.length_singleton] at cy c0 ⊢
            have hlo : w.heap.size ≤ gi := Nat.le_trans HB15.out.size hgi
            have HL17 := Lib.hid (HL16.out.same (w' := w16.setCell ⟨gi, 0, none⟩ (.int .i64 9)) ((But.set w16 gi 0 (.int .i64 9)).block B HL16.out.lt (by simp; omega)))
            have HB17 := Lib.hid (HB16.out.setCell (p := ⟨gi, 0, none⟩) hlo (.int .i64 9))
            clear R16 R16' b16 HL15 HL16 HB15 HB16 IY ki fi
            go_wp2_with fail
            refine (byte_at _ B _ 49 (by decide) HL17.out).mono ?_
            rintro e w18 ⟨rfl, L18, b18⟩
            have HL18 := Lib.hid L18
            have HB18 := Lib.hid (HB17.out.trans (b18.below hBlo HB17.out.size))
            clear L18 b18 HL17 HB17 cy c0 f0
            go_wp2_with fail
            refine (all_any w18 B _ HL18.out).mono ?_
            rintro e w19 ⟨v19, rfl, R19, b19⟩
            have R19' : RowsAt w19 w18.heap.size v19 [[51]] := R19
            have HR19 := Lib.hid R19'
            have HB19 := Lib.hid (HB18.out.trans (b19.mono HB18.out.size))
            clear R19 R19' b19 HL18 HB18
            go_wp2_with fail
            refine (same_at ((HR19.out.past _).past _) (lit1 w19 [51] (by simp [maxLen]))).mono ?_
            rintro e w20 ⟨rfl, q, rfl⟩
            have HB20 := Lib.hid (show Below w.heap.size w _ from ((HB19.out.alloc HB19.out.size (.cells #[.int .i64 51] 3)).alloc (by have := HB19.out.size; simp; omega) (.cells #[.slice (some ⟨w19.heap.size, 0, none⟩) 1 1] 33)))
            clear HR19 HB19
            go_wp2
            go_ret
            exact ⟨rfl, HB20.out.trans ⟨rfl, rfl, rfl, Nat.le_refl _, fun _ _ => rfl⟩⟩
end Go.Proofs.YtijnjeibnochpaaDoor.Lab
