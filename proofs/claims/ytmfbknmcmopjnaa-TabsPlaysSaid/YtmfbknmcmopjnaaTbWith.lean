/- The project's with and without: columns set, columns cleared. -/
import Derived.Test.YtmfbknmcmopjnaaTbOne
set_option linter.unusedVariables false
namespace Go.Proofs.Ytmfbknmcmopjnaa.Lab
open Go Go.RowKit Go.Shelf

/-- Numbers as they can be read. -/
def IsIn (w : World) (v : Value) (cs : List Int) : Prop :=
  ∃ a c, v = .slice a cs.length c ∧ (0 < cs.length → ∃ g o, a = some ⟨g, o, none⟩ ∧ g < w.heap.size ∧ ∀ i, (hi : i < cs.length) → w.cell? ⟨g, o + i, none⟩ = some (.int .i64 cs[i]))
theorem IsIn.below {w w' : World} {v : Value} {cs : List Int} (h : IsIn w v cs) (k : Below w.heap.size w w') : IsIn w' v cs := by
  obtain ⟨a, c, e, h⟩ := h
  refine ⟨a, c, e, fun h0 => ?_⟩
  obtain ⟨g, o, ea, hg, hC⟩ := h h0
  exact ⟨g, o, ea, Nat.lt_of_lt_of_le hg k.size, fun i hi => (k.cell (p := ⟨g, o + i, none⟩) hg).trans (hC i hi)⟩
theorem IsIn.nil (w : World) : IsIn w (.slice none 0 0) [] := ⟨none, 0, rfl, fun h => by simp at h⟩
abbrev TB : TypeId := 28
/-- Tab stops in a block of their own. -/
def TbAt (w : World) (B : Nat) (t : Tb) : Prop := w.heap[B]? = some (.cells (tbC t) TB (0, 0))
theorem TbAt.lt {w : World} {B : Nat} {t : Tb} (h : TbAt w B t) : B < w.heap.size := (Array.getElem?_eq_some_iff.1 h).1
theorem TbAt.below {w w' : World} {B : Nat} {t : Tb} (h : TbAt w B t) (k : Below w.heap.size w w') : TbAt w' B t := (k.block B h.lt).trans h
theorem TbAt.drew {w : World} {B : Nat} {t : Tb} (h : TbAt w B t) : TbAt w.drew B t := h
theorem TbAt.cells {w : World} {B : Nat} {t : Tb} (h : TbAt w B t) :
    w.cell? ⟨B, 0, none⟩ = some (wV t.L 0) ∧ w.cell? ⟨B, 1, none⟩ = some (wV t.L 1) ∧ w.cell? ⟨B, 2, none⟩ = some (wV t.L 2) ∧ w.cell? ⟨B, 3, none⟩ = some (wV t.L 3) ∧ w.cell? ⟨B, 4, none⟩ = some (wV t.L 4) ∧ w.cell? ⟨B, 5, none⟩ = some (wV t.L 5) ∧ w.cell? ⟨B, 6, none⟩ = some (wV t.L 6) ∧ w.cell? ⟨B, 7, none⟩ = some (wV t.L 7) ∧
      w.cell? ⟨B, 8, none⟩ = some (.int .i64 (t.L.length : Nat)) ∧ w.cell? ⟨B, 9, none⟩ = some (.int .u8 (t.b : Nat)) ∧ w.cell? ⟨B, 10, none⟩ = some (.int .u8 (t.l : Nat)) :=
  ⟨cell_of_row w B 0 _ _ _ h, cell_of_row w B 1 _ _ _ h, cell_of_row w B 2 _ _ _ h, cell_of_row w B 3 _ _ _ h, cell_of_row w B 4 _ _ _ h, cell_of_row w B 5 _ _ _ h, cell_of_row w B 6 _ _ _ h, cell_of_row w B 7 _ _ _ h, cell_of_row w B 8 _ _ _ h, cell_of_row w B 9 _ _ _ h, cell_of_row w B 10 _ _ _ h⟩
theorem zeros_at {w : World} {B : Nat} {t : Tb} (h : TbAt w B t) : ∀ i, w.frozen? ⟨B, i, none⟩ = false := fun i => frozen_of_row w B i _ _ h
def Tb.zero : Tb := ⟨[], 0, 0⟩
theorem wd_zero (k : Nat) : wd [] k = 0 := wd_nil [] (fun _ => rfl) k
theorem zero_cells : tbC Tb.zero = #[.int .u64 0, .int .u64 0, .int .u64 0, .int .u64 0, .int .u64 0, .int .u64 0, .int .u64 0, .int .u64 0, .int .i64 0, .int .u8 0, .int .u8 0] := by simp [tbC, Tb.zero, wd_zero]
theorem eight {q : Nat} (h : q < 8) : q = 0 ∨ q = 1 ∨ q = 2 ∨ q = 3 ∨ q = 4 ∨ q = 5 ∨ q = 6 ∨ q = 7 := by omega
theorem word_at {w : World} {B : Nat} {t : Tb} (h : TbAt w B t) {q : Nat} (hq : q < 8) : w.cell? ⟨B, q, none⟩ = some (wV t.L q) := by
  obtain ⟨h0, h1, h2, h3, h4, h5, h6, h7, _⟩ := h.cells
  rcases eight hq with rfl | rfl | rfl | rfl | rfl | rfl | rfl | rfl <;> assumption
/-- One word written anew. -/
theorem word_put {w : World} {B : Nat} {t : Tb} (h : TbAt w B t) {q : Nat} (hq : q < 8) (M : List Bool) (hl : M.length = t.L.length) (hk : ∀ k, k ≠ q → wd M k = wd t.L k) :
    TbAt (w.setCell ⟨B, q, none⟩ (wV M q)) B ⟨M, t.b, t.l⟩ := by
  refine (heap_setCell_same w B q _ _ _ h).trans ?_
  rcases eight hq with rfl | rfl | rfl | rfl | rfl | rfl | rfl | rfl <;> simp [tbC, hl, hk]
theorem isC_iff (L : List Bool) (c : Int) : isC L c = true ↔ ∃ m : Nat, c = m ∧ m < L.length := by
  unfold isC
  rw [decide_eq_true_iff]
  constructor
  · rintro ⟨h0, h1⟩
    exact ⟨c.toNat, by omega, by omega⟩
  · rintro ⟨m, rfl, hm⟩
    omega
theorem putB_out {v : Bool} {L : List Bool} {c : Int} (h : isC L c = false) : putB v L c = L := by
  unfold putB
  split
  · rename_i h0
    refine List.set_eq_of_length_le ?_
    unfold isC at h
    have := of_decide_eq_false h
    omega
  · rfl
theorem putB_in (v : Bool) (L : List Bool) (m : Nat) : putB v L (m : Int) = L.set m v := by
  unfold putB
  rw [if_pos (by omega)]
  rfl
theorem or_word (L : List Bool) (m : Nat) (hm : m < L.length) : bits .or .u64 ((wd L (m / 64) : Nat) : Int) ((2 ^ (m % 64) : Nat) : Int) = ((wd (L.set m true) (m / 64) : Nat) : Int) := by
  have h1 := wd_lt L (m / 64)
  have h2 : 2 ^ (m % 64) < 2 ^ 64 := Nat.pow_lt_pow_right (by decide) (Nat.mod_lt _ (by decide))
  rw [u64_or_nat _ _ (by omega) (by omega), wd_set _ _ _ hm, if_pos rfl]
theorem not_word (L : List Bool) (m : Nat) (hm : m < L.length) : bits .andNot .u64 ((wd L (m / 64) : Nat) : Int) ((2 ^ (m % 64) : Nat) : Int) = ((wd (L.set m false) (m / 64) : Nat) : Int) := by
  have h1 := wd_lt L (m / 64)
  have h2 : 2 ^ (m % 64) < 2 ^ 64 := Nat.pow_lt_pow_right (by decide) (Nat.mod_lt _ (by decide))
  rw [u64_andNot_nat _ _ (by omega) (by omega), wd_unset _ _ _ hm, if_pos rfl]
theorem take_more {cs : List Int} {k : Nat} (h : k < cs.length) (v : Bool) (L : List Bool) : putL v L (cs.take (k + 1)) = putB v (putL v L (cs.take k)) cs[k] := by
  rw [List.take_succ_eq_append_getElem h, putL_snoc]
set_option maxHeartbeats 4000000 in
theorem with_any (t : Tb) (ht : t.L.length ≤ 512) (v : Value) (cs : List Int) (w : World) (h : IsIn w v cs) (hl : cs.length ≤ 1000) :
    Calls Try.prog 34 #[tbV t, v] w fun e w' => e = .returned (tbV ⟨putL true t.L cs, t.b, t.l⟩) ∧ Below w.heap.size w w' := by
  obtain ⟨a, cap, rfl, hcs⟩ := h
  obtain ⟨n, hn⟩ : ∃ n, n = cs.length := ⟨_, rfl⟩
  have HN := Lib.hid hn
  obtain ⟨B, hB⟩ : ∃ b, b = w.heap.size := ⟨_, rfl⟩
  obtain ⟨w2, hw2⟩ : ∃ x, x = (w.alloc (.cells (tbC t) TB)).alloc (.cells #[.int .u64 0, .int .u64 0, .int .u64 0, .int .u64 0, .int .u64 0, .int .u64 0, .int .u64 0, .int .u64 0, .int .i64 0, .int .u8 0, .int .u8 0] TB) := ⟨_, rfl⟩
  have HB2 := Lib.hid (show Below w.heap.size w w2 by rw [hw2]; exact ((Below.refl _ _).alloc (Nat.le_refl _) _).alloc (by simp) _)
  have HT := Lib.hid (show TbAt w2 B ⟨putL true t.L (cs.take 0), t.b, t.l⟩ by
    show w2.heap[B]? = _
    rw [hw2, Below.heap_alloc _ _ _ (by rw [hB]; simp), hB]
    exact World.alloc_heap_new w _)
  have HZ := Lib.hid (show TbAt w2 (B + 1) Tb.zero by
    show w2.heap[B + 1]? = _
    rw [zero_cells]
    have := World.alloc_heap_new (w.alloc (.cells (tbC t) TB)) (.cells #[.int .u64 0, .int .u64 0, .int .u64 0, .int .u64 0, .int .u64 0, .int .u64 0, .int .u64 0, .int .u64 0, .int .i64 0, .int .u8 0, .int .u8 0] TB)
    rw [World.size_alloc, ← hw2, ← hB] at this
    exact this)
  have HS := Lib.hid (show B = w.heap.size ∧ w2.heap.size = B + 2 ∧ n ≤ 1000 from ⟨hB, by rw [hw2, hB]; simp, by omega⟩)
  have HL := Lib.hid (show ∀ k, (putL true t.L (cs.take k)).length = t.L.length from fun k => len_putL _ _ _)
  have HT5 := Lib.hid ht
  have HCS := Lib.hid hcs
  have hn1 : n ≤ 1000 := by omega
  rw [← hn]
  clear hn hcs hl ht
  go_enter Try.func34, Try.ntmps34
  go_wp2
  rw [← hw2, ← hB]
  clear hw2 hB
  go_loopw [11] (fun v wr => ∃ k : Nat, v = .int .i64 k ∧ k ≤ n ∧ Hid (But B w2 wr ∧ TbAt wr B ⟨putL true t.L (cs.take k), t.b, t.l⟩)) (fun v wr => n - (intOf v).toNat)
  case atStart => exact ⟨0, rfl, Nat.zero_le _, Lib.hid ⟨But.refl _ _, HT.out⟩⟩
  case round =>
    obtain ⟨k, rfl, hk, HK⟩ := hrel
    clear HT
    by_cases hlt : k < n
    · have hkc : k < cs.length := by have := HN.out; omega
      obtain ⟨g, o, rfl, hg, hC⟩ := HCS.out (by omega)
      have HP := Lib.hid (take_more hkc true t.L)
      have hc : wr.cell? ⟨g, o + k, none⟩ = some (.int .i64 cs[k]) := by
        have hgB : g < B := by have := HS.out; omega
        refine (World.cell?_of_block (a := ⟨g, o + k, none⟩) ?_).trans (hC k hkc)
        refine (HK.out.1.block g (by have := HS.out; omega) (fun e => by injection e with e; omega)).trans (HB2.out.block g hg)
      obtain ⟨c, hcc⟩ : ∃ c, c = cs[k] := ⟨_, rfl⟩
      rw [← hcc] at hc HP
      obtain ⟨L, hL⟩ : ∃ L, L = putL true t.L (cs.take k) := ⟨_, rfl⟩
      have HLL := Lib.hid (show L.length = t.L.length by rw [hL]; exact HL.out k)
      rw [← hL] at HP HK
      clear hcc hC hL
      obtain ⟨c0, c1, c2, c3, c4, c5, c6, c7, c8, c9, c10⟩ := HK.out.2.cells
      go_wp2_with fail
      refine (isCol_any ⟨L, t.b, t.l⟩ c _).mono ?_
      rintro e w3 ⟨rfl, b3⟩
      have HB3 := Lib.hid b3
      clear c0 c1 c2 c3 c4 c5 c6 c7 c8 c9 c10 hc b3
      by_cases hin : isC L c = true
      · obtain ⟨m, rfl, hm⟩ := (isC_iff L c).1 hin
        have HM := Lib.hid hm
        rw [hin]
        clear hin hm
        go_wp2_with fail
        refine (place_any m (by have := HM.out; have := HLL.out; have := HT5.out; omega) _).mono ?_
        rintro e w4 ⟨rfl, b4⟩
        have HT4 := Lib.hid (show TbAt w4 B ⟨L, t.b, t.l⟩ from (HK.out.2.below HB3.out).below b4)
        have HB4 := Lib.hid (show Below wr.heap.size wr w4 from HB3.out.trans (b4.mono HB3.out.size))
        clear b4 HB3
        have hb := or_word L m HM.out
        obtain ⟨q, hq⟩ : ∃ q, q = m / 64 := ⟨_, rfl⟩
        have HQ := Lib.hid hq
        obtain ⟨z, hz⟩ : ∃ z, z = 2 ^ (m % 64) := ⟨_, rfl⟩
        rw [← hq, ← hz] at hb
        have hq8 : q < 8 := by have := HM.out; have := HLL.out; have := HT5.out; omega
        have cq := word_at HT4.out hq8
        have fq := zeros_at HT4.out q
        rw [← hq, ← hz]
        clear hq hz
        go_wp2
        go_roundw
        case rel =>
          refine ⟨k + 1, by go_num, by omega, Lib.hid ⟨(HK.out.1.trans (But.of HB4.out)).trans (But.set w4 B q _), ?_⟩⟩
          rw [HP.out, putB_in]
          refine word_put HT4.out hq8 (L.set m true) (by simp) (fun i hi => ?_)
          rw [wd_set L m i HM.out, if_neg (by rw [← HQ.out]; exact hi)]
        case measure => simp only [intOf]; omega
      · rw [Bool.not_eq_true] at hin
        have HPO := Lib.hid (putB_out (v := true) hin)
        rw [hin]
        clear hin
        go_wp2
        go_roundw
        case rel =>
          refine ⟨k + 1, by go_num, by omega, Lib.hid ⟨HK.out.1.trans (But.of HB3.out), ?_⟩⟩
          rw [HP.out, HPO.out]
          exact HK.out.2.below HB3.out
        case measure => simp only [intOf]; omega
    · obtain rfl : k = n := by omega
      have HE := Lib.hid (show TbAt wr B ⟨putL true t.L cs, t.b, t.l⟩ by
        have := HK.out.2
        rw [List.take_of_length_le (by have := HN.out; omega)] at this
        exact this)
      obtain ⟨L, hL⟩ : ∃ L, L = putL true t.L cs := ⟨_, rfl⟩
      have HV := Lib.hid (show tbV ⟨putL true t.L cs, t.b, t.l⟩ = tbV ⟨L, t.b, t.l⟩ by rw [hL])
      rw [← hL] at HE
      clear hL
      have HZE := Lib.hid (show TbAt wr (B + 1) Tb.zero from (HK.out.1.block (B + 1) (by have := HS.out; omega) (fun e => by injection e with e; omega)).trans HZ.out)
      have HBE := Lib.hid (show Below w.heap.size w wr from HB2.out.trans (HK.out.1.below (by have := HS.out; omega) HB2.out.size))
      obtain ⟨c0, c1, c2, c3, c4, c5, c6, c7, c8, c9, c10⟩ := HE.out.cells
      obtain ⟨d0, d1, d2, d3, d4, d5, d6, d7, d8, d9, d10⟩ := HZE.out.cells
      have f := zeros_at HZE.out
      have f0 := f 0
      have f1 := f 1
      have f2 := f 2
      have f3 := f 3
      have f4 := f 4
      have f5 := f 5
      have f6 := f 6
      have f7 := f 7
      have f8 := f 8
      have f9 := f 9
      have f10 := f 10
      clear f HK hlt hk
      go_wp2
      refine bodyPost_ret (v := tbV ⟨L, t.b, t.l⟩) (by simp [results, Try.results34, go_sem, d0, d1, d2, d3, d4, d5, d6, d7, d8, d9, d10]) rfl ⟨by rw [HV.out], ?_⟩
      have hle : w.heap.size ≤ B + 1 := by have := HS.out; omega
      exact ((((((((((HBE.out.setCell hle _).setCell hle _).setCell hle _).setCell hle _).setCell hle _).setCell hle _).setCell hle _).setCell hle _).setCell hle _).setCell hle _).setCell hle _
set_option maxHeartbeats 4000000 in
theorem without_any (t : Tb) (ht : t.L.length ≤ 512) (v : Value) (cs : List Int) (w : World) (h : IsIn w v cs) (hl : cs.length ≤ 1000) :
    Calls Try.prog 45 #[tbV t, v] w fun e w' => e = .returned (tbV ⟨putL false t.L cs, t.b, t.l⟩) ∧ Below w.heap.size w w' := by
  obtain ⟨a, cap, rfl, hcs⟩ := h
  obtain ⟨n, hn⟩ : ∃ n, n = cs.length := ⟨_, rfl⟩
  have HN := Lib.hid hn
  obtain ⟨B, hB⟩ : ∃ b, b = w.heap.size := ⟨_, rfl⟩
  obtain ⟨w2, hw2⟩ : ∃ x, x = (w.alloc (.cells (tbC t) TB)).alloc (.cells #[.int .u64 0, .int .u64 0, .int .u64 0, .int .u64 0, .int .u64 0, .int .u64 0, .int .u64 0, .int .u64 0, .int .i64 0, .int .u8 0, .int .u8 0] TB) := ⟨_, rfl⟩
  have HB2 := Lib.hid (show Below w.heap.size w w2 by rw [hw2]; exact ((Below.refl _ _).alloc (Nat.le_refl _) _).alloc (by simp) _)
  have HT := Lib.hid (show TbAt w2 B ⟨putL false t.L (cs.take 0), t.b, t.l⟩ by
    show w2.heap[B]? = _
    rw [hw2, Below.heap_alloc _ _ _ (by rw [hB]; simp), hB]
    exact World.alloc_heap_new w _)
  have HZ := Lib.hid (show TbAt w2 (B + 1) Tb.zero by
    show w2.heap[B + 1]? = _
    rw [zero_cells]
    have := World.alloc_heap_new (w.alloc (.cells (tbC t) TB)) (.cells #[.int .u64 0, .int .u64 0, .int .u64 0, .int .u64 0, .int .u64 0, .int .u64 0, .int .u64 0, .int .u64 0, .int .i64 0, .int .u8 0, .int .u8 0] TB)
    rw [World.size_alloc, ← hw2, ← hB] at this
    exact this)
  have HS := Lib.hid (show B = w.heap.size ∧ w2.heap.size = B + 2 ∧ n ≤ 1000 from ⟨hB, by rw [hw2, hB]; simp, by omega⟩)
  have HL := Lib.hid (show ∀ k, (putL false t.L (cs.take k)).length = t.L.length from fun k => len_putL _ _ _)
  have HT5 := Lib.hid ht
  have HCS := Lib.hid hcs
  have hn1 : n ≤ 1000 := by omega
  rw [← hn]
  clear hn hcs hl ht
  go_enter Try.func45, Try.ntmps45
  go_wp2
  rw [← hw2, ← hB]
  clear hw2 hB
  go_loopw [11] (fun v wr => ∃ k : Nat, v = .int .i64 k ∧ k ≤ n ∧ Hid (But B w2 wr ∧ TbAt wr B ⟨putL false t.L (cs.take k), t.b, t.l⟩)) (fun v wr => n - (intOf v).toNat)
  case atStart => exact ⟨0, rfl, Nat.zero_le _, Lib.hid ⟨But.refl _ _, HT.out⟩⟩
  case round =>
    obtain ⟨k, rfl, hk, HK⟩ := hrel
    clear HT
    by_cases hlt : k < n
    · have hkc : k < cs.length := by have := HN.out; omega
      obtain ⟨g, o, rfl, hg, hC⟩ := HCS.out (by omega)
      have HP := Lib.hid (take_more hkc false t.L)
      have hc : wr.cell? ⟨g, o + k, none⟩ = some (.int .i64 cs[k]) := by
        have hgB : g < B := by have := HS.out; omega
        refine (World.cell?_of_block (a := ⟨g, o + k, none⟩) ?_).trans (hC k hkc)
        refine (HK.out.1.block g (by have := HS.out; omega) (fun e => by injection e with e; omega)).trans (HB2.out.block g hg)
      obtain ⟨c, hcc⟩ : ∃ c, c = cs[k] := ⟨_, rfl⟩
      rw [← hcc] at hc HP
      obtain ⟨L, hL⟩ : ∃ L, L = putL false t.L (cs.take k) := ⟨_, rfl⟩
      have HLL := Lib.hid (show L.length = t.L.length by rw [hL]; exact HL.out k)
      rw [← hL] at HP HK
      clear hcc hC hL
      obtain ⟨c0, c1, c2, c3, c4, c5, c6, c7, c8, c9, c10⟩ := HK.out.2.cells
      go_wp2_with fail
      refine (isCol_any ⟨L, t.b, t.l⟩ c _).mono ?_
      rintro e w3 ⟨rfl, b3⟩
      have HB3 := Lib.hid b3
      clear c0 c1 c2 c3 c4 c5 c6 c7 c8 c9 c10 hc b3
      by_cases hin : isC L c = true
      · obtain ⟨m, rfl, hm⟩ := (isC_iff L c).1 hin
        have HM := Lib.hid hm
        rw [hin]
        clear hin hm
        go_wp2_with fail
        refine (place_any m (by have := HM.out; have := HLL.out; have := HT5.out; omega) _).mono ?_
        rintro e w4 ⟨rfl, b4⟩
        have HT4 := Lib.hid (show TbAt w4 B ⟨L, t.b, t.l⟩ from (HK.out.2.below HB3.out).below b4)
        have HB4 := Lib.hid (show Below wr.heap.size wr w4 from HB3.out.trans (b4.mono HB3.out.size))
        clear b4 HB3
        have hb := not_word L m HM.out
        obtain ⟨q, hq⟩ : ∃ q, q = m / 64 := ⟨_, rfl⟩
        have HQ := Lib.hid hq
        obtain ⟨z, hz⟩ : ∃ z, z = 2 ^ (m % 64) := ⟨_, rfl⟩
        rw [← hq, ← hz] at hb
        have hq8 : q < 8 := by have := HM.out; have := HLL.out; have := HT5.out; omega
        have cq := word_at HT4.out hq8
        have fq := zeros_at HT4.out q
        rw [← hq, ← hz]
        clear hq hz
        go_wp2
        go_roundw
        case rel =>
          refine ⟨k + 1, by go_num, by omega, Lib.hid ⟨(HK.out.1.trans (But.of HB4.out)).trans (But.set w4 B q _), ?_⟩⟩
          rw [HP.out, putB_in]
          refine word_put HT4.out hq8 (L.set m false) (by simp) (fun i hi => ?_)
          rw [wd_unset L m i HM.out, if_neg (by rw [← HQ.out]; exact hi)]
        case measure => simp only [intOf]; omega
      · rw [Bool.not_eq_true] at hin
        have HPO := Lib.hid (putB_out (v := false) hin)
        rw [hin]
        clear hin
        go_wp2
        go_roundw
        case rel =>
          refine ⟨k + 1, by go_num, by omega, Lib.hid ⟨HK.out.1.trans (But.of HB3.out), ?_⟩⟩
          rw [HP.out, HPO.out]
          exact HK.out.2.below HB3.out
        case measure => simp only [intOf]; omega
    · obtain rfl : k = n := by omega
      have HE := Lib.hid (show TbAt wr B ⟨putL false t.L cs, t.b, t.l⟩ by
        have := HK.out.2
        rw [List.take_of_length_le (by have := HN.out; omega)] at this
        exact this)
      obtain ⟨L, hL⟩ : ∃ L, L = putL false t.L cs := ⟨_, rfl⟩
      have HV := Lib.hid (show tbV ⟨putL false t.L cs, t.b, t.l⟩ = tbV ⟨L, t.b, t.l⟩ by rw [hL])
      rw [← hL] at HE
      clear hL
      have HZE := Lib.hid (show TbAt wr (B + 1) Tb.zero from (HK.out.1.block (B + 1) (by have := HS.out; omega) (fun e => by injection e with e; omega)).trans HZ.out)
      have HBE := Lib.hid (show Below w.heap.size w wr from HB2.out.trans (HK.out.1.below (by have := HS.out; omega) HB2.out.size))
      obtain ⟨c0, c1, c2, c3, c4, c5, c6, c7, c8, c9, c10⟩ := HE.out.cells
      obtain ⟨d0, d1, d2, d3, d4, d5, d6, d7, d8, d9, d10⟩ := HZE.out.cells
      have f := zeros_at HZE.out
      have f0 := f 0
      have f1 := f 1
      have f2 := f 2
      have f3 := f 3
      have f4 := f 4
      have f5 := f 5
      have f6 := f 6
      have f7 := f 7
      have f8 := f 8
      have f9 := f 9
      have f10 := f 10
      clear f HK hlt hk
      go_wp2
      refine bodyPost_ret (v := tbV ⟨L, t.b, t.l⟩) (by simp [results, Try.results45, go_sem, d0, d1, d2, d3, d4, d5, d6, d7, d8, d9, d10]) rfl ⟨by rw [HV.out], ?_⟩
      have hle : w.heap.size ≤ B + 1 := by have := HS.out; omega
      exact ((((((((((HBE.out.setCell hle _).setCell hle _).setCell hle _).setCell hle _).setCell hle _).setCell hle _).setCell hle _).setCell hle _).setCell hle _).setCell hle _).setCell hle _
end Go.Proofs.Ytmfbknmcmopjnaa.Lab
