/- The project's New and Resize. -/
import Derived.Test.YtmfbknmcmopjnaaTbMake
set_option linter.unusedVariables false
namespace Go.Proofs.Ytmfbknmcmopjnaa.Lab
open Go Go.RowKit Go.Shelf

/-- Tab stops written into a block. -/
abbrev putT (w : World) (b : Nat) (t : Tb) : World :=
  ((((((((((w.setCell ⟨b, 0, none⟩ (wV t.L 0)).setCell ⟨b, 1, none⟩ (wV t.L 1)).setCell ⟨b, 2, none⟩ (wV t.L 2)).setCell ⟨b, 3, none⟩ (wV t.L 3)).setCell ⟨b, 4, none⟩ (wV t.L 4)).setCell ⟨b, 5, none⟩ (wV t.L 5)).setCell ⟨b, 6, none⟩ (wV t.L 6)).setCell ⟨b, 7, none⟩ (wV t.L 7)).setCell ⟨b, 8, none⟩ (.int .i64 (t.L.length : Nat))).setCell ⟨b, 9, none⟩ (.int .u8 (t.b : Nat))).setCell ⟨b, 10, none⟩ (.int .u8 (t.l : Nat))
theorem putT_at {w : World} {b : Nat} {t : Tb} (h : TbAt w b t) (u : Tb) : TbAt (putT w b u) b u := by
  have h1 := heap_setCell_same _ b 0 _ _ (wV u.L 0) h
  have h2 := heap_setCell_same _ b 1 _ _ (wV u.L 1) h1
  have h3 := heap_setCell_same _ b 2 _ _ (wV u.L 2) h2
  have h4 := heap_setCell_same _ b 3 _ _ (wV u.L 3) h3
  have h5 := heap_setCell_same _ b 4 _ _ (wV u.L 4) h4
  have h6 := heap_setCell_same _ b 5 _ _ (wV u.L 5) h5
  have h7 := heap_setCell_same _ b 6 _ _ (wV u.L 6) h6
  have h8 := heap_setCell_same _ b 7 _ _ (wV u.L 7) h7
  have h9 := heap_setCell_same _ b 8 _ _ (.int .i64 (u.L.length : Nat)) h8
  have h10 := heap_setCell_same _ b 9 _ _ (.int .u8 (u.b : Nat)) h9
  have h11 := heap_setCell_same _ b 10 _ _ (.int .u8 (u.l : Nat)) h10
  refine h11.trans ?_
  simp [tbC]
theorem putT_below {w : World} {B b : Nat} (h : B ≤ b) (t : Tb) : Below B w (putT w b t) :=
  (((((((((((Below.refl _ _).setCell h _).setCell h _).setCell h _).setCell h _).setCell h _).setCell h _).setCell h _).setCell h _).setCell h _).setCell h _).setCell h _
theorem putT_other {w : World} {b c : Nat} {t u : Tb} (h : TbAt w c t) (ne : c ≠ b) : TbAt (putT w b u) c t := by
  unfold TbAt
  iterate 11 rw [Below.heap_setCell _ _ _ _ (by simpa using ne)]
  exact h
def newK (n i : Nat) : List Bool := (List.range n).map fun j => firstB j && decide (j < i)
theorem len_newK (n i : Nat) : (newK n i).length = n := by simp [newK]
theorem getD_newK (n i j : Nat) : (newK n i).getD j false = if j < n then firstB j && decide (j < i) else false := by
  unfold newK
  rw [List.getD_eq_getElem?_getD, List.getElem?_map]
  by_cases h : j < n
  · rw [if_pos h, List.getElem?_range h]
    rfl
  · rw [if_neg h, List.getElem?_eq_none (by simpa using h)]
    rfl
theorem newK_start (n : Nat) : newK n 8 = List.replicate n false := by
  refine bools_ext (by simp [newK]) fun j hj => ?_
  rw [len_newK] at hj
  rw [getD_newK, if_pos hj, List.getD_eq_getElem?_getD, List.getElem?_replicate, if_pos hj]
  unfold firstB
  simp only [Option.getD_some, Bool.and_eq_false_iff, decide_eq_false_iff_not]
  omega
theorem newK_more {n i k : Nat} (hi : i = 8 * k + 8) (hn : i < n) : putL true (newK n i) [(i : Int)] = newK n (i + 8) := by
  refine bools_ext (by rw [len_putL, len_newK, len_newK]) fun j hj => ?_
  rw [len_putL, len_newK] at hj
  have ha := getD_newK n i j
  have hb := getD_newK n (i + 8) j
  rw [if_pos hj] at ha hb
  show (putB true (newK n i) (i : Int)).getD j false = _
  rw [getD_putB, len_newK, ha, hb]
  unfold firstB
  rw [Bool.eq_iff_iff]
  by_cases e : (i : Int) = (j : Int)
  · rw [if_pos ⟨e, hj⟩]
    simp only [Bool.and_eq_true, decide_eq_true_eq]
    refine ⟨fun _ => ⟨⟨by omega, by omega⟩, by omega⟩, fun _ => by trivial⟩
  · rw [if_neg (fun q => e q.1)]
    simp only [Bool.and_eq_true, decide_eq_true_eq]
    omega
theorem newK_end {c : Int} {i : Nat} (h : szN c ≤ i) (b : Nat) : newK (szN c) i = (newM c b).L := by
  refine bools_ext (by rw [len_newK, len_newM]) fun j hj => ?_
  rw [len_newK] at hj
  rw [getD_newK, getD_new, if_pos hj, if_pos hj]
  simp only [Bool.and_eq_left_iff_imp, decide_eq_true_eq]
  omega
set_option maxHeartbeats 4000000 in
theorem new_any (c : Int) (bs : Nat) (w : World) : Calls Try.prog 9 #[.int .i64 c, .int .u8 (bs : Nat)] w fun e w' => e = .returned (tbV (newM c bs)) ∧ Below w.heap.size w w' := by
  obtain ⟨n, hn⟩ : ∃ n, n = szN c := ⟨_, rfl⟩
  have HW := Lib.hid (show ∀ w, Calls Try.prog 33 #[.int .i64 c, .int .i64 0, .int .i64 512] w fun e w' => e = .returned (.int .i64 (n : Nat)) ∧ w = w' from fun w => by
    rw [hn, show ((szN c : Nat) : Int) = inN c 0 512 by unfold szN inN; omega]
    exact within_any c 0 512 w)
  have HWT := Lib.hid (fun (i : Nat) v w (h : IsIn w v [(i : Int)]) => with_any ⟨newK n i, bs, bs⟩ (by rw [len_newK, hn]; exact szN_le c) v [(i : Int)] w h (by simp))
  have HE := Lib.hid (fun i (h : n ≤ i) => show tbV (newM c bs) = tbV ⟨newK n i, bs, bs⟩ by rw [hn] at h ⊢; rw [newK_end h bs]; rfl)
  have HN := Lib.hid (show n ≤ 512 by rw [hn]; exact szN_le c)
  clear hn
  obtain ⟨w2, hw2⟩ : ∃ x, x = (w.alloc (.cells #[.int .u64 0, .int .u64 0, .int .u64 0, .int .u64 0, .int .u64 0, .int .u64 0, .int .u64 0, .int .u64 0, .int .i64 0, .int .u8 0, .int .u8 0] TB)).alloc (.cells #[.int .u64 0, .int .u64 0, .int .u64 0, .int .u64 0, .int .u64 0, .int .u64 0, .int .u64 0, .int .u64 0, .int .i64 (n : Nat), .int .u8 (bs : Nat), .int .u8 (bs : Nat)] TB) := ⟨_, rfl⟩
  obtain ⟨b, hb⟩ : ∃ b, b = w.heap.size := ⟨_, rfl⟩
  have HB2 := Lib.hid (show Below w.heap.size w w2 by rw [hw2]; exact ((Below.refl _ _).alloc (Nat.le_refl _) _).alloc (by simp) _)
  have HT := Lib.hid (show TbAt w2 (b + 1) ⟨newK n 8, bs, bs⟩ by
    unfold TbAt
    have := World.alloc_heap_new (w.alloc (.cells #[.int .u64 0, .int .u64 0, .int .u64 0, .int .u64 0, .int .u64 0, .int .u64 0, .int .u64 0, .int .u64 0, .int .i64 0, .int .u8 0, .int .u8 0] TB)) (.cells #[.int .u64 0, .int .u64 0, .int .u64 0, .int .u64 0, .int .u64 0, .int .u64 0, .int .u64 0, .int .u64 0, .int .i64 (n : Nat), .int .u8 (bs : Nat), .int .u8 (bs : Nat)] TB)
    rw [World.size_alloc, ← hw2, ← hb] at this
    rw [this]
    simp [tbC, newK_start, wd_false])
  have HZ := Lib.hid (show TbAt w2 b Tb.zero by
    unfold TbAt
    rw [zero_cells, hw2, Below.heap_alloc _ _ _ (by rw [hb]; simp), hb]
    exact World.alloc_heap_new w _)
  have HS := Lib.hid (show b = w.heap.size ∧ w2.heap.size = b + 2 from ⟨hb, by rw [hw2, hb]; simp⟩)
  go_enter Try.func9, Try.ntmps9
  go_wp2_with fail
  refine (HW.out _).mono ?_
  rintro e w' ⟨rfl, rfl⟩
  go_wp2
  rw [← hw2, ← hb]
  clear hw2 hb HW
  go_loopw [6] (fun v wr => ∃ k i : Nat, v = .int .i64 (i : Nat) ∧ Hid (i = 8 * k + 8 ∧ i ≤ 520) ∧ Hid (Below w.heap.size w wr ∧ TbAt wr b Tb.zero ∧ TbAt wr (b + 1) ⟨newK n i, bs, bs⟩)) (fun v wr => 600 - (intOf v).toNat)
  case atStart => exact ⟨0, 8, rfl, Lib.hid ⟨rfl, by decide⟩, Lib.hid ⟨HB2.out, HZ.out, HT.out⟩⟩
  case round =>
    obtain ⟨k, i, rfl, HI, HK⟩ := hrel
    clear HT HZ HB2
    obtain ⟨L, hL⟩ : ∃ L, L = newK n i := ⟨_, rfl⟩
    have HLN := Lib.hid (show L.length = n by rw [hL]; exact len_newK n i)
    have HK2 := Lib.hid HK.out.2.2
    have HWI := Lib.hid (HWT.out i)
    have HML := Lib.hid hL
    rw [← hL] at HK2 HWI
    clear hL
    obtain ⟨c0, c1, c2, c3, c4, c5, c6, c7, c8, c9, c10⟩ := HK2.out.cells
    by_cases hlt : i < L.length
    · have HLT := Lib.hid hlt
      obtain ⟨u, hu⟩ : ∃ u, u = newK n (i + 8) := ⟨_, rfl⟩
      have HM := Lib.hid (show putL true L [(i : Int)] = u by rw [HML.out, hu]; exact newK_more HI.out.1 (by rw [← HLN.out]; exact HLT.out))
      have HUE := Lib.hid hu
      have HUL := Lib.hid (show u.length = L.length by rw [hu, len_newK, HLN.out])
      have u1 : IntKind.i64.wrap ((i : Int) + 8) = ((i + 8 : Nat) : Int) := by rw [IntKind.wrap_i64]; have := HI.out; omega
      clear hu
      obtain ⟨q, hq⟩ : ∃ q, q = wr.heap.size := ⟨_, rfl⟩
      obtain ⟨w8, hw8⟩ : ∃ X, X = wr.alloc (.cells #[.int .i64 (i : Nat)] 3) := ⟨_, rfl⟩
      have HB8 := Lib.hid (show Below wr.heap.size wr w8 by rw [hw8]; exact (Below.refl _ _).alloc (Nat.le_refl _) _)
      have HI8 := Lib.hid (show IsIn w8 (.slice (some ⟨q, 0, none⟩) 1 1) [(i : Int)] from ⟨_, 1, rfl, fun _ => ⟨q, 0, rfl, by rw [hw8, hq]; simp, fun j hj => by
        obtain rfl : j = 0 := by simpa using hj
        rw [hw8, hq]
        simp⟩⟩)
      go_wp2_with fail
      rw [← hw8, ← hq]
      clear hw8 hq
      refine (HWI.out _ _ HI8.out).mono ?_
      rintro e w3 ⟨rfl, b3⟩
      rw [HM.out]
      have HB3 := Lib.hid (HB8.out.trans (b3.mono HB8.out.size))
      clear b3 c0 c1 c2 c3 c4 c5 c6 c7 c8 c9 c10 HWI
      have HT3 := Lib.hid (HK2.out.below HB3.out)
      obtain ⟨c0, c1, c2, c3, c4, c5, c6, c7, c8, c9, c10⟩ := HT3.out.cells
      have f := zeros_at HT3.out
      have f0 := f 0
      have f1 := f 1
      have f2 := f 2
      have f3 := f 3
      have f4 := f 4
      have f5 := f 5
      have f6 := f 6
      have f7 := f 7
      have f8 := f 8
      have f9 := f 9
      have f10 := f 10
      clear f
      go_wp2
      go_roundw
      case rel =>
        refine ⟨k + 1, i + 8, by go_num, Lib.hid ⟨by have := HI.out.1; omega, by have := HI.out.1; have := HLT.out; have := HLN.out; have := HN.out; omega⟩, Lib.hid ⟨?_, ?_, ?_⟩⟩
        · exact (HK.out.1.trans (HB3.out.mono HK.out.1.size)).trans ((putT_below (b := b + 1) (Nat.le_refl _) ⟨u, bs, bs⟩).mono (by have := HS.out; omega))
        · exact putT_other (u := ⟨u, bs, bs⟩) (HK.out.2.1.below HB3.out) (by omega)
        · rw [← HUE.out]
          exact putT_at HT3.out ⟨u, bs, bs⟩
      case measure => simp only [intOf]; have := HI.out; omega
    · have HV := Lib.hid (HE.out i (by rw [← HLN.out]; omega))
      rw [← HML.out] at HV
      obtain ⟨d0, d1, d2, d3, d4, d5, d6, d7, d8, d9, d10⟩ := HK.out.2.1.cells
      have f := zeros_at HK.out.2.1
      have f0 := f 0
      have f1 := f 1
      have f2 := f 2
      have f3 := f 3
      have f4 := f 4
      have f5 := f 5
      have f6 := f 6
      have f7 := f 7
      have f8 := f 8
      have f9 := f 9
      have f10 := f 10
      clear f
      go_wp2
      refine bodyPost_ret (v := tbV ⟨L, bs, bs⟩) (by simp [results, Try.results9, go_sem, d0, d1, d2, d3, d4, d5, d6, d7, d8, d9, d10]) rfl ⟨by rw [HV.out], ?_⟩
      exact HK.out.1.trans ((putT_below (b := b) (Nat.le_refl _) ⟨L, bs, bs⟩).mono (by have := HS.out; omega))
end Go.Proofs.Ytmfbknmcmopjnaa.Lab
