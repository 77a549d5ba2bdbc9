/- All: the parameters of all bytes that came. -/
import Derived.Test.YtlmhnebgkginkaaDoorPaRows
import Derived.Test.YtlmhnebgkginkaaDoorShelf
import Derived.Deep.LoopGhost
import Derived.Outline
namespace Go.Proofs.YtlmhnebgkginkaaDoor.Lab
open Go.RowKit

def RowsOut (w : World) (R : Rws) (e : Ending) (w' : World) : Prop := ∃ v, e = .returned v ∧ RowsAt w' w.heap.size v R ∧ Below w.heap.size w w'

theorem slice32 (w : World) (a : Addr) (n : Nat) (h : n ≤ 32) : (Instr.sliceAt 100 (.pointer (some a)) none (some (.int .i64 n)) none).run Tryd.prog w = .ok (.slice (some a) n 32) w := by
  have e1 : Tryd.prog.arrayLen 100 = 32 := by kernel_rfl
  have e2 : (sizeOf (Tryd.prog.elem 100)).run Tryd.prog w = .ok 1 w := by kernel_rfl
  rw [run_sliceAt_array_h (P := Tryd.prog) w 100 a (by kernel_rfl) .i64 n (by omega) (by rw [e1]; omega), e2, e1]
  simp [Result.andThen, slicedAt]
  cases a with
  | mk b o s => simp [Addr.add]
theorem slice8 (w : World) (a : Addr) (n : Nat) (h : n ≤ 8) : (Instr.sliceAt 98 (.pointer (some a)) none (some (.int .i64 n)) (some (.int .i64 n))).run Tryd.prog w = .ok (.slice (some a) n n) w := by
  have e1 : Tryd.prog.arrayLen 98 = 8 := by kernel_rfl
  have e2 : (sizeOf (Tryd.prog.elem 98)).run Tryd.prog w = .ok 1 w := by kernel_rfl
  rw [run_sliceAt_array_hm (P := Tryd.prog) w 98 a (by kernel_rfl) .i64 .i64 n n (by omega) (by omega) (by rw [e1]; omega), e2]
  simp [Result.andThen, slicedAt]
  cases a with
  | mk b o s => simp [Addr.add]

theorem new_cells (w : World) (l : List Value) (T : TypeId) (n : Nat) (hn : n = w.heap.size) : ∀ j u, l[j]? = some u → (w.alloc (.cells l.toArray T)).cell? ((⟨n, 0, none⟩ : Addr).add j) = some u := by
  intro j u hj
  have hp : (⟨n, 0, none⟩ : Addr).add j = ⟨n, 0 + j, none⟩ := by unfold Addr.add; split <;> simp_all
  rw [hp, Nat.zero_add, World.cell?_alloc_at _ _ _ _ hn, List.getElem?_toArray]
  exact hj

theorem infoRow : (Tryd.prog.info? 50).map (fun i => (i.zero, i.size, i.bytes)) = some (some (.slice none 0 0), 1, 24) := by kernel_rfl
theorem IntsAt.of_own {w : World} {lo n : Nat} {v : Value} {r : List Int} (h : w.ownsRow lo 3 1 v n (intsV (r.take n))) (hv : v ≠ .slice none 0 0) (hn : n = r.length) : IntsAt w lo v r := by
  subst hn
  rw [List.take_length] at h
  exact ⟨h, hv⟩

set_option maxHeartbeats 2000000 in
set_option maxRecDepth 100000 in
theorem all_any (w : World) (B : Nat) (s : Option PS) (h : LAt w B s) :
    Calls Tryd.prog 45 #[.pointer (some ⟨B, 0, none⟩)] w (RowsOut w (rowsO s)) := by
  obtain ⟨num, sub, L, T⟩ := h
  generalize rowsO s = R at L T ⊢
  obtain ⟨n, hn⟩ : ∃ n, n = R.length := ⟨_, rfl⟩
  have hn32 := T.len
  rw [← hn] at hn32 L
  have HN := Lib.hid hn
  clear hn
  have c1 := L.cp
  have s1 := fun w => slice32 w ⟨B, 256, none⟩ n hn32
  go_enter Tryd.func45, Tryd.ntmps45
  go_wp2
  go_quiet (fail)
  go_wp2
  have H0 := Lib.hid (show Below w.heap.size w (w.drewN nq) from ⟨rfl, rfl, rfl, Nat.le_refl _, fun _ _ => rfl⟩)
  generalize w.drewN nq = w0 at H0 ⊢
  have HL := Lib.hid L
  have HT := Lib.hid T
  clear L T c1
  obtain ⟨ib, hi, hz0, hz1, hz2⟩ := info_parts infoRow
  go_loopw [3, 17] (fun v i wr => ∃ k : Nat, k ≤ n ∧ i = .int .i64 k ∧ Hid (RowsAt wr w.heap.size v (R.take k)) ∧ Hid (Below w.heap.size w wr)) (fun _ i _ => n - (intOf i).toNat)
  case atStart => exact ⟨0, Nat.zero_le _, rfl, Lib.hid (RowsAt.nil _ _), H0⟩
  case round =>
    obtain ⟨k, hk, rfl, HR, HB⟩ := hrel
    by_cases hlt : k < n
    · have hkR : k < R.length := by rw [← HN.out]; exact hlt
      have L1 := HL.out.below HB.out
      obtain ⟨q, hq⟩ : ∃ q, R.getD k [] = q := ⟨_, rfl⟩
      have hok : okRow q := hq ▸ HT.out.ok _ (getD_mem [] hkR)
      obtain ⟨m, hm⟩ : ∃ m, m = q.length := ⟨_, rfl⟩
      have c1 := L1.cs k (by omega)
      rw [HT.out.sub k (by omega), hq, ← hm] at c1
      have hm1 : 1 ≤ m := by rw [hm]; exact hok.1
      have hm8 : m ≤ 8 := by rw [hm]; exact hok.2.1
      have hc : ∀ j, j < q.length → wr.cell? ⟨B, k * 8 + j, none⟩ = some (.int .i64 (q.getD j 0)) := by
        intro j hj
        rw [L1.cn (k * 8 + j) (by omega), HT.out.num k j hkR (by rw [hq]; exact hj), hq]
      have C := Lib.hid (Tryd.slices_Clone_int B (k * 8) m m q wr (by omega) (by omega) hc)
      have s2 := fun w => slice8 w ⟨B, k * 8, none⟩ m hm8
      have HQ := Lib.hid (show R.take (k + 1) = R.take k ++ [q] by
        rw [List.take_succ_eq_append_getElem hkR, ← hq, List.getD_eq_getElem?_getD, List.getElem?_eq_getElem hkR]
        rfl)
      have HLK := Lib.hid (show (R.take k).length = k by rw [List.length_take]; omega)
      have HM := Lib.hid hm
      clear hc hm hok hq s1 L1
      go_wp2_with fail
      refine C.out.mono ?_
      rintro e w1 ⟨v1, rfl, own1, ne1, b1⟩
      have HI := Lib.hid ((IntsAt.of_own own1 ne1 HM.out).lower HB.out.size)
      have HB1 := Lib.hid (HB.out.trans (b1.mono HB.out.size))
      have HR1 := Lib.hid (HR.out.below b1)
      clear own1 ne1 b1 HR HB C c1
      obtain ⟨us, hown, hus⟩ := HR1.out
      have HUS := Lib.hid hus
      clear hus HR1
      rw [HLK.out] at hown
      obtain ⟨g, cc, cur, e1, _⟩ := HI.out.open
      subst e1
      go_wp2_with (at_builtin; (refine wpList_append_own _ rfl (.tmp 22) (.tmp 32) 27 rfl w.heap.size 50 ib (.slice none 0 0) 1 24 Tryd.underlying27 hi hz0 hz1 hz2 rfl (by decide) u3 k us rfl (hown.alloc _) ⟨w1.heap.size, 0, none⟩ 1 1 [.slice (some ⟨g, 0, none⟩) q.length cc] rfl rfl ?c1 ?c2 ?c3 ?c4 ?c5 ?_))
      case c1 => exact new_cells w1 [.slice (some ⟨g, 0, none⟩) q.length cc] 50 _ rfl
      case c2 => simp [Value.oneCell']
      case c3 => unfold maxLen; omega
      case c4 => omega
      case c5 => have := HB1.out.size; simp; omega
      intro v' w2 own2 grow2 _
      have b2 : Below w.heap.size w w2 := (HB1.out.alloc HB1.out.size _).grown grow2 (by have := HB1.out.size; simp; omega) (fun j hj => (hown.lt j hj).1)
      have R2 : RowsAt w2 w.heap.size v' (R.take (k + 1)) := by
        rw [HQ.out]
        have hown' : (w1.alloc (.cells #[.slice (some ⟨g, 0, none⟩) q.length cc] 50)).ownsRow w.heap.size 50 1 u3 (R.take k).length us := by rw [HLK.out]; exact hown.alloc _
        refine RowsAt.snoc hown' (fun i hi => ((HUS.out i hi).below ((Below.refl _ _).alloc (Nat.le_refl _) _))) (HI.out.below ((Below.refl _ _).alloc (Nat.le_refl _) _)) ?_ grow2
        rw [HLK.out]
        exact own2
      have HR2 := Lib.hid R2
      have HB2 := Lib.hid b2
      clear own2 grow2 b2 R2 hown HUS HI HB1
      go_wp2
      go_roundw
      case rel => exact ⟨k + 1, by omega, by go_num, HR2, HB2⟩
      case measure => simp [intOf]; omega
    · go_wp2
      go_ret
      refine ⟨u3, rfl, ?_, HB.out⟩
      have := HR.out
      rwa [List.take_of_length_le (by rw [← HN.out]; omega)] at this
end Go.Proofs.YtlmhnebgkginkaaDoor.Lab
