/- Copy: a token of the same, its parameters the call's own. -/
import Derived.Test.YtclaopidjfekmaaDoorToParD
import Derived.Laws.AppendOwnNone
namespace Go.Proofs.YtclaopidjfekmaaDoor.Lab
open Go Go.RowKit

theorem ints_cells {w : World} {g o q : Nat} {y : List Int} (hq : y.length = q) (h : ∀ j, j < q → w.cell? ⟨g, o + j, none⟩ = some (.int .i64 (y.getD j 0))) : ∀ j u, (intsV y)[j]? = some u → w.cell? ((⟨g, o, none⟩ : Addr).add j) = some u := by
  intro j u hu
  rw [Go.WideShapes.add_plain]
  obtain ⟨hj, rfl⟩ := List.getElem?_eq_some_iff.1 hu
  have hj' : j < y.length := by simpa using hj
  rw [h j (by omega)]
  simp [List.getD_eq_getElem?_getD, hj']

/-- An empty row is nil, or it has an address. -/
def ZOk (w : World) (va : Option Addr) (P : Rws) : Prop := ∀ g o j u, va = some ⟨g, o, none⟩ → j < P.length → w.cell? ⟨g, o + j, none⟩ = some u → P.getD j [] = [] → u = .slice none 0 0 ∨ ∃ g2 o2 c, u = .slice (some ⟨g2, o2, none⟩) 0 c

set_option maxHeartbeats 4000000 in
set_option maxRecDepth 100000 in
theorem copy_any (k r p f : Int) (va : Option Addr) (vn vc : Nat) (P : Rws) (i d : ByteArray) (w : World) (hM : MatAt w (.slice va vn vc) P) (hz : ZOk w va P) (hn : P.length ≤ 1000) (hr : ∀ q ∈ P, q.length ≤ 1000) :
    Calls Tryd.prog 15 #[tok7 k r p (.slice va vn vc) i f d] w fun e w' => ∃ ua un uc B, e = .returned (tok7 k r p (.slice ua un uc) i f d) ∧ w.heap.size ≤ B ∧ RRow w' B (.slice ua un uc) P ∧ Below w.heap.size w w' := by
  obtain ⟨a, cp, he, _, hc⟩ := hM
  injection he with e1 e2 e3
  subst e1 e2 e3
  obtain ⟨n, hnn⟩ : ∃ n, P.length = n := ⟨_, rfl⟩
  rw [hnn] at hc hn ⊢
  have HC := Lib.hid hc
  have HZ := Lib.hid hz
  have HN := Lib.hid hnn
  have HR1 := Lib.hid hr
  obtain ⟨ib, hi, hz0, hz1, hz2⟩ := info_parts infoI
  obtain ⟨ib2, hi2, hy0, hy1, hy2⟩ := info_parts infoInt
  obtain ⟨W0, hW0⟩ : ∃ W0, W0 = (w.alloc (.cells #[.int .i64 k, .int .i32 r, .int .u8 p, .slice va n vc, .string i, .int .u8 f, .string d] 27)).alloc (.cells #[.int .i64 0, .int .i32 0, .int .u8 0, .slice none 0 0, .string ⟨#[]⟩, .int .u8 0, .string ⟨#[]⟩] 27) := ⟨_, rfl⟩
  have B0 := Lib.hid (show Below w.heap.size w W0 by rw [hW0]; exact ((Below.refl _ _).alloc (Nat.le_refl _) _).alloc (by simp) _)
  have T0 := Lib.hid (show T7 W0 w.heap.size (.int .i64 k) (.int .i32 r) (.int .u8 p) (.slice va n vc) (.string i) (.int .u8 f) (.string d) by rw [hW0]; exact (T7.newAt w w.heap.size rfl _ _ _ _ _ _ _ _).past _)
  have T1 := Lib.hid (show T7 W0 (w.heap.size + 1) (.int .i64 0) (.int .i32 0) (.int .u8 0) (.slice none 0 0) (.string ⟨#[]⟩) (.int .u8 0) (.string ⟨#[]⟩) by rw [hW0]; exact T7.newAt _ (w.heap.size + 1) (by simp) _ _ _ _ _ _ _ _)
  have HS0 := Lib.hid (show W0.heap.size = w.heap.size + 2 by rw [hW0]; simp)
  obtain ⟨_, ⟨t0, t1, t2, t3, t4, t5, t6⟩, _⟩ := T0.out
  clear hc hz hnn hr
  go_enter Tryd.func15, Tryd.ntmps15
  go_upto_block 0 with (fail)
  rw [← hW0]
  clear hW0 t0 t1 t2 t3 t4 t5 t6
  go_cut [3] (fun vl wc => Hid (RRow wc W0.heap.size vl P) ∧ Hid (Below W0.heap.size W0 wc))
  case first =>
    as_aux_lemma =>
    go_wp2_with fail
    go_loopw [3, 9] (fun vl i wr => ∃ k : Nat, k ≤ n ∧ i = .int .i64 k ∧ Hid (RRow wr W0.heap.size vl (P.take k)) ∧ Hid (Below W0.heap.size W0 wr)) (fun _ i _ => n - (intOf i).toNat)
    case atStart => exact ⟨0, Nat.zero_le _, rfl, Lib.hid (RRow.nil _ _), Lib.hid (Below.refl _ _)⟩
    case round =>
      obtain ⟨wo, rfl⟩ : ∃ wo : World, wo = wr := ⟨_, rfl⟩
      obtain ⟨j, hj, rfl, HR, HB⟩ := hrel
      have HB1 := Lib.hid (B0.out.trans (HB.out.mono B0.out.size))
      by_cases hlt : j < n
      · obtain ⟨g, o, ha, hcell⟩ := HC.out (by omega)
        obtain ⟨u, cu0, hu0⟩ := hcell j hlt
        have cu := Keeps.of HB1.out _ _ _ cu0
        have HTK := Lib.hid (take_at' P [] (k := j) (by rw [HN.out]; exact hlt))
        have hq1000 := HR1.out _ (getD_mem' (l := P) [] (k := j) (by rw [HN.out]; exact hlt))
        have hzz := HZ.out g o j u ha (by rw [HN.out]; exact hlt) cu0
        have hu := hu0.on (Keeps.of HB1.out)
        obtain ⟨y, hy⟩ : ∃ y, P.getD j [] = y := ⟨_, rfl⟩
        rw [hy] at HTK hu hq1000 hzz
        have HLK := Lib.hid (show (P.take j).length = j by rw [List.length_take, HN.out]; omega)
        obtain ⟨us, ho, hrow⟩ := HR.out
        rw [HLK.out] at ho
        have hs := HB.out.size
        obtain ⟨ra, rc, rfl, hym, hyc⟩ := hu
        obtain ⟨q, hq⟩ : ∃ q, y.length = q := ⟨_, rfl⟩
        rw [hq] at cu hym hyc hq1000 hzz
        have hcase : (∃ g2 o2, ra = some ⟨g2, o2, none⟩ ∧ ∀ l, l < q → wo.cell? ⟨g2, o2 + l, none⟩ = some (.int .i64 (y.getD l 0))) ∨ ra = none ∧ q = 0 ∧ rc = 0 := by
          by_cases h0 : 0 < q
          · exact .inl (hyc h0)
          · have hy0 : y = [] := List.length_eq_zero_iff.1 (by omega)
            rcases hzz hy0 with h | ⟨g2, o2, c, h⟩
            · injection h with h1 h2 h3
              exact .inr ⟨h1, by omega, h3⟩
            · injection h with h1 h2 h3
              exact .inl ⟨g2, o2, h1, fun l hl => by omega⟩
        have HQ := Lib.hid hq
        clear hcell cu0 hu0 hy hyc hzz hq
        subst ha
        rcases hcase with ⟨g2, o2, rfl, hcs⟩ | ⟨rfl, rfl, rfl⟩
        · have HCS := Lib.hid (ints_cells HQ.out hcs)
          have HOW := Lib.hid (World.ownsRow_nil wo W0.heap.size 3 1)
          clear hcs
          go_wp2_with (at_builtin; refine wpList_append_own _ rfl (.const (.slice none 0 0)) (.tmp 14) 47 rfl W0.heap.size 3 ib2 (.int .i64 0) 1 8 Tryd.underlying47 hi2 hy0 hy1 hy2 rfl (by decide) (.slice none 0 0) 0 [] rfl HOW.out ⟨g2, o2, none⟩ q rc (intsV y) rfl ?c0 HCS.out ?c2 ?c3 ?c4 ?c5 ?_)
          case c0 => rw [List.length_map, HQ.out]; omega
          case c2 => simp [Value.oneCell']
          case c3 => unfold maxLen; omega
          case c4 => omega
          case c5 => omega
          intro v1 w1 own1 grow1 _
          have B01 : Below wo.heap.size wo w1 := (Below.refl wo.heap.size wo).grown grow1 (Nat.le_refl _) (fun j hj => by simp [Value.ownBlock] at hj)
          have HN1 := Lib.hid (show NRow w1 W0.heap.size v1 y by
            show w1.ownsRow _ _ _ _ _ _
            rw [HQ.out]
            simpa using own1)
          clear own1 grow1 HCS HOW
          obtain ⟨a1, n1, c1, rfl⟩ := own_slice HN1.out

          have b2 : Below w1.heap.size w1 (w1.alloc (.cells #[.slice a1 n1 c1] 47)) := (Below.refl _ _).alloc (Nat.le_refl _) _
          have b3 : Below wo.heap.size wo (w1.alloc (.cells #[.slice a1 n1 c1] 47)) := B01.alloc B01.size _
          have ho2 := row_below ho b3
          have hrow2 := Lib.hid (fun i (hi : i < (P.take j).length) => row_below (hrow i hi) b3)
          have hx2 := Lib.hid (row_below HN1.out b2)
          have HB3 := Lib.hid b3
          clear hrow b2 b3
          go_wp2_with (at_builtin; refine wpList_append_own _ rfl (.tmp 13) (.tmp 16) 25 rfl W0.heap.size 47 ib (.slice none 0 0) 1 24 Tryd.underlying25 hi hz0 hz1 hz2 rfl (by decide) _ j us rfl ho2 ⟨w1.heap.size, 0, none⟩ 1 1 [.slice a1 n1 c1] rfl rfl ?c1 ?c2 ?c3 ?c4 ?c5 ?_)
          case c1 => exact new_cells w1 [.slice a1 n1 c1] 47 _ rfl
          case c2 => simp [Value.oneCell']
          case c3 => unfold maxLen; omega
          case c4 => omega
          case c5 => have := B01.size; simp; omega
          intro v' w3 own3 grow3 _
          have HB4 := Lib.hid ((HB.out.trans (HB3.out.mono hs)).grown grow3 (by have := B01.size; simp; omega) (fun j hj => (ho2.lt j hj).1))
          have HR4 := Lib.hid (show RRow w3 W0.heap.size v' (P.take (j + 1)) by
            rw [HTK.out]
            exact RRow.snoc (us := us) (by rw [HLK.out]; exact ho2) hrow2.out hx2.out (by rw [HLK.out]; exact own3) grow3)
          clear own3 grow3 ho2 ho hrow2 hx2 HN1 HB3 HB HR
          go_wp2
          go_roundw
          case rel => exact ⟨j + 1, by omega, by go_num, HR4, HB4⟩
          case measure => simp [intOf]; omega
        · have hy : y = [] := List.length_eq_zero_iff.1 HQ.out
          subst hy
          have B01 : Below wo.heap.size wo wo := Below.refl _ _
          have HN1 := Lib.hid (show NRow wo W0.heap.size (.slice none 0 0) [] from World.ownsRow_nil wo W0.heap.size 3 1)
          have HOW := Lib.hid (World.ownsRow_nil wo W0.heap.size 3 1)

          have b2 : Below wo.heap.size wo (wo.alloc (.cells #[.slice none 0 0] 47)) := (Below.refl _ _).alloc (Nat.le_refl _) _
          have b3 : Below wo.heap.size wo (wo.alloc (.cells #[.slice none 0 0] 47)) := B01.alloc B01.size _
          have ho2 := row_below ho b3
          have hrow2 := Lib.hid (fun i (hi : i < (P.take j).length) => row_below (hrow i hi) b3)
          have hx2 := Lib.hid (row_below HN1.out b2)
          have HB3 := Lib.hid b3
          clear hrow b2 b3
          go_wp2_with (at_builtin; first | refine wpList_append_own_none rfl (.const (.slice none 0 0)) (.tmp 14) 47 rfl W0.heap.size 3 ib2 1 Tryd.underlying47 hi2 (.slice none 0 0) 0 [] rfl HOW.out rfl ?_ | refine wpList_append_own _ rfl (.tmp 13) (.tmp 16) 25 rfl W0.heap.size 47 ib (.slice none 0 0) 1 24 Tryd.underlying25 hi hz0 hz1 hz2 rfl (by decide) _ j us rfl ho2 ⟨wo.heap.size, 0, none⟩ 1 1 [.slice none 0 0] rfl rfl ?c1 ?c2 ?c3 ?c4 ?c5 ?_)
          case c1 => exact new_cells wo [.slice none 0 0] 47 _ rfl
          case c2 => simp [Value.oneCell']
          case c3 => unfold maxLen; omega
          case c4 => omega
          case c5 => have := B01.size; simp; omega
          intro v' w3 own3 grow3 _
          have HB4 := Lib.hid ((HB.out.trans (HB3.out.mono hs)).grown grow3 (by have := B01.size; simp; omega) (fun j hj => (ho2.lt j hj).1))
          have HR4 := Lib.hid (show RRow w3 W0.heap.size v' (P.take (j + 1)) by
            rw [HTK.out]
            exact RRow.snoc (us := us) (by rw [HLK.out]; exact ho2) hrow2.out hx2.out (by rw [HLK.out]; exact own3) grow3)
          clear own3 grow3 ho2 ho hrow2 hx2 HN1 HB3 HB HR
          go_wp2
          go_roundw
          case rel => exact ⟨j + 1, by omega, by go_num, HR4, HB4⟩
          case measure => simp [intOf]; omega
      · have HTK := Lib.hid (show P.take j = P from List.take_of_length_le (by rw [HN.out]; omega))
        rw [HTK.out] at HR
        go_wp2
        go_meet
        case rel => exact ⟨HR, HB⟩
  case rest =>
    obtain ⟨HR, HB⟩ := hcut
    obtain ⟨ua, uc, rfl⟩ := HR.out.slice
    rw [HN.out] at HR ⊢
    have HS := HS0.out
    have q0 := T0.out.below HB.out
    have q1 := T1.out.below HB.out
    have g0 := q0.set3 (.slice ua n uc)
    have g1 := q1.set_no (b' := w.heap.size) 3 (.slice ua n uc) (by omega)
    have HG1 := Lib.hid (g1.put (.int .i64 k) (.int .i32 r) (.int .u8 p) (.slice ua n uc) (.string i) (.int .u8 f) (.string d))
    have HRZ := Lib.hid ((HR.out.keep (grown_set wc w.heap.size 3 (.slice ua n uc)) (by omega)).keep (grown_put7 (wc.setCell ⟨w.heap.size, 3, none⟩ (.slice ua n uc)) (w.heap.size + 1) (.int .i64 k) (.int .i32 r) (.int .u8 p) (.slice ua n uc) (.string i) (.int .u8 f) (.string d)) (by omega))
    have HBZ := Lib.hid (put7_below ((B0.out.trans (HB.out.mono B0.out.size)).setCell (p := ⟨w.heap.size, 3, none⟩) (Nat.le_refl _) (.slice ua n uc)) (b := w.heap.size + 1) (by omega) (.int .i64 k) (.int .i32 r) (.int .u8 p) (.slice ua n uc) (.string i) (.int .u8 f) (.string d))
    obtain ⟨_, ⟨c0, c1, c2, c3, c4, c5, c6⟩, cf⟩ := q0
    obtain ⟨_, ⟨z0, z1, z2, z3, z4, z5, z6⟩, zf⟩ := q1
    have y3 := cf 3
    have x0 := zf 0
    have x1 := zf 1
    have x2 := zf 2
    have x3 := zf 3
    have x4 := zf 4
    have x5 := zf 5
    have x6 := zf 6
    clear g0 g1 cf zf HR HB
    go_wp2
    change bodyPost _ _ _ _ _ (put7 (wc.setCell ⟨w.heap.size, 3, none⟩ (.slice ua n uc)) (w.heap.size + 1) (.int .i64 k) (.int .i32 r) (.int .u8 p) (.slice ua n uc) (.string i) (.int .u8 f) (.string d))
    generalize put7 (wc.setCell ⟨w.heap.size, 3, none⟩ (.slice ua n uc)) (w.heap.size + 1) (.int .i64 k) (.int .i32 r) (.int .u8 p) (.slice ua n uc) (.string i) (.int .u8 f) (.string d) = wz at HG1 HRZ HBZ ⊢
    obtain ⟨_, ⟨r0, r1, r2, r3, r4, r5, r6⟩, _⟩ := HG1.out
    exact bodyPost_ret (v := tok7 k r p (.slice ua n uc) i f d) (by simp [results, Tryd.results15, go_sem, r0, r1, r2, r3, r4, r5, r6]) rfl ⟨ua, n, uc, W0.heap.size, rfl, by omega, HRZ.out, HBZ.out⟩
end Go.Proofs.YtclaopidjfekmaaDoor.Lab
