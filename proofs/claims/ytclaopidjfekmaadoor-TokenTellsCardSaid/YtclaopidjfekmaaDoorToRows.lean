/- Rows of numbers, and rows of such rows, that the call itself has made; Csi, Esc. -/
import Derived.Test.YtclaopidjfekmaaDoorToPut
import Derived.Laws.OwnMore
import Derived.OwnWalk
namespace Go.Proofs.YtclaopidjfekmaaDoor.Lab
open Go Go.RowKit

abbrev intsV (r : List Int) : List Value := r.map (Value.int .i64)
theorem getD_snoc_lt {α : Type} (D : List α) (q d : α) {i : Nat} (h : i < D.length) : (D ++ [q]).getD i d = D.getD i d := by
  simp [List.getD_eq_getElem?_getD, List.getElem?_append_left h]
theorem getD_snoc_eq {α : Type} (D : List α) (q d : α) : (D ++ [q]).getD D.length d = q := by
  simp [List.getD_eq_getElem?_getD]
/-- A row of numbers; nil, or not. -/
abbrev NRow (w : World) (lo : Nat) (v : Value) (r : List Int) : Prop := w.ownsRow lo 3 1 v r.length (intsV r)
/-- A row of rows of numbers; nil, or not. -/
def RRow (w : World) (lo : Nat) (v : Value) (R : Rws) : Prop := ∃ us : List Value, w.ownsRow lo 47 1 v R.length us ∧ ∀ i, i < R.length → NRow w lo (us.getD i undef) (R.getD i [])

theorem own_max {w : World} {base : Nat} {e : TypeId} {size n : Nat} {v : Value} {xs : List Value} (h : w.ownsRow base e size v n xs) : n ≤ maxLen := by
  rcases h.2 with ⟨_, h0⟩ | ⟨g, cap, cur, _, _, _, hc, hm, _⟩
  · omega
  · omega
theorem NRow.nums {w : World} {lo : Nat} {v : Value} {r : List Int} (h : NRow w lo v r) : NumsAt w v r := by
  have hm := own_max h
  rcases h.2 with ⟨rfl, h0⟩ | ⟨g, cap, cur, rfl, _⟩
  · obtain rfl : r = [] := List.length_eq_zero_iff.1 h0
    exact NumsAt.nil w
  · refine ⟨_, cap, rfl, hm, fun _ => ⟨_, _, rfl, fun j hj => ?_⟩⟩
    have := h.cells (g := g) rfl j (.int .i64 (r.getD j 0)) (by simp [List.getElem?_eq_getElem hj])
    rwa [Addr.add_mid] at this
theorem RRow.mat {w : World} {lo : Nat} {v : Value} {R : Rws} (h : RRow w lo v R) : MatAt w v R := by
  obtain ⟨us, h, hi⟩ := h
  have hm := own_max h
  have hl : us.length = R.length := by simpa using h.1
  rcases h.2 with ⟨rfl, h0⟩ | ⟨g, cap, cur, rfl, _⟩
  · obtain rfl : R = [] := List.length_eq_zero_iff.1 h0
    exact MatAt.nil w
  · refine ⟨_, cap, rfl, hm, fun _ => ⟨_, _, rfl, fun j hj => ⟨us.getD j undef, ?_, (hi j hj).nums⟩⟩⟩
    have := h.cells (g := g) rfl j (us.getD j undef) (by simp [List.getElem?_eq_getElem (show j < us.length by omega)])
    rwa [Addr.add_mid] at this
theorem own_lower {w : World} {lo lo' : Nat} {e : TypeId} {size n : Nat} {v : Value} {xs : List Value} (h : w.ownsRow lo e size v n xs) (hl : lo' ≤ lo) : w.ownsRow lo' e size v n xs := by
  refine ⟨h.1, ?_⟩
  rcases h.2 with hn | ⟨g, cap, cur, e, hb, rest⟩
  · exact .inl hn
  · exact .inr ⟨g, cap, cur, e, Nat.le_trans hl hb, rest⟩
theorem RRow.below {w w' : World} {lo : Nat} {v : Value} {R : Rws} (h : RRow w lo v R) (hb : Below w.heap.size w w') : RRow w' lo v R := by
  obtain ⟨us, h, hi⟩ := h
  exact ⟨us, row_below h hb, fun i hl => row_below (hi i hl) hb⟩
/-- What lies below the place from which on a world has turned, stands. -/
theorem own_under {w w' : World} {lo B : Nat} {e : TypeId} {size n : Nat} {v : Value} {xs : List Value} (h : w.ownsRow lo e size v n xs) (hv : ∀ g, v.ownBlock = some g → g < B) (hb : Below B w w') : w'.ownsRow lo e size v n xs := by
  rcases h.2 with ⟨rfl, h0⟩ | ⟨g, cap, cur, rfl, hlo, hg, rest⟩
  · exact ⟨h.1, .inl ⟨rfl, h0⟩⟩
  · refine ⟨h.1, .inr ⟨g, cap, cur, rfl, hlo, ?_, rest⟩⟩
    rw [hb.block g (hv g rfl)]
    exact hg
theorem RRow.nil (w : World) (lo : Nat) : RRow w lo (.slice none 0 0) [] := ⟨[], World.ownsRow_nil w lo _ 1, fun i hi => by simp at hi⟩
theorem RRow.lower {w : World} {lo lo' : Nat} {v : Value} {R : Rws} (h : RRow w lo v R) (hl : lo' ≤ lo) : RRow w lo' v R := by
  obtain ⟨us, h, hi⟩ := h
  exact ⟨us, own_lower h hl, fun i hi' => own_lower (hi i hi') hl⟩
/-- A row of rows that grows leaves rows of numbers alone. -/
theorem NRow.apart {w w' : World} {lo base n : Nat} {v u : Value} {r : List Int} {xs : List Value} (h : NRow w lo v r) (ho : w.ownsRow base 47 1 u n xs) (hg : w.grownBy w' u.ownBlock) : NRow w' lo v r := by
  rcases h.2 with ⟨rfl, h0⟩ | ⟨g, cap, cur, rfl, _, hc, _⟩
  · exact ⟨h.1, .inl ⟨rfl, h0⟩⟩
  · refine h.kept hg (.inr fun e => ?_)
    rcases ho.2 with ⟨rfl, _⟩ | ⟨g', cap', cur', rfl, _, hg', _⟩
    · simp [Value.ownBlock] at e
    · simp [Value.ownBlock] at e
      subst e
      rw [hc] at hg'
      simp at hg'
theorem RRow.snoc {w w' : World} {lo : Nat} {v v' u : Value} {R : Rws} {r : List Int} {us : List Value} (h : w.ownsRow lo 47 1 v R.length us) (hi : ∀ i, i < R.length → NRow w lo (us.getD i undef) (R.getD i [])) (hu : NRow w lo u r)
    (ho : w'.ownsRow lo 47 1 v' (R.length + 1) (us ++ [u])) (hg : w.grownBy w' v.ownBlock) : RRow w' lo v' (R ++ [r]) := by
  have hl : us.length = R.length := by simpa using h.1
  refine ⟨us ++ [u], by simpa using ho, fun i hi' => ?_⟩
  have hi2 : i < R.length + 1 := by simpa using hi'
  by_cases e : i < R.length
  · rw [getD_snoc_lt _ _ _ (by omega), getD_snoc_lt _ _ _ e]
    exact (hi i e).apart h hg
  · obtain rfl : i = R.length := by omega
    rw [getD_snoc_eq, ← hl, getD_snoc_eq]
    exact hu.apart h hg
theorem nrow_lit (w : World) (lo n b : Nat) (r : List Int) (hn : n = r.length) (hb : b = w.heap.size) (hlo : lo ≤ w.heap.size) (hm : r.length ≤ maxLen) : NRow (w.alloc (.cells (intsV r).toArray 3)) lo (.slice (some ⟨b, 0, none⟩) n n) r := by
  subst hn hb
  have := World.ownsRow_lit (base := lo) (e := 3) (size := 1) w (intsV r).toArray r.length hlo hm (by simp)
  simpa using this
theorem infoI : (Tryd.prog.info? 47).map (fun i => (i.zero, i.size, i.bytes)) = some (some (.slice none 0 0), 1, 24) := by kernel_rfl

set_option maxHeartbeats 4000000 in
set_option maxRecDepth 100000 in
theorem csi_any (f : Int) (v : Value) (r : List Int) (w : World) (hN : NumsAt w v r) (hn : r.length ≤ 1000) :
    Calls Tryd.prog 35 #[.int .u8 f, v] w fun e w' => ∃ va vn vc, e = .returned (tok7 3 0 0 (.slice va vn vc) ⟨#[]⟩ f ⟨#[]⟩) ∧ MatAt w' (.slice va vn vc) (r.map fun x => [x]) ∧ Below w.heap.size w w' := by
  obtain ⟨a, cp, rfl, _, hc⟩ := hN
  obtain ⟨n, hnn⟩ : ∃ n, r.length = n := ⟨_, rfl⟩
  rw [hnn] at hc hn ⊢
  have HC := Lib.hid hc
  have HN := Lib.hid hnn
  obtain ⟨ib, hi, hz0, hz1, hz2⟩ := info_parts infoI
  have T0 := Lib.hid (T7.newAt w w.heap.size rfl (.int .i64 0) (.int .i32 0) (.int .u8 0) (.slice none 0 0) (.string ⟨#[]⟩) (.int .u8 0) (.string ⟨#[]⟩) 27)
  have B0 := Lib.hid (show Below w.heap.size w (w.alloc (.cells #[.int .i64 0, .int .i32 0, .int .u8 0, .slice none 0 0, .string ⟨#[]⟩, .int .u8 0, .string ⟨#[]⟩] 27)) from (Below.refl _ _).alloc (Nat.le_refl _) _)
  clear hc hnn
  go_enter Tryd.func35, Tryd.ntmps35
  go_wp2
  obtain ⟨W0, hW0⟩ : ∃ W0, W0 = w.alloc (.cells #[.int .i64 0, .int .i32 0, .int .u8 0, .slice none 0 0, .string ⟨#[]⟩, .int .u8 0, .string ⟨#[]⟩] 27) := ⟨_, rfl⟩
  rw [← hW0] at T0 B0 ⊢
  have HS0 := Lib.hid (show W0.heap.size = w.heap.size + 1 by rw [hW0]; simp)
  clear hW0
  go_loopw [5, 10] (fun vl i wr => ∃ k : Nat, k ≤ n ∧ i = .int .i64 k ∧ Hid (RRow wr W0.heap.size vl ((r.take k).map fun x => [x])) ∧ Hid (Below W0.heap.size W0 wr)) (fun _ i _ => n - (intOf i).toNat)
  case atStart => exact ⟨0, Nat.zero_le _, rfl, Lib.hid (RRow.nil _ _), Lib.hid (Below.refl _ _)⟩
  case round =>
    obtain ⟨wo, rfl⟩ : ∃ wo : World, wo = wr := ⟨_, rfl⟩
    obtain ⟨k, hk, rfl, HR, HB⟩ := hrel
    have HB1 := Lib.hid (B0.out.trans (HB.out.mono B0.out.size))
    by_cases hlt : k < n
    · obtain ⟨g, o, ha, hcell⟩ := HC.out (by omega)
      have c1 := Keeps.of HB1.out _ _ _ (hcell k hlt)
      have HX := Lib.hid (take_at' r 0 (k := k) (by rw [HN.out]; exact hlt))
      obtain ⟨x, hx⟩ : ∃ x, r.getD k 0 = x := ⟨_, rfl⟩
      rw [hx] at HX c1
      have HLK := Lib.hid (show ((r.take k).map fun x => [x]).length = k by rw [List.length_map, List.length_take, HN.out]; omega)
      clear hcell hx
      subst ha
      obtain ⟨us, ho, hrow⟩ := HR.out
      rw [HLK.out] at ho
      have hs := HB.out.size
      have b2 : Below wo.heap.size wo (wo.alloc (.cells #[.int .i64 x] 3)) := (Below.refl _ _).alloc (Nat.le_refl _) _
      have b3 : Below wo.heap.size wo ((wo.alloc (.cells #[.int .i64 x] 3)).alloc (.cells #[.slice (some ⟨wo.heap.size, 0, none⟩) 1 1] 47)) := b2.alloc (by simp) _
      have ho2 := row_below ho b3
      have hrow2 := Lib.hid (fun i (hi : i < ((r.take k).map fun x => [x]).length) => row_below (hrow i hi) b3)
      have hx2 := Lib.hid (row_below (nrow_lit wo W0.heap.size 1 wo.heap.size [x] rfl rfl hs (by simp [maxLen])) ((Below.refl _ _).alloc (Nat.le_refl _) (.cells #[.slice (some ⟨wo.heap.size, 0, none⟩) 1 1] 47)))
      have HB3 := Lib.hid b3
      clear hrow b2 b3
      go_wp2_with (at_builtin; refine wpList_append_own _ rfl (.tmp 14) (.tmp 17) 25 rfl W0.heap.size 47 ib (.slice none 0 0) 1 24 Tryd.underlying25 hi hz0 hz1 hz2 rfl (by decide) _ k us rfl ho2 ⟨wo.heap.size + 1, 0, none⟩ 1 1 [.slice (some ⟨wo.heap.size, 0, none⟩) 1 1] rfl rfl ?c1 ?c2 ?c3 ?c4 ?c5 ?_)
      case c1 => exact new_cells (wo.alloc (.cells #[.int .i64 x] 3)) [.slice (some ⟨wo.heap.size, 0, none⟩) 1 1] 47 _ (by simp)
      case c2 => simp [Value.oneCell']
      case c3 => unfold maxLen; omega
      case c4 => omega
      case c5 => simp; omega
      intro v' w3 own3 grow3 _
      have HB4 := Lib.hid ((HB.out.trans (HB3.out.mono hs)).grown grow3 (by simp; omega) (fun j hj => (ho2.lt j hj).1))
      have HR4 := Lib.hid (show RRow w3 W0.heap.size v' ((r.take (k + 1)).map fun x => [x]) by
        rw [HX.out, List.map_append]
        refine RRow.snoc (us := us) (by rw [HLK.out]; exact ho2) hrow2.out hx2.out (by rw [HLK.out]; exact own3) grow3)
      clear own3 grow3 ho2 ho hrow2 hx2
      go_wp2
      go_roundw
      case rel => exact ⟨k + 1, by omega, by go_num, HR4, HB4⟩
      case measure => simp [intOf]; omega
    · have HTK := Lib.hid (show r.take k = r from List.take_of_length_le (by rw [HN.out]; omega))
      have hR := HR.out
      rw [HTK.out] at hR
      have HMT := Lib.hid hR.mat
      obtain ⟨va, vc, rfl, _⟩ := HMT.out
      have T1 := T0.out.below HB.out
      have P2 := Lib.hid (T1.put (.int .i64 3) (.int .i32 0) (.int .u8 0) (.slice va (r.map fun x => [x]).length vc) (.string ⟨#[]⟩) (.int .u8 f) (.string ⟨#[]⟩))
      have BP := Lib.hid (put7_below HB1.out (b := w.heap.size) (Nat.le_refl _) (.int .i64 3) (.int .i32 0) (.int .u8 0) (.slice va (r.map fun x => [x]).length vc) (.string ⟨#[]⟩) (.int .u8 f) (.string ⟨#[]⟩))
      obtain ⟨_, ⟨z0, z1, z2, z3, z4, z5, z6⟩, zf⟩ := T1
      have g0 := zf 0
      have g1 := zf 1
      have g2 := zf 2
      have g3 := zf 3
      have g4 := zf 4
      have g5 := zf 5
      have g6 := zf 6
      have HMZ := Lib.hid (show MatAt (put7 wo w.heap.size (.int .i64 3) (.int .i32 0) (.int .u8 0) (.slice va (r.map fun x => [x]).length vc) (.string ⟨#[]⟩) (.int .u8 f) (.string ⟨#[]⟩)) (.slice va (r.map fun x => [x]).length vc) (r.map fun x => [x]) by
        have h1 : RRow wo W0.heap.size (.slice va (r.map fun x => [x]).length vc) (r.map fun x => [x]) := hR
        have b := put7_below (Below.refl w.heap.size wo) (Nat.le_refl w.heap.size) (.int .i64 3) (.int .i32 0) (.int .u8 0) (.slice va (r.map fun x => [x]).length vc) (.string ⟨#[]⟩) (.int .u8 f) (.string ⟨#[]⟩)
        obtain ⟨us, ho, hrow⟩ := h1
        have hput : wo.grownBy (put7 wo w.heap.size (.int .i64 3) (.int .i32 0) (.int .u8 0) (.slice va (r.map fun x => [x]).length vc) (.string ⟨#[]⟩) (.int .u8 f) (.string ⟨#[]⟩)) (some w.heap.size) :=
          ⟨b.os, b.tape, b.output, b.size, fun j _ hj => put7_heap wo w.heap.size j _ _ _ _ _ _ _ (fun e => hj (by rw [e]))⟩
        have keep : ∀ {e : TypeId} {n : Nat} {u : Value} {xs : List Value}, wo.ownsRow W0.heap.size e 1 u n xs → (put7 wo w.heap.size (.int .i64 3) (.int .i32 0) (.int .u8 0) (.slice va (r.map fun x => [x]).length vc) (.string ⟨#[]⟩) (.int .u8 f) (.string ⟨#[]⟩)).ownsRow W0.heap.size e 1 u n xs := by
          intro e n u xs h
          refine h.kept hput (.inr fun e => ?_)
          have h3 := (h.lt w.heap.size e).1
          have := HS0.out
          omega
        exact RRow.mat ⟨us, keep ho, fun i hi => keep (hrow i hi)⟩)
      generalize (r.map fun x => [x]).length = m at *
      clear hR
      go_wp2
      change bodyPost _ _ _ _ _ (put7 wo w.heap.size (.int .i64 3) (.int .i32 0) (.int .u8 0) (.slice va m vc) (.string ⟨#[]⟩) (.int .u8 f) (.string ⟨#[]⟩))
      generalize put7 wo w.heap.size (.int .i64 3) (.int .i32 0) (.int .u8 0) (.slice va m vc) (.string ⟨#[]⟩) (.int .u8 f) (.string ⟨#[]⟩) = wz at P2 BP HMZ ⊢
      obtain ⟨_, ⟨r0, r1, r2, r3, r4, r5, r6⟩, _⟩ := P2.out
      exact bodyPost_ret (v := tok7 3 0 0 (.slice va m vc) ⟨#[]⟩ f ⟨#[]⟩) (by simp [results, Tryd.results35, go_sem, r0, r1, r2, r3, r4, r5, r6]) rfl ⟨va, m, vc, rfl, HMZ.out, BP.out⟩

set_option maxHeartbeats 1000000 in
theorem esc_any (i : ByteArray) (f : Int) (w : World) : Calls Tryd.prog 36 #[.string i, .int .u8 f] w fun e w' => e = .returned (tok7 2 0 0 (.slice none 0 0) i f ⟨#[]⟩) ∧ Below w.heap.size w w' := by
  go_enter Tryd.func36, Tryd.ntmps36
  go_wp2
  exact bodyPost_ret (v := tok7 2 0 0 (.slice none 0 0) i f ⟨#[]⟩) (by simp [results, Tryd.results36, go_sem]) rfl ⟨rfl, (Below.refl _ _).alloc (Nat.le_refl _) _⟩
end Go.Proofs.YtclaopidjfekmaaDoor.Lab
