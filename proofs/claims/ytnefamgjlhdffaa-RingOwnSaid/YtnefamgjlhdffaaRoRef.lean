/- The reference's bare, own, within, New; cells that lie anywhere, appended to a row of the call's own. -/
import Derived.Test.YtnefamgjlhdffaaRoMem
import Derived.Deep.CutBlock
import Derived.Deep.DeepCutAuto
namespace Go.Proofs.Ytnefamgjlhdffaa.Lab
open Go Go.RowKit

theorem infoCell : (Try.prog.info? 47).map (fun i => (i.zero, i.size, i.bytes)) = some (some (.agg #[.int .i32 0, .int .i32 0, .int .i32 0, .int .u8 0, .int .u8 0, .int .u8 0, .int .u8 0, .int .u8 0, .int .u8 0, .int .u8 0, .int .u8 0, .int .u8 0, .int .u16 0, .int .u8 0]), 14, 28) := by kernel_rfl
theorem C14.get {w : World} {g o : Nat} {c : Cel} (h : C14 w g o c) : ∀ j u, (cells14 c)[j]? = some u → w.cell? ⟨g, o + j, none⟩ = some u := by
  obtain ⟨h0, h1, h2, h3, h4, h5, h6, h7, h8, h9, h10, h11, h12, h13⟩ := h
  intro j u hu
  have hj : j < 14 := (List.getElem?_eq_some_iff.1 hu).1
  match j, hj with
  | 0, _ => obtain rfl := Option.some.inj hu; exact h0
  | 1, _ => obtain rfl := Option.some.inj hu; exact h1
  | 2, _ => obtain rfl := Option.some.inj hu; exact h2
  | 3, _ => obtain rfl := Option.some.inj hu; exact h3
  | 4, _ => obtain rfl := Option.some.inj hu; exact h4
  | 5, _ => obtain rfl := Option.some.inj hu; exact h5
  | 6, _ => obtain rfl := Option.some.inj hu; exact h6
  | 7, _ => obtain rfl := Option.some.inj hu; exact h7
  | 8, _ => obtain rfl := Option.some.inj hu; exact h8
  | 9, _ => obtain rfl := Option.some.inj hu; exact h9
  | 10, _ => obtain rfl := Option.some.inj hu; exact h10
  | 11, _ => obtain rfl := Option.some.inj hu; exact h11
  | 12, _ => obtain rfl := Option.some.inj hu; exact h12
  | 13, _ => obtain rfl := Option.some.inj hu; exact h13
theorem RowIn.get {w : World} {g o : Nat} {R : Cls} (hC : ∀ i, i < R.length → C14 w g (o + i * 14) (gc R i)) : ∀ j u, (flat14 R)[j]? = some u → w.cell? ⟨g, o + j, none⟩ = some u := by
  intro j u hu
  have hj : j < (flat14 R).length := (List.getElem?_eq_some_iff.1 hu).1
  rw [flat14_len] at hj
  have e : j = j / 14 * 14 + j % 14 := by omega
  have hi : j / 14 < R.length := by omega
  rw [e, flat14_get R _ _ hi (by omega)] at hu
  have := (hC _ hi).get _ u hu
  rwa [show o + j / 14 * 14 + j % 14 = o + j by omega] at this
section
variable {P : Program}
theorem run_append_none_c {w : World} (base : Nat) (t ty e : TypeId) (i : TypeInfo) (size c : Nat) (ht : P.underlying t = some (.slice e)) (hi : P.info? e = some i)
    (v : Value) (n : Nat) (xs : List Value) (hown : w.ownsRow base e size v n xs) :
    (Builtin.append_ #[t, t] ty #[v, .slice none 0 c]).run P w = .ok v w := by
  rcases hown.2 with ⟨rfl, rfl⟩ | ⟨g, cap, cur, rfl, _, _, hnc, _⟩
  · simp [Builtin.append_, run_underlying ht, sizeOf, typeInfo, hi, Builtin.lenOf, Builtin.firstCells]
  · simp [Builtin.append_, run_underlying ht, sizeOf, typeInfo, hi, Builtin.lenOf, Builtin.firstCells, hnc, storeCells]
end
/-- Cells that lie anywhere, appended to a row of the call's own. -/
theorem wp_append_cells {o : Oper} {a : Act} {w : World} {K : Act → World → Prop} {Q : Exit → Act → World → Prop} (s x : Operand)
    (hop : o.op = Op.call { callee := Callee.builtin Builtin.append, args := #[s, x], argTypes := #[38, 38] })
    (lo : Nat) (v : Value) (S : Cls) (hs : a.eval s = v) (hown : CRow w lo v S)
    (u : Value) (R : Cls) (hx : a.eval x = u) (hr : RowIn w u R) (hnr : S.length + R.length ≤ 100000) (hb : lo ≤ w.heap.size)
    (hK : ∀ v' w', CRow w' lo v' (S ++ R) → (v' = .slice none 0 0 ↔ v = .slice none 0 0 ∧ R.length = 0) → w.grownBy w' v.ownBlock → K (a.put o.dst v') w') :
    Oper.wp Try.prog o a w K Q := by
  obtain ⟨ib, hi, hz0, hz1, hz2⟩ := info_parts infoCell
  obtain ⟨ua, uc, e, _, _, hh⟩ := hr
  subst e
  cases ua with
  | none =>
    have h0 : R = [] := by
      by_cases h : 0 < R.length
      · obtain ⟨_, _, e, _⟩ := hh h
        cases e
      · exact List.length_eq_zero_iff.1 (by omega)
    subst h0
    have hrun := run_append_none_c (P := Try.prog) (w := w) lo 38 o.type 47 ib 14 uc Try.underlying38 hi v _ _ hown
    unfold Oper.wp
    simp only [List.length_nil] at hx
    simp [execOp, hop, resolve, invoke, builtin, hs, hx, hrun, Result.andThen]
    exact hK v w (by simpa using hown) (by simp) ⟨rfl, rfl, rfl, Nat.le_refl _, fun _ _ _ => rfl⟩
  | some ad =>
    refine wp_append_own w s x 38 hop lo 47 ib (.agg #[.int .i32 0, .int .i32 0, .int .i32 0, .int .u8 0, .int .u8 0, .int .u8 0, .int .u8 0, .int .u8 0, .int .u8 0, .int .u8 0, .int .u8 0, .int .u8 0, .int .u16 0, .int .u8 0]) 14 28 Try.underlying38 hi hz0 hz1 hz2 rfl (by decide) v S.length (flat14 S) hs hown ad R.length uc (flat14 R) hx (flat14_len R) (fun j y hj => ?_) (flat14_one R) (by unfold maxLen; omega) (by omega) hb (fun v' w' h1 h2 h3 => ?_)
    · have hjl : 0 < R.length := by
        have := (List.getElem?_eq_some_iff.1 hj).1
        rw [flat14_len] at this
        omega
      obtain ⟨g, o', e, _, hC⟩ := hh hjl
      obtain rfl := Option.some.inj e
      rw [Addr.add_mid]
      exact RowIn.get hC j y hj
    · refine hK v' w' ?_ h3 h2
      unfold CRow
      rw [List.length_append, flat14_append]
      exact h1
theorem wpList_append_cells {ops : Array Oper} {rest : List Oper} {o : Oper} {a : Act} {w : World} {Q : Exit → Act → World → Prop} (hgd : o.guard = none) (s x : Operand)
    (hop : o.op = Op.call { callee := Callee.builtin Builtin.append, args := #[s, x], argTypes := #[38, 38] })
    (lo : Nat) (v : Value) (S : Cls) (hs : a.eval s = v) (hown : CRow w lo v S)
    (u : Value) (R : Cls) (hx : a.eval x = u) (hr : RowIn w u R) (hnr : S.length + R.length ≤ 100000) (hb : lo ≤ w.heap.size)
    (hK : ∀ v' w', CRow w' lo v' (S ++ R) → (v' = .slice none 0 0 ↔ v = .slice none 0 0 ∧ R.length = 0) → w.grownBy w' v.ownBlock → wpList Try.prog ops Q rest (a.put o.dst v') w') :
    wpList Try.prog ops Q (o :: rest) a w :=
  wpList_plain hgd fun _ hK' => wp_append_cells s x hop lo v S hs hown u R hx hr hnr hb fun v' w' h1 h2 h3 => hK' _ _ (hK v' w' h1 h2 h3)
theorem CRow.empty (w : World) (lo : Nat) (h : lo ≤ w.heap.size) : CRow (w.alloc (.cells #[] 47)) lo (.slice (some ⟨w.heap.size, 0, none⟩) 0 0) [] := World.ownsRow_lit (e := 47) (base := lo) (size := 14) w #[] 0 h (Nat.zero_le _) rfl
/-- One cell that has just been laid, as it can be read. -/
theorem RowIn.one (w : World) (n : Nat) (hn : n = w.heap.size) (c : Cel) : RowIn (w.alloc (.cells #[.int .i32 c.ru, .int .i32 c.m0, .int .i32 c.m1, .int .u8 c.k, .int .u8 c.a.fg.k, .int .u8 c.a.fg.r, .int .u8 c.a.fg.g, .int .u8 c.a.fg.b, .int .u8 c.a.bg.k, .int .u8 c.a.bg.r, .int .u8 c.a.bg.g, .int .u8 c.a.bg.b, .int .u16 (c.a.fl : Nat), .int .u8 c.l] 47)) (.slice (some ⟨n, 0, none⟩) 1 1) [c] := by
  have h := BAt.newAt w n hn c 47
  refine ⟨_, 1, rfl, by simp, by simp [maxLen], fun _ => ⟨n, 0, rfl, h.1, fun i hi => ?_⟩⟩
  obtain rfl : i = 0 := by simpa using hi
  exact h.2.1

set_option maxHeartbeats 4000000 in
theorem rbare_any (w : World) (c : Cel) : Calls Try.prog 74 #[celV c] w fun e w' => e = .returned (celV c.bare) ∧ Below w.heap.size w w' := by
  obtain ⟨w0, hw0⟩ : ∃ w0, w0 = (w.alloc (.cells #[.int .i32 c.ru, .int .i32 c.m0, .int .i32 c.m1, .int .u8 c.k, .int .u8 c.a.fg.k, .int .u8 c.a.fg.r, .int .u8 c.a.fg.g, .int .u8 c.a.fg.b, .int .u8 c.a.bg.k, .int .u8 c.a.bg.r, .int .u8 c.a.bg.g, .int .u8 c.a.bg.b, .int .u16 (c.a.fl : Nat), .int .u8 c.l] 47)).alloc (.cells #[.int .i32 0, .int .i32 0, .int .i32 0, .int .u8 0, .int .u8 0, .int .u8 0, .int .u8 0, .int .u8 0, .int .u8 0, .int .u8 0, .int .u8 0, .int .u8 0, .int .u16 0, .int .u8 0] 47) := ⟨_, rfl⟩
  have b0 : Below w.heap.size w w0 := by rw [hw0]; exact ((Below.refl _ _).alloc (Nat.le_refl _) _).alloc (by simp) _
  have HA := Lib.hid (show BAt w0 w.heap.size c by rw [hw0]; exact (BAt.newAt w _ rfl c _).past _)
  have HZ := Lib.hid (show BAt w0 (w.heap.size + 1) Cel.z by rw [hw0]; exact BAt.newAt _ _ (by simp) Cel.z _)
  obtain ⟨wq, hwq⟩ : ∃ wq, wq = put14 w0 (w.heap.size + 1) 0 c.bare := ⟨_, rfl⟩
  have Z := Lib.hid (show BAt wq (w.heap.size + 1) c.bare by rw [hwq]; exact HZ.out.put _)
  have HB := Lib.hid (show Below w.heap.size w wq by rw [hwq]; exact b0.trans ((put14_but w0 (w.heap.size + 1) 0 c.bare).below (C := w.heap.size) (by omega) b0.size))
  replace hwq : wq = (((((((((((((w0.setCell ⟨w.heap.size + 1, 0, none⟩ (.int .i32 0)).setCell ⟨w.heap.size + 1, 1, none⟩ (.int .i32 0)).setCell ⟨w.heap.size + 1, 2, none⟩ (.int .i32 0)).setCell ⟨w.heap.size + 1, 3, none⟩ (.int .u8 0)).setCell ⟨w.heap.size + 1, 4, none⟩ (.int .u8 c.a.fg.k)).setCell ⟨w.heap.size + 1, 5, none⟩ (.int .u8 c.a.fg.r)).setCell ⟨w.heap.size + 1, 6, none⟩ (.int .u8 c.a.fg.g)).setCell ⟨w.heap.size + 1, 7, none⟩ (.int .u8 c.a.fg.b)).setCell ⟨w.heap.size + 1, 8, none⟩ (.int .u8 c.a.bg.k)).setCell ⟨w.heap.size + 1, 9, none⟩ (.int .u8 c.a.bg.r)).setCell ⟨w.heap.size + 1, 10, none⟩ (.int .u8 c.a.bg.g)).setCell ⟨w.heap.size + 1, 11, none⟩ (.int .u8 c.a.bg.b)).setCell ⟨w.heap.size + 1, 12, none⟩ (.int .u16 (c.a.fl : Nat))).setCell ⟨w.heap.size + 1, 13, none⟩ (.int .u8 c.l) := hwq
  clear b0
  go_enter Try.func74, Try.ntmps74
  go_upto_region 1 with (fail)
  rw [← hw0]
  clear hw0
  obtain ⟨_, ⟨y0, y1, y2, y3, y4, y5, y6, y7, y8, y9, y10, y11, y12, y13⟩, _⟩ := HA.out
  obtain ⟨_, ⟨z0, z1, z2, z3, z4, z5, z6, z7, z8, z9, z10, z11, z12, z13⟩, zf⟩ := HZ.out
  dsimp only at z0 z1 z2 z3 z4 z5 z6 z7 z8 z9 z10 z11 z12 z13
  go_wp2
  rw [← hwq]
  clear hwq y0 y1 y2 y3 y4 y5 y6 y7 y8 y9 y10 y11 y12 y13 z0 z1 z2 z3 z4 z5 z6 z7 z8 z9 z10 z11 z12 z13 zf
  obtain ⟨_, ⟨k0, k1, k2, k3, k4, k5, k6, k7, k8, k9, k10, k11, k12, k13⟩, _⟩ := Z.out
  dsimp only [Cel.bare] at k0 k1 k2 k3 k4 k5 k6 k7 k8 k9 k10 k11 k12 k13
  exact bodyPost_ret (v := celV c.bare) (by simp [results, Try.results74, go_sem, Cel.bare, k0, k1, k2, k3, k4, k5, k6, k7, k8, k9, k10, k11, k12, k13]) rfl ⟨rfl, HB.out⟩
theorem rwithin_any (w : World) (n : Int) (most : Nat) : Calls Try.prog 73 #[.int .i64 n, .int .i64 0, .int .i64 (most : Nat)] w fun e w' => e = .returned (.int .i64 (inN n most : Nat)) ∧ w = w' := by
  by_cases h1 : (most : Int) < n
  · by_cases h0 : 0 < most
    · have g1 : (0 : Int) < (most : Int) := by omega
      have g2 : ¬ n ≤ (most : Int) := by omega
      have g3 : ¬ (most : Int) ≤ 0 := by omega
      have HE := Lib.hid (show ((inN n most : Nat) : Int) = (most : Int) by unfold inN; omega)
      go_enter Try.func73, Try.ntmps73
      go_wp2
      go_ret
      exact ⟨by rw [HE.out]; rfl, rfl⟩
    · obtain rfl : most = 0 := by omega
      have HE := Lib.hid (show ((inN n 0 : Nat) : Int) = 0 by unfold inN; omega)
      go_enter Try.func73, Try.ntmps73
      go_wp2
      go_ret
      exact ⟨by rw [HE.out]; rfl, rfl⟩
  · have g1 : n ≤ (most : Int) := by omega
    by_cases h0 : 0 < n
    · have g3 : ¬ n ≤ 0 := by omega
      have HE := Lib.hid (show ((inN n most : Nat) : Int) = n by unfold inN; omega)
      go_enter Try.func73, Try.ntmps73
      go_wp2
      go_ret
      exact ⟨by rw [HE.out]; rfl, rfl⟩
    · have g3 : n ≤ 0 := by omega
      have HE := Lib.hid (show ((inN n most : Nat) : Int) = 0 by unfold inN; omega)
      go_enter Try.func73, Try.ntmps73
      go_wp2
      go_ret
      exact ⟨by rw [HE.out]; rfl, rfl⟩
def OwnOut (w : World) (R : Cls) (e : Ending) (w' : World) : Prop := ∃ v, e = .returned v ∧ CRow w' w.heap.size v R ∧ v ≠ .slice none 0 0 ∧ Below w.heap.size w w'
set_option maxHeartbeats 4000000 in
theorem rown_any (w : World) (v : Value) (R : Cls) (h : RowIn w v R) (hl : R.length ≤ 10000) : Calls Try.prog 65 #[v] w (OwnOut w R) := by
  obtain ⟨a, c, rfl⟩ := h.shape
  obtain ⟨n, hn⟩ : ∃ n, n = R.length := ⟨_, rfl⟩
  obtain ⟨w1, hw1⟩ : ∃ w1, w1 = w.alloc (.cells #[] 47) := ⟨_, rfl⟩
  have b1 : Below w.heap.size w w1 := by rw [hw1]; exact (Below.refl _ _).alloc (Nat.le_refl _) _
  have HE := Lib.hid (show CRow w1 w.heap.size (.slice (some ⟨w.heap.size, 0, none⟩) 0 0) [] by rw [hw1]; exact CRow.empty w _ (Nat.le_refl _))
  have HR := Lib.hid (h.below b1)
  have HB := Lib.hid b1
  rw [← hn] at HR ⊢
  have HNL := Lib.hid hn
  clear h b1 hn
  go_enter Try.func65, Try.ntmps65
  go_wp2_with (at_builtin; rw [← hw1]; clear hw1; refine wpList_append_cells rfl (.tmp 3) (.tmp 4) rfl w.heap.size (.slice (some ⟨w.heap.size, 0, none⟩) 0 0) [] rfl HE.out (.slice a n c) R rfl HR.out (by simp; omega) HB.out.size ?_)
  intro v' w2 own2 hnil grow2
  have HO := Lib.hid (show CRow w2 w.heap.size v' R from own2)
  have HV := Lib.hid (show v' ≠ .slice none 0 0 by first | exact hnil | exact fun e => by have := (hnil.1 e).1; simp at this)
  have HB2 := Lib.hid (show Below w.heap.size w w2 from HB.out.grown grow2 HB.out.size (fun j hj => by simp [Value.ownBlock] at hj; omega))
  clear own2 hnil grow2
  go_wp2
  go_ret
  exact ⟨v', rfl, HO.out, HV.out, HB2.out⟩
set_option maxHeartbeats 4000000 in
theorem rnew_any (w : World) (cols : Int) (c : Cel) (hc : cols ≤ 10000) : Calls Try.prog 17 #[.int .i64 cols, celV c] w fun e w' => ∃ v, e = .returned v ∧ CRow w' w.heap.size v (newM cols.toNat c) ∧ Below w.heap.size w w' := by
  obtain ⟨w0, hw0⟩ : ∃ w0, w0 = w.alloc (.cells #[.int .i32 c.ru, .int .i32 c.m0, .int .i32 c.m1, .int .u8 c.k, .int .u8 c.a.fg.k, .int .u8 c.a.fg.r, .int .u8 c.a.fg.g, .int .u8 c.a.fg.b, .int .u8 c.a.bg.k, .int .u8 c.a.bg.r, .int .u8 c.a.bg.g, .int .u8 c.a.bg.b, .int .u16 (c.a.fl : Nat), .int .u8 c.l] 47) := ⟨_, rfl⟩
  have b0 : Below w.heap.size w w0 := by rw [hw0]; exact (Below.refl _ _).alloc (Nat.le_refl _) _
  have HA0 := Lib.hid (show BAt w0 w.heap.size c by rw [hw0]; exact BAt.newAt w _ rfl c _)
  have HB0 := Lib.hid b0
  have HS0 := Lib.hid (show w.heap.size + 1 ≤ w0.heap.size by rw [hw0]; simp)
  obtain ⟨n, hn⟩ : ∃ n, n = cols.toNat := ⟨_, rfl⟩
  have HN := Lib.hid hn
  have hn1 : n ≤ 10000 := by omega
  have hcl : ∀ k : Nat, k < n → (k : Int) < cols := fun k hk => by omega
  have hcg : ¬ (n : Int) < cols := by omega
  have HCL := Lib.hid hcl
  clear b0 hn hcl
  go_enter Try.func17, Try.ntmps17
  go_upto_region 1 with (fail)
  rw [← hw0]
  clear hw0
  go_wp2
  go_loopg [5, 6] n (fun G v i wr => ∃ k : Nat, i = .int .i64 k ∧ k ≤ n ∧ n - k ≤ G ∧ Hid (CRow wr (w.heap.size + 1) v (newM k c)) ∧ Hid (BAt wr w.heap.size c) ∧ Hid (Below w.heap.size w wr) ∧ Hid (w.heap.size + 1 ≤ wr.heap.size))
  case atStart => exact ⟨0, rfl, Nat.zero_le _, Nat.sub_le _ _, Lib.hid (CRow.nil _ _), HA0, HB0, HS0⟩
  case round =>
    obtain ⟨k, rfl, hkn, hgk, HR, HA, HB, HS⟩ := hrel
    clear HA0 HB0 HS0
    by_cases hlt : k < n
    · have d1 : (k : Int) < cols := HCL.out k hlt
      obtain ⟨_, ⟨y0, y1, y2, y3, y4, y5, y6, y7, y8, y9, y10, y11, y12, y13⟩, _⟩ := HA.out
      obtain ⟨w1, hw1⟩ : ∃ w1, w1 = wr.alloc (.cells #[.int .i32 c.ru, .int .i32 c.m0, .int .i32 c.m1, .int .u8 c.k, .int .u8 c.a.fg.k, .int .u8 c.a.fg.r, .int .u8 c.a.fg.g, .int .u8 c.a.fg.b, .int .u8 c.a.bg.k, .int .u8 c.a.bg.r, .int .u8 c.a.bg.g, .int .u8 c.a.bg.b, .int .u16 (c.a.fl : Nat), .int .u8 c.l] 47) := ⟨_, rfl⟩
      have b1 : Below wr.heap.size wr w1 := by rw [hw1]; exact (Below.refl _ _).alloc (Nat.le_refl _) _
      have HIN := Lib.hid (show RowIn w1 (.slice (some ⟨wr.heap.size, 0, none⟩) 1 1) [c] by rw [hw1]; exact RowIn.one wr _ rfl c)
      have HR1 := Lib.hid (HR.out.below b1)
      have HA1 := Lib.hid (HA.out.below b1)
      have HB1 := Lib.hid (HB.out.trans (b1.mono HB.out.size))
      have HS1 := Lib.hid (Nat.le_trans HS.out b1.size)
      have hlen : (newM k c).length + [c].length ≤ 100000 := by simp [newM]; omega
      clear b1 HR HA HB HS hcg
      go_wp2_with (at_builtin; rw [← hw1]; clear hw1; refine wpList_append_cells rfl (.tmp 12) (.tmp 14) rfl (w.heap.size + 1) u5 (newM k c) rfl HR1.out _ [c] rfl HIN.out hlen HS1.out ?_)
      intro v' w2 own2 hnil grow2
      have hlt2 : ∀ j, u5.ownBlock = some j → w.heap.size + 1 ≤ j := fun j hj => (HR1.out.lt j hj).1
      have HR2 := Lib.hid (show CRow w2 (w.heap.size + 1) v' (newM (k + 1) c) by
        have e : newM (k + 1) c = newM k c ++ [c] := by unfold newM; rw [List.replicate_succ']
        rw [e]
        exact own2)
      have HA2 := Lib.hid (show BAt w2 w.heap.size c from HA1.out.same grow2.size (grow2.block _ HA1.out.1 (fun e => by have := hlt2 _ e.symm; omega)))
      have HB2 := Lib.hid (HB1.out.grown grow2 HB1.out.size (fun j hj => by have := hlt2 j hj; omega))
      have HS2 := Lib.hid (Nat.le_trans HS1.out grow2.size)
      clear own2 hnil grow2 hlt2 HR1 HA1 HB1 HS1 HIN y0 y1 y2 y3 y4 y5 y6 y7 y8 y9 y10 y11 y12 y13
      go_wp2
      go_roundg (n - (k + 1))
      case rel => exact ⟨k + 1, by go_num, by omega, Nat.le_refl _, HR2, HA2, HB2, HS2⟩
      case measure => omega
    · have hkn' : k = n := by omega
      subst hkn'
      have d1 : ¬ (k : Int) < cols := by omega
      go_wp2
      go_ret
      exact ⟨u5, rfl, by rw [← HN.out]; exact HR.out.lower (Nat.le_succ _), HB.out⟩
end Go.Proofs.Ytnefamgjlhdffaa.Lab
