/- The Go law LabelLattice returns true for every three numbers and every row of them, and writes nothing that was there. -/
import Derived.Test.YteelegmpadfoeaaLatRel
import Derived.Deep.DeepCutAuto
import Derived.Deep.LoopGhost
import Derived.WalkSmall
namespace Go.Proofs.Yteelegmpadfoeaa.Lab
open Go.RowKit Go.ChangeShapes Go.WideShapes Go.ChangeAt

theorem two_q (n : Int) (w : World) (h0 : 0 ≤ n) : Calls Try.prog 24 #[.int .u8 n] w fun e w' => e = .returned (.int .u8 (n % 2)) ∧ w' = w := (two_any n w h0).mono fun _ _ ⟨h, k⟩ => ⟨h, k.symm⟩

theorem lv3 (w : World) (n : Nat) (x y z : Int) (T : TypeId) (hn : n = w.heap.size) : Lv (w.alloc (.cells #[.int .u8 x, .int .u8 y, .int .u8 z] T)) (some ⟨n, 0, none⟩) 3 [x, y, z] :=
  ⟨rfl, by omega, fun _ => ⟨n, 0, rfl, fun i hi => by
    rw [World.cell?_alloc_at _ _ _ _ hn]
    match i, hi with
    | 0, _ => rfl
    | 1, _ => rfl
    | 2, _ => rfl⟩⟩

def jv (x y : Int) : Int := joinV [x, y]
def mv (x y : Int) : Int := meetV [x, y]
theorem join2 (x y : Int) (n : Nat) (w : World) (hn : n = w.heap.size) : Calls Try.prog 10 #[.slice (some ⟨n, 0, none⟩) 2 2] (w.alloc (.cells #[.int .u8 x, .int .u8 y] 25)) fun e w' => e = .returned (.int .u8 (jv x y)) ∧ Below w.heap.size w w' :=
  (join_any _ _ _ _ _ (lv2 w n x y _ hn)).mono fun _ _ ⟨h, k⟩ => ⟨h, k ▸ below1 w _⟩
theorem meet2 (x y : Int) (n : Nat) (w : World) (hn : n = w.heap.size) : Calls Try.prog 12 #[.slice (some ⟨n, 0, none⟩) 2 2] (w.alloc (.cells #[.int .u8 x, .int .u8 y] 25)) fun e w' => e = .returned (.int .u8 (mv x y)) ∧ Below w.heap.size w w' :=
  (meet_any _ _ _ _ _ (lv2 w n x y _ hn)).mono fun _ _ ⟨h, k⟩ => ⟨h, k ▸ below1 w _⟩
theorem right3 (x y z : Int) (n : Nat) (w : World) (hn : n = w.heap.size) : Calls Try.prog 8 #[.slice (some ⟨n, 0, none⟩) 3 3] (w.alloc (.cells #[.int .u8 x, .int .u8 y, .int .u8 z] 25)) fun e w' => e = .returned (.bool (rightB [x, y, z])) ∧ Below w.heap.size w w' :=
  (right_any _ _ _ _ _ (lv3 w n x y z _ hn)).mono fun _ _ ⟨h, k⟩ => ⟨h, k ▸ below1 w _⟩

theorem infoLv : (Try.prog.info? 25).map (fun i => (i.zero, i.size, i.bytes)) = some (some (.int .u8 0), 1, 1) := by kernel_rfl

def Bit (n : Int) : Prop := n = 0 ∨ n = 1
theorem bit_mod (n : Int) : Bit (n % 2) := by unfold Bit; omega

set_option maxRecDepth 100000 in
set_option maxHeartbeats 8000000 in
theorem lat_row (x y z : Int) (hx : 0 ≤ x) (hy : 0 ≤ y) (hz : 0 ≤ z) (a : Option Addr) (len cap : Nat) (xs : List Int) (w : World) (hrow : IsNums w .u8 a len cap xs) :
    Calls Try.prog 5 #[.agg #[.int .u8 x, .int .u8 y, .int .u8 z], .slice a len cap] w fun e w' => e = .returned (.bool true) ∧ Below w.heap.size w w' := by
  have HX := Lib.hid hrow.2.2.2.2.2
  have HW : Hid (∀ k, k < len → 0 ≤ xs[k]?.getD 0) := Lib.hid fun k hk => (range_u8 hrow.2.2.2.2.1 k).1
  clear hrow
  have b0 := bit_mod x
  have b1 := bit_mod y
  have b2 := bit_mod z
  go_enter Try.func5, Try.ntmps5
  go_upto_region 3 with (go_at_call 16; refine (works_any _).mono ?_; rintro e w1 ⟨rfl, hbw⟩)
  have c0 : w1.cell? ⟨w.heap.size, 0, none⟩ = some (.int .u8 x) := (hbw.cell (p := ⟨w.heap.size, 0, none⟩) (by simp)).trans (World.cell?_alloc_at _ _ _ _ rfl)
  have c1 : w1.cell? ⟨w.heap.size, 1, none⟩ = some (.int .u8 y) := (hbw.cell (p := ⟨w.heap.size, 1, none⟩) (by simp)).trans (World.cell?_alloc_at _ _ _ _ rfl)
  have c2 : w1.cell? ⟨w.heap.size, 2, none⟩ = some (.int .u8 z) := (hbw.cell (p := ⟨w.heap.size, 2, none⟩) (by simp)).trans (World.cell?_alloc_at _ _ _ _ rfl)
  have E1 := Lib.hid (bstep (below1 w _) hbw)
  clear hbw
  go_cut [5, 6, 7] (fun p q r wc => (∃ u v t, p = .int .u8 u ∧ q = .int .u8 v ∧ r = .int .u8 t ∧ Bit u ∧ Bit v ∧ Bit t) ∧ Below w.heap.size w wc)
  case first =>
    go_quiet ((go_at_call 24; exact Calls.quiet_of_same (two_q _ _ (by assumption))))
    go_wp2_with fail
    go_meet
    case rel => exact ⟨⟨_, _, _, rfl, rfl, rfl, b0, b1, b2⟩, below_drewN E1.out _⟩
  case rest =>
    clear c0 c1 c2 E1 b0 b1 b2
    obtain ⟨⟨u, v, t, rfl, rfl, rfl, b0, b1, b2⟩, E1⟩ := hcut
    have HE1 := Lib.hid E1
    clear E1
    go_upto_region 4 with (fail)
    go_cut [115] (fun p wc => p = .bool false ∧ Below w.heap.size w wc)
    case first => as_aux_lemma =>
      have f0 : (jv u v != jv v u) = false := by rcases b0 with rfl | rfl <;> rcases b1 with rfl | rfl <;> rcases b2 with rfl | rfl <;>  rfl
      have f1 : (mv u v != mv v u) = false := by rcases b0 with rfl | rfl <;> rcases b1 with rfl | rfl <;> rcases b2 with rfl | rfl <;>  rfl
      have f2 : (jv u (jv v t) != jv (jv u v) t) = false := by rcases b0 with rfl | rfl <;> rcases b1 with rfl | rfl <;> rcases b2 with rfl | rfl <;>  rfl
      have f3 : (mv u (mv v t) != mv (mv u v) t) = false := by rcases b0 with rfl | rfl <;> rcases b1 with rfl | rfl <;> rcases b2 with rfl | rfl <;>  rfl
      have f4 : (jv u u != u) = false := by rcases b0 with rfl | rfl <;> rcases b1 with rfl | rfl <;> rcases b2 with rfl | rfl <;>  rfl
      have f5 : (mv u u != u) = false := by rcases b0 with rfl | rfl <;> rcases b1 with rfl | rfl <;> rcases b2 with rfl | rfl <;>  rfl
      have f6 : (jv u (mv u v) != u) = false := by rcases b0 with rfl | rfl <;> rcases b1 with rfl | rfl <;> rcases b2 with rfl | rfl <;>  rfl
      have f7 : (mv u (jv u v) != u) = false := by rcases b0 with rfl | rfl <;> rcases b1 with rfl | rfl <;> rcases b2 with rfl | rfl <;>  rfl
      go_wp2_with (first | (go_at_call 10; refine (join2 _ _ _ _ (by simp)).mono ?_; rintro e w' ⟨rfl, hb⟩; replace HE1 := Lib.hid (bstep HE1.out hb); clear hb) | (go_at_call 12; refine (meet2 _ _ _ _ (by simp)).mono ?_; rintro e w' ⟨rfl, hb⟩; replace HE1 := Lib.hid (bstep HE1.out hb); clear hb) | (go_at_call 14; refine (flows_any _ _ _).mono ?_; rintro e w' ⟨rfl, rfl⟩) | (go_at_call 8; refine (right3 _ _ _ _ _ (by simp)).mono ?_; rintro e w' ⟨rfl, hb⟩; replace HE1 := Lib.hid (bstep HE1.out hb); clear hb))
      go_meet
      case rel => exact ⟨rfl, HE1.out⟩
    case rest =>
      clear HE1
      obtain ⟨rfl, hE⟩ := hcut
      obtain ⟨wl, rfl⟩ : ∃ wx : World, wx = wc := ⟨_, rfl⟩
      have HE1 := Lib.hid hE
      clear hE
      go_upto_region 6 with (fail)
      go_cut [189] (fun p wc => p = .bool false ∧ Below w.heap.size w wc)
      case first => as_aux_lemma =>
        have r3 : rightB [u, v, t] = true := by rcases b0 with rfl | rfl <;> rcases b1 with rfl | rfl <;> rcases b2 with rfl | rfl <;>  rfl
        have z1 : flowsB 0 u = true := rfl
        have z2 : flowsB u 1 = true := by rcases b0 with rfl | rfl <;> rfl
        by_cases q1 : flowsB u v = true
        · have j1 : (jv u v == v) = true := by revert q1; rcases b0 with rfl | rfl <;> rcases b1 with rfl | rfl <;> rcases b2 with rfl | rfl <;>  decide
          have j2 : (mv u v == u) = true := by revert q1; rcases b0 with rfl | rfl <;> rcases b1 with rfl | rfl <;> rcases b2 with rfl | rfl <;>  decide
          by_cases q2 : flowsB u t = true
          · have j3 : flowsB (jv u v) t = flowsB v t := by revert q1 q2; rcases b0 with rfl | rfl <;> rcases b1 with rfl | rfl <;> rcases b2 with rfl | rfl <;>  decide
            have j4 : flowsB u (mv v t) = true := by revert q1 q2; rcases b0 with rfl | rfl <;> rcases b1 with rfl | rfl <;> rcases b2 with rfl | rfl <;>  decide
            go_wp2_with (first | (go_at_call 10; refine (join2 _ _ _ _ (by simp)).mono ?_; rintro e w' ⟨rfl, hb⟩; replace HE1 := Lib.hid (bstep HE1.out hb); clear hb) | (go_at_call 12; refine (meet2 _ _ _ _ (by simp)).mono ?_; rintro e w' ⟨rfl, hb⟩; replace HE1 := Lib.hid (bstep HE1.out hb); clear hb) | (go_at_call 14; refine (flows_any _ _ _).mono ?_; rintro e w' ⟨rfl, rfl⟩) | (go_at_call 8; refine (right3 _ _ _ _ _ (by simp)).mono ?_; rintro e w' ⟨rfl, hb⟩; replace HE1 := Lib.hid (bstep HE1.out hb); clear hb))
            go_meet
            case rel => exact ⟨rfl, HE1.out⟩
          · have q2' : flowsB u t = false := by simpa using q2
            have j3 : flowsB (jv u v) t = false := by revert q1 q2'; rcases b0 with rfl | rfl <;> rcases b1 with rfl | rfl <;> rcases b2 with rfl | rfl <;>  decide
            have j4 : flowsB u (mv v t) = false := by revert q1 q2'; rcases b0 with rfl | rfl <;> rcases b1 with rfl | rfl <;> rcases b2 with rfl | rfl <;>  decide
            clear q2
            go_wp2_with (first | (go_at_call 10; refine (join2 _ _ _ _ (by simp)).mono ?_; rintro e w' ⟨rfl, hb⟩; replace HE1 := Lib.hid (bstep HE1.out hb); clear hb) | (go_at_call 12; refine (meet2 _ _ _ _ (by simp)).mono ?_; rintro e w' ⟨rfl, hb⟩; replace HE1 := Lib.hid (bstep HE1.out hb); clear hb) | (go_at_call 14; refine (flows_any _ _ _).mono ?_; rintro e w' ⟨rfl, rfl⟩) | (go_at_call 8; refine (right3 _ _ _ _ _ (by simp)).mono ?_; rintro e w' ⟨rfl, hb⟩; replace HE1 := Lib.hid (bstep HE1.out hb); clear hb))
            go_meet
            case rel => exact ⟨rfl, HE1.out⟩
        · have q1' : flowsB u v = false := by simpa using q1
          have j1 : (jv u v == v) = false := by revert q1'; rcases b0 with rfl | rfl <;> rcases b1 with rfl | rfl <;> rcases b2 with rfl | rfl <;>  decide
          have j2 : (mv u v == u) = false := by revert q1'; rcases b0 with rfl | rfl <;> rcases b1 with rfl | rfl <;> rcases b2 with rfl | rfl <;>  decide
          clear q1
          have j4 : flowsB u (mv v t) = false := by revert q1'; rcases b0 with rfl | rfl <;> rcases b1 with rfl | rfl <;> rcases b2 with rfl | rfl <;>  decide
          by_cases q2 : flowsB u t = true
          · have j3 : flowsB (jv u v) t = flowsB v t := by revert q1' q2; rcases b0 with rfl | rfl <;> rcases b1 with rfl | rfl <;> rcases b2 with rfl | rfl <;>  decide
            go_wp2_with (first | (go_at_call 10; refine (join2 _ _ _ _ (by simp)).mono ?_; rintro e w' ⟨rfl, hb⟩; replace HE1 := Lib.hid (bstep HE1.out hb); clear hb) | (go_at_call 12; refine (meet2 _ _ _ _ (by simp)).mono ?_; rintro e w' ⟨rfl, hb⟩; replace HE1 := Lib.hid (bstep HE1.out hb); clear hb) | (go_at_call 14; refine (flows_any _ _ _).mono ?_; rintro e w' ⟨rfl, rfl⟩) | (go_at_call 8; refine (right3 _ _ _ _ _ (by simp)).mono ?_; rintro e w' ⟨rfl, hb⟩; replace HE1 := Lib.hid (bstep HE1.out hb); clear hb))
            go_meet
            case rel => exact ⟨rfl, HE1.out⟩
          · have q2' : flowsB u t = false := by simpa using q2
            have j3 : flowsB (jv u v) t = false := by revert q1' q2'; rcases b0 with rfl | rfl <;> rcases b1 with rfl | rfl <;> rcases b2 with rfl | rfl <;>  decide
            clear q2
            go_wp2_with (first | (go_at_call 10; refine (join2 _ _ _ _ (by simp)).mono ?_; rintro e w' ⟨rfl, hb⟩; replace HE1 := Lib.hid (bstep HE1.out hb); clear hb) | (go_at_call 12; refine (meet2 _ _ _ _ (by simp)).mono ?_; rintro e w' ⟨rfl, hb⟩; replace HE1 := Lib.hid (bstep HE1.out hb); clear hb) | (go_at_call 14; refine (flows_any _ _ _).mono ?_; rintro e w' ⟨rfl, rfl⟩) | (go_at_call 8; refine (right3 _ _ _ _ _ (by simp)).mono ?_; rintro e w' ⟨rfl, hb⟩; replace HE1 := Lib.hid (bstep HE1.out hb); clear hb))
            go_meet
            case rel => exact ⟨rfl, HE1.out⟩
      case rest =>
        clear HE1
        obtain ⟨rfl, hE⟩ := hcut
        obtain ⟨wl, rfl⟩ : ∃ wx : World, wx = wc := ⟨_, rfl⟩
        have HE1 := Lib.hid hE
        clear hE b0 b1 b2
        obtain ⟨i0, hi, hz0, hz1, hz2⟩ := info_parts infoLv
        have HI0 := Lib.hid (And.intro hi (And.intro hz0 (And.intro hz1 hz2)))
        clear hi hz0 hz1 hz2
        go_upto_region 11 with (fail)
        go_wp2_with fail
        go_loopg [8, 9, 10, 11, 12] 31 (fun g al le rv bv i wr => ∃ (k : Nat) (ys : List Int), g + k = 31 ∧ k ≤ 30 ∧ i = .int .i64 k ∧ al = .int .u8 (joinV ys) ∧ le = .int .u8 (meetV ys) ∧ Rows2 w wr k rv ys k bv ys.reverse)
        case atStart => exact ⟨0, [], rfl, by omega, rfl, rfl, rfl, World.ownsRow_nil _ _ _ _, World.ownsRow_nil _ _ _ _, .inl rfl, HE1.out⟩
        case round =>
          obtain ⟨k, ys, hk, hk30, rfl, rfl, rfl, hR⟩ := hrel
          have HR := Lib.hid hR
          clear hR
          by_cases hin : k < len ∧ k < 30
          · obtain ⟨hkl, hk3⟩ := hin
            have k4 : (k : Int) < 30 := by omega
            have k5 : (k : Int) < (len : Int) := by omega
            obtain ⟨b, off, rfl, hb, hc⟩ := HX.out (by omega)
            have C0 := Lib.hid (hc k hkl)
            have hx0 := HW.out k hkl
            clear hc
            generalize xs[k]?.getD 0 = n at *
            obtain ⟨rv, rfl⟩ : ∃ x : Value, x = u10 := ⟨_, rfl⟩
            obtain ⟨bv, rfl⟩ : ∃ x : Value, x = u11 := ⟨_, rfl⟩
            go_upto_region 14 with (fail)
            go_cut [10] (fun v wc => Rows2 w wc (k + 1) v (ys ++ [n % 2]) k bv ys.reverse)
            case first => as_aux_lemma =>
              have c0 := (HR.out.2.2.2.cell (p := ⟨b, off + k, none⟩) hb).trans C0.out
              obtain ⟨hi, hz0, hz1, hz2⟩ := HI0.out
              have HA := Lib.hid (HR.out.below (below1 wr (.cells #[.int .u8 (n % 2)] LvT)))
              go_wp2_with (first | (go_at_call 24; refine (two_any _ _ hx0).mono ?_; rintro e w' ⟨rfl, rfl⟩) | (at_builtin; refine wpList_append_where rfl _ _ 22 rfl w.heap.size LvT i0 (.int .u8 0) 1 1 Try.underlying22 hi hz0 hz1 hz2 rfl (by decide) _ k _ rfl HA.out.1 ⟨wr.heap.size, 0, none⟩ 1 1 (lits [n % 2]) (by decide) rfl rfl ?c1 ?c2 ?c3 ?c4 ?c5 ?c6))
              case c1 => exact cell_one_new _ _ _
              case c2 => exact lits_one _
              case c3 => unfold maxLen; omega
              case c4 => omega
              case c5 => exact HA.out.2.2.2.size
              case c6 =>
                intro v' w1 hown hgrow hwhere
                have HO := Lib.hid (HA.out.row hown hgrow (by simpa using hwhere))
                clear hown hgrow hwhere
                go_wp2_with fail
                go_meet
                case rel => exact HO.out
            case rest =>
              clear HR
              have HR := Lib.hid hcut
              clear hcut
              obtain ⟨wb, rfl⟩ : ∃ wx : World, wx = wc := ⟨_, rfl⟩
              obtain ⟨rv, rfl⟩ : ∃ x : Value, x = u10 := ⟨_, rfl⟩
              go_upto_region 15 with (fail)
              go_cut [11] (fun v wc => Rows2 w wc (k + 1) rv (ys ++ [n % 2]) (k + 1) v (ys ++ [n % 2]).reverse)
              case first => as_aux_lemma =>
                have c0 := (HR.out.2.2.2.cell (p := ⟨b, off + k, none⟩) hb).trans C0.out
                obtain ⟨hi, hz0, hz1, hz2⟩ := HI0.out
                have hrev : Hid (lits (ys ++ [n % 2]).reverse = lits [n % 2] ++ lits ys.reverse) := Lib.hid (by simp [lits])
                have HB := Lib.hid HR.out.2.1
                have HON := Lib.hid (own_one wb (n % 2))
                rcases HR.out.2.1.2 with ⟨rfl, hk0⟩ | ⟨g, cap, cur, rfl, hgb, hrest⟩
                · have hlen := HR.out.2.1.1
                  rw [hk0] at hlen
                  have hys : ys.reverse = [] := List.eq_nil_of_length_eq_zero (by simpa [lits] using hlen)
                  clear hlen
                  have HYS := Lib.hid hys
                  have HK := Lib.hid hk0
                  clear hys hk0
                  go_wp2_with (first | (go_at_call 24; refine (two_any _ _ hx0).mono ?_; rintro e w' ⟨rfl, rfl⟩) | (at_builtin; refine wpList_append_own_none rfl _ _ 22 rfl wb.heap.size LvT i0 1 Try.underlying22 hi _ 1 _ rfl HON.out rfl ?_))
                  go_meet
                  case rel =>
                    have h1 := HR.out.back (v' := .slice (some ⟨wb.heap.size, 0, none⟩) 1 1) (m' := k + 1) (zs' := (ys ++ [n % 2]).reverse) (by rw [hrev.out, HYS.out, HK.out]; exact HON.out) (below1 _ _)
                    exact h1
                · clear hgb hrest
                  go_wp2_with (first | (go_at_call 24; refine (two_any _ _ hx0).mono ?_; rintro e w' ⟨rfl, rfl⟩) | (at_builtin; refine wpList_append_own _ rfl _ _ 22 rfl wb.heap.size LvT i0 (.int .u8 0) 1 1 Try.underlying22 hi hz0 hz1 hz2 rfl (by decide) _ 1 _ rfl HON.out ⟨g, 0, none⟩ k cap (lits ys.reverse) rfl ?c0 ?c1 ?c2 ?c3 ?c4 ?c5 ?c6))
                  case c0 => have := HB.out.1; simpa using this
                  case c1 => exact (own_below HB.out (below1 _ _)).cells (g := g) rfl
                  case c2 => exact lits_one _
                  case c3 => unfold maxLen; omega
                  case c4 => omega
                  case c5 => simp
                  case c6 =>
                    intro v' w1 hown hgrow _
                    have HO := Lib.hid (HR.out.back (v' := v') (w' := w1) (m' := k + 1) (zs' := (ys ++ [n % 2]).reverse) (by rw [hrev.out, Nat.add_comm k 1]; simpa [lits] using hown) ((below1 wb _).grown hgrow (by simp) (fun j hj => by simp [Value.ownBlock] at hj; omega)))
                    clear hown hgrow
                    go_wp2_with fail
                    go_meet
                    case rel => exact HO.out
              case rest =>
                clear HR
                have HR := Lib.hid hcut
                clear hcut
                obtain ⟨wd, rfl⟩ : ∃ wx : World, wx = wc := ⟨_, rfl⟩
                obtain ⟨bv, rfl⟩ : ∃ x : Value, x = u11 := ⟨_, rfl⟩
                go_upto_region 16 with (fail)
                go_cut [8] (fun v wc => v = .int .u8 (joinV (ys ++ [n % 2])) ∧ Rows2 w wc (k + 1) rv (ys ++ [n % 2]) (k + 1) bv (ys ++ [n % 2]).reverse)
                case first => as_aux_lemma =>
                  have c0 := (HR.out.2.2.2.cell (p := ⟨b, off + k, none⟩) hb).trans C0.out
                  go_wp2_with (first | (go_at_call 24; refine (two_any _ _ hx0).mono ?_; rintro e w' ⟨rfl, rfl⟩) | (go_at_call 10; refine (join2 _ _ _ _ (by simp)).mono ?_; rintro e w' ⟨rfl, hb2⟩))
                  go_meet
                  case rel => exact ⟨by rw [← joinV_snoc]; rfl, HR.out.below hb2⟩
                case rest =>
                  clear HR
                  obtain ⟨rfl, hR⟩ := hcut
                  have HR := Lib.hid hR
                  clear hR
                  obtain ⟨we, rfl⟩ : ∃ wx : World, wx = wc := ⟨_, rfl⟩
                  have c0 := (HR.out.2.2.2.cell (p := ⟨b, off + k, none⟩) hb).trans C0.out
                  go_wp2_with (first | (go_at_call 24; refine (two_any _ _ hx0).mono ?_; rintro e w' ⟨rfl, rfl⟩) | (go_at_call 12; refine (meet2 _ _ _ _ (by simp)).mono ?_; rintro e w' ⟨rfl, hb2⟩))
                  go_roundg (gk - 1)
                  case measure => omega
                  case rel => exact ⟨k + 1, ys ++ [n % 2], by omega, by omega, by go_num, rfl, by rw [← meetV_snoc]; rfl, HR.out.below hb2⟩
          · obtain ⟨a1, cp1, rfl, L1⟩ := lv_of_own HR.out.1 (by omega)
            obtain ⟨a2, cp2, rfl, L2⟩ := lv_of_own HR.out.2.1 (by omega)
            replace L1 := Lib.hid L1
            replace L2 := Lib.hid L2
            have e1 : joinV ys.reverse = joinV ys := joinV_rev ys
            have e2 : meetV ys.reverse = meetV ys := meetV_rev ys
            by_cases hkl : k < len
            · have hk4 : k = 30 := by omega
              subst hk4
              go_wp2_with fail
              refine (join_any _ _ _ ys _ L1.out).mono ?_
              rintro e w' ⟨rfl, rfl⟩
              go_wp2_with fail
              refine (join_any _ _ _ ys.reverse _ L2.out).mono ?_
              rintro e w' ⟨rfl, rfl⟩
              go_wp2_with fail
              refine (meet_any _ _ _ ys _ L1.out).mono ?_
              rintro e w' ⟨rfl, rfl⟩
              go_wp2_with fail
              refine (meet_any _ _ _ ys.reverse _ L2.out).mono ?_
              rintro e w' ⟨rfl, rfl⟩
              go_wp2
              go_ret
              exact ⟨rfl, HR.out.2.2.2⟩
            · go_wp2_with fail
              refine (join_any _ _ _ ys _ L1.out).mono ?_
              rintro e w' ⟨rfl, rfl⟩
              go_wp2_with fail
              refine (join_any _ _ _ ys.reverse _ L2.out).mono ?_
              rintro e w' ⟨rfl, rfl⟩
              go_wp2_with fail
              refine (meet_any _ _ _ ys _ L1.out).mono ?_
              rintro e w' ⟨rfl, rfl⟩
              go_wp2_with fail
              refine (meet_any _ _ _ ys.reverse _ L2.out).mono ?_
              rintro e w' ⟨rfl, rfl⟩
              go_wp2
              go_ret
              exact ⟨rfl, HR.out.2.2.2⟩

theorem open_three {H : Type} (enc : TypeId × Value → H) (base : Nat) (W : World) {v : Value} {d : DataW H} {p : List MemPlace} (ok : Value.okWide Try.prog W .any base 47 v) (k : DataW.Trod enc Try.prog W 0 (fun _ => true) true 47 v d p) :
    ∃ x y z : Int, v = .agg #[.int .u8 x, .int .u8 y, .int .u8 z] ∧ 0 ≤ x ∧ 0 ≤ y ∧ 0 ≤ z := by
  have hv : ∃ cs, v = .agg cs ∧ cs.size = Try.prog.cellsOf 47 := by
    simp only [Value.okWide, Try.underlying47] at ok
    obtain ⟨cs, h1, h2, _⟩ := ok
    exact ⟨cs, h1, h2⟩
  obtain ⟨cs, rfl, hsz⟩ := hv
  have q3 : Try.prog.cellsOf 47 = 3 := by kernel_rfl
  have q1 : Try.prog.cellsOf 5 = 1 := by kernel_rfl
  obtain ⟨c0, c1, c2, rfl⟩ := Go.Joins.array3 (hsz.trans q3)
  obtain ⟨fuel, hf⟩ := k
  obtain ⟨xs, m, _, _, _, hl, hx⟩ := DataW.trod_array Try.underlying47 hf
  have h0 := hx 0 (by omega)
  have h1 := hx 1 (by omega)
  have h2 := hx 2 (by omega)
  rw [List.getElem?_eq_getElem (by omega)] at h0 h1 h2
  simp [q1, Value.cells] at h0 h1 h2
  obtain ⟨x, e0, _, w0⟩ := DataW.trod_int Try.underlying5 h0
  obtain ⟨y, e1, _, w1⟩ := DataW.trod_int Try.underlying5 h1
  obtain ⟨z, e2, _, w2⟩ := DataW.trod_int Try.underlying5 h2
  simp at e0 e1 e2
  subst e0 e1 e2
  exact ⟨x, y, z, rfl, (bounds_u8 w0).1, (bounds_u8 w1).1, (bounds_u8 w2).1⟩

theorem labelLattice_walk {H : Type} (enc : TypeId × Value → H) (base : Nat) (W : World) (v0 : Value) (d0 : DataW H) (p0 : List MemPlace) (ok0 : Value.okWide Try.prog W .any base 47 v0) (k0 : DataW.Trod enc Try.prog W 0 (fun _ => true) true 47 v0 d0 p0)
    (v1 : Value) (d1 : DataW H) (p1 : List MemPlace) (ok1 : Value.okWide Try.prog W .any base 48 v1) (k1 : DataW.Trod enc Try.prog W 0 (fun _ => true) true 48 v1 d1 p1) :
    Calls Try.prog 5 #[v0, v1] W fun e w' => e = .returned (.bool true) ∧ Below W.heap.size W w' := by
  obtain ⟨x, y, z, rfl, hx, hy, hz⟩ := open_three enc base W ok0 k0
  obtain ⟨a, len, cap, xs, rfl, hrow⟩ := open_u8s enc base W Try.underlying48 Try.underlying5 (by kernel_rfl) ok1 k1
  exact lat_row x y z hx hy hz a len cap xs W hrow

end Go.Proofs.Yteelegmpadfoeaa.Lab
