/- The Go law CharsetApart (the stage's theorem): its walk. -/
import Derived.Test.YtdphccjeikiciaaChPlayed
import Derived.Deep.DeepCutAuto
import Derived.Deep.CutBlock
namespace Go.Proofs.Ytdphccjeikiciaa.Lab
open Go Go.RowKit Go.ChangeShapes Go.WideShapes Go.ChangeAt Go.Deep Go.Joins Go.ChangeMaps

theorem ofM_out (s r : Int) (h : r < 32 ∨ 126 < r) : ofM s r = r := ofM_same s r (by omega) (by omega)
theorem apart1 (x y : Nat) (hx : x < 95) (hy : y < 95) (h : ofM 1 (32 + (x : Int)) = ofM 1 (32 + (y : Int))) : x = y ∨ (ofM 1 (32 + (x : Int)) = 32 ∧ ofM 1 (32 + (y : Int)) = 32) := by
  have : ∀ x y : Fin 95, ofM 1 (32 + (x.val : Int)) = ofM 1 (32 + (y.val : Int)) → x.val = y.val ∨ (ofM 1 (32 + (x.val : Int)) = 32 ∧ ofM 1 (32 + (y.val : Int)) = 32) := by decide +kernel
  exact this ⟨x, hx⟩ ⟨y, hy⟩ h
theorem apart (m x y : Int) (hm : m = 0 ∨ m = 1 ∨ m = 2) (hx : 32 ≤ x ∧ x ≤ 126) (hy : 32 ≤ y ∧ y ≤ 126) (h : ofM m x = ofM m y) : x = y ∨ (m = 1 ∧ ofM m x = 32 ∧ ofM m y = 32) := by
  rcases hm with rfl | rfl | rfl
  · rw [ofM_zero, ofM_zero] at h
    exact .inl h
  · have := apart1 (x - 32).toNat (y - 32).toNat (by omega) (by omega)
    rw [show 32 + ((x - 32).toNat : Int) = x by omega, show 32 + ((y - 32).toNat : Int) = y by omega] at this
    rcases this h with e | e
    · exact .inl (by omega)
    · exact .inr ⟨rfl, e⟩
  · left
    by_cases a : x = 35
    · by_cases b : y = 35
      · omega
      · rw [a, ofM_uk, ofM_same 2 y (by omega) (by omega)] at h
        omega
    · by_cases b : y = 35
      · rw [b, ofM_uk, ofM_same 2 x (by omega) (by omega)] at h
        omega
      · rw [ofM_same 2 x (by omega) (by omega), ofM_same 2 y (by omega) (by omega)] at h
        exact h

theorem idx_pair0 (a b c d : Int) (w : World) : (Instr.index 51 (.agg #[.int .i32 a, .int .i32 b, .int .i32 c, .int .i32 d]) (.int .i64 0)).run Try.prog w = .ok (.agg #[.int .i32 a, .int .i32 b]) w := by
  have h : (part 50 #[.int .i32 a, .int .i32 b, .int .i32 c, .int .i32 d] 0).run Try.prog w = .ok (.agg #[.int .i32 a, .int .i32 b]) w := by
    simp [part, go_sem]
  simp [Instr.index, run_underlying Try.underlying51, asIntOf, h]
theorem idx_pair1 (a b c d : Int) (w : World) : (Instr.index 51 (.agg #[.int .i32 a, .int .i32 b, .int .i32 c, .int .i32 d]) (.int .i64 1)).run Try.prog w = .ok (.agg #[.int .i32 c, .int .i32 d]) w := by
  have h : (part 50 #[.int .i32 a, .int .i32 b, .int .i32 c, .int .i32 d] 2).run Try.prog w = .ok (.agg #[.int .i32 c, .int .i32 d]) w := by
    simp [part, go_sem]
  simp [Instr.index, run_underlying Try.underlying51, asIntOf, h]

/-- A pair of runes lies in a block; nothing elder has turned. -/
def Pr (w0 w : World) (B : Nat) (x y : Int) : Prop := Below w0.heap.size w0 w ∧ B < w.heap.size ∧ w.cell? ⟨B, 0, none⟩ = some (.int .i32 x) ∧ w.cell? ⟨B, 1, none⟩ = some (.int .i32 y)
theorem Pr.on {w0 w w' : World} {B : Nat} {x y : Int} (h : Pr w0 w B x y) (hb : Below w.heap.size w w') : Pr w0 w' B x y :=
  ⟨bstep h.1 hb, Nat.lt_of_lt_of_le h.2.1 hb.size, (hb.cell (p := ⟨B, 0, none⟩) h.2.1).trans h.2.2.1, (hb.cell (p := ⟨B, 1, none⟩) h.2.1).trans h.2.2.2⟩
theorem Pr.drew {w0 w : World} {B : Nat} {x y : Int} (h : Pr w0 w B x y) : Pr w0 w.drew B x y := h.on (Below.refl _ _).drew
theorem Pr.made {w0 w : World} (h : Below w0.heap.size w0 w) (x y : Int) (T : TypeId) : Pr w0 (w.alloc (.cells #[.int .i32 x, .int .i32 y] T)) w.heap.size x y :=
  ⟨h.alloc h.size _, by simp, by rw [World.cell?_alloc_at _ _ _ _ rfl]; rfl, by rw [World.cell?_alloc_at _ _ _ _ rfl]; rfl⟩
theorem Pr.cells {w0 w : World} {B : Nat} {x y : Int} (h : Pr w0 w B x y) : w.cell? ⟨B, 0, none⟩ = some (.int .i32 x) ∧ w.cell? ⟨B, 1, none⟩ = some (.int .i32 y) := h.2.2

set_option maxRecDepth 100000 in
set_option maxHeartbeats 8000000 in
theorem charsetApart_any (a b : Int) (ap : Option Addr) (len cap : Nat) (T : Nat → ActV) (w : World) (hT : IsActs w ap len cap T) :
    Calls Try.prog 5 #[.int .i32 a, .int .i32 b, .slice ap len cap] w fun e w' => e = .returned (.bool true) ∧ Below w.heap.size w w' := by
  have HT := Lib.hid hT
  clear hT
  go_enter Try.func5, Try.ntmps5
  go_wp2_with fail
  refine (works_any _).mono ?_
  rintro e w1 ⟨rfl, hb⟩
  have H0 := Lib.hid hb
  clear hb
  go_wp2_with fail
  go_loopg [7] 4 (fun g v wr => ∃ m : Nat, g + m = 4 ∧ m ≤ 3 ∧ v = .int .i64 m ∧ Hid (Below w.heap.size w wr))
  case atStart => exact ⟨0, by omega, by omega, rfl, H0⟩
  case round =>
    obtain ⟨gz, hgz⟩ : ∃ q : Nat, q = gk := ⟨_, rfl⟩
    obtain ⟨m, hg, hm, rfl, H1⟩ := hrel
    clear H0
    obtain ⟨wo, rfl⟩ : ∃ wo : World, wo = wr := ⟨_, rfl⟩
    by_cases hm3 : m < 3
    · have hmi : (m : Int) < 3 := by omega
      go_upto_region 6 with (fail)
      go_cut [35, 36] (fun u v wc => ∃ a2 b2 : Int, u = .agg #[.int .i32 a, .int .i32 b, .int .i32 a2, .int .i32 b2] ∧ v = .int .i64 0 ∧ Hid (Below w.heap.size w wc))
      case first =>
        clear HT
        go_wp2_with fail
        go_meet
        case rel => exact ⟨_, _, rfl, rfl, H1⟩
      case rest =>
        obtain ⟨a2, b2, rfl, rfl, H2⟩ := hcut
        obtain ⟨wp, rfl⟩ : ∃ wp : World, wp = wc := ⟨_, rfl⟩
        clear H1
        go_wp2_with fail
        go_loopg [36] 3 (fun g v wr => ∃ j : Nat, g + j = 3 ∧ j ≤ 2 ∧ v = .int .i64 j ∧ Hid (Below w.heap.size w wr))
        case atStart => exact ⟨0, by omega, by omega, rfl, H2⟩
        case round =>
          obtain ⟨j, hgj, hj, rfl, H3⟩ := hrel
          clear H2
          obtain ⟨wi, rfl⟩ : ∃ wo : World, wo = wr := ⟨_, rfl⟩
          by_cases hj2 : j < 2
          · have hji : (j : Int) < 2 := by omega
            go_upto_region 8 with (fail)
            go_cut [9] (fun v wc => ∃ (B : Nat) (x y : Int), v = .pointer (some ⟨B, 0, none⟩) ∧ Hid (Pr w wc B x y))
            case first =>
              have hcase : j = 0 ∨ j = 1 := by omega
              clear HT hj2 hji
              rcases hcase with rfl | rfl
              · have hx := fun w => idx_pair0 a b a2 b2 w
                rw [show ((0 : Nat) : Int) = 0 from rfl]
                go_wp2_with fail
                go_meet
                case rel => exact ⟨_, _, _, rfl, Lib.hid (Pr.made H3.out a b _)⟩
              · have hx := fun w => idx_pair1 a b a2 b2 w
                rw [show ((1 : Nat) : Int) = 1 from rfl]
                go_wp2_with fail
                go_meet
                case rel => exact ⟨_, _, _, rfl, Lib.hid (Pr.made H3.out a2 b2 _)⟩
            case rest =>
              obtain ⟨B, x, y, rfl, H4⟩ := hcut
              obtain ⟨wx, rfl⟩ : ∃ wp : World, wp = wc := ⟨_, rfl⟩
              clear H3
              -- whether both are printable
              go_upto_region 9 with (fail)
              go_cut [10] (fun v wc => ∃ q : Bool, v = .bool q ∧ (q = true → (32 ≤ x ∧ x ≤ 126) ∧ 32 ≤ y ∧ y ≤ 126) ∧ Hid (Pr w wc B x y))
              case first =>
                obtain ⟨c1, c2⟩ := H4.out.cells
                clear HT
                by_cases r1 : 32 ≤ x
                · by_cases r2 : x ≤ 126
                  · by_cases r3 : 32 ≤ y
                    · by_cases r4 : y ≤ 126
                      · go_wp2_with fail
                        go_meet
                        case rel => exact ⟨true, rfl, fun _ => ⟨⟨r1, r2⟩, r3, r4⟩, H4⟩
                      · go_wp2_with fail
                        go_meet
                        case rel => exact ⟨false, rfl, (fun h => by cases h), H4⟩
                    · go_wp2_with fail
                      go_meet
                      case rel => exact ⟨false, rfl, (fun h => by cases h), H4⟩
                  · go_wp2_with fail
                    go_meet
                    case rel => exact ⟨false, rfl, (fun h => by cases h), H4⟩
                · go_wp2_with fail
                  go_meet
                  case rel => exact ⟨false, rfl, (fun h => by cases h), H4⟩
              case rest =>
                obtain ⟨q, rfl, hq, H5⟩ := hcut
                obtain ⟨wy, rfl⟩ : ∃ wp : World, wp = wc := ⟨_, rfl⟩
                clear H4
                have hap := apart m x y (by omega)
                have C1 := fun w => of_any m x w
                have C2 := fun w => of_any m y w
                have HSX : x = y → ofM m x = ofM m y := fun e => by rw [e]
                generalize ofM m x = ox at *
                generalize ofM m y = oy at *
                have HAP : Hid (q = true → ox = oy → x = y ∨ ((m : Int) = 1 ∧ ox = 32 ∧ oy = 32)) := Lib.hid (fun h e => hap (hq h).1 (hq h).2 e)
                have HSAME : Hid (x = y → ox = oy) := Lib.hid HSX
                clear hap hq HSX
                go_upto_region 10 with (fail)
                have H := H5.out.drew
                clear H5
                refine wp_region_held_drew (S := fun w' => w'.cell? ⟨B, 0, none⟩ = some (.int .i32 x) ∧ w'.cell? ⟨B, 1, none⟩ = some (.int .i32 y)) (by kernel_rfl) ?_ (fun hHeld => ?_)
                · exact H.cells
                refine take_at (i := 0) (v := ?_) rfl (by kernel_rfl) (by kernel_rfl) (by kernel_rfl) (fun _ _ _ h => h) (by kernel_rfl) (by assumption) ?_ ?_
                rotate_left
                · (intro w hSw; (try dsimp only at hSw); go_simp; try with_reducible rfl)
                simp only [Act.put, List.setIfInBounds_toArray, List.set_cons_zero, List.set_cons_succ]
                refine take_at (i := 1) (v := ?_) rfl (by kernel_rfl) (by kernel_rfl) (by kernel_rfl) (fun _ _ _ h => h) (by kernel_rfl) (by assumption) ?_ ?_
                rotate_left
                · (intro w hSw; (try dsimp only at hSw); go_simp; try with_reducible rfl)
                simp only [Act.put, List.setIfInBounds_toArray, List.set_cons_zero, List.set_cons_succ]
                refine take_at (i := 2) (v := ?_) rfl (by kernel_rfl) (by kernel_rfl) (by kernel_rfl) (fun _ _ _ h => h) (by kernel_rfl) (by assumption) ?_ ?_
                rotate_left
                · (intro w hSw; (try dsimp only at hSw); go_simp; try with_reducible rfl)
                simp only [Act.put, List.setIfInBounds_toArray, List.set_cons_zero, List.set_cons_succ]
                refine take_at (i := 4) (v := ?_) rfl (by kernel_rfl) (by kernel_rfl) (by kernel_rfl) (fun _ _ _ h => h) (by kernel_rfl) (by assumption) ?_ ?_
                rotate_left
                · (intro w hSw; (try dsimp only at hSw); go_simp; try with_reducible rfl)
                simp only [Act.put, List.setIfInBounds_toArray, List.set_cons_zero, List.set_cons_succ]
                refine take_at (i := 5) (v := ?_) rfl (by kernel_rfl) (by kernel_rfl) (by kernel_rfl) (fun _ _ _ h => h) (by kernel_rfl) (by assumption) ?_ ?_
                rotate_left
                · (intro w hSw; (try dsimp only at hSw); go_simp; try with_reducible rfl)
                simp only [Act.put, List.setIfInBounds_toArray, List.set_cons_zero, List.set_cons_succ]
                refine take_at (i := 6) (v := ?_) rfl (by kernel_rfl) (by kernel_rfl) (by kernel_rfl) (fun _ _ _ h => h) (by kernel_rfl) (by assumption) ?_ ?_
                rotate_left
                · (intro w hSw; (try dsimp only at hSw); go_simp; try with_reducible rfl)
                simp only [Act.put, List.setIfInBounds_toArray, List.set_cons_zero, List.set_cons_succ]
                refine do_at (i := 3) rfl (by kernel_rfl) (by kernel_rfl) (fun K hK => ?_)
                go_simp
                refine (C1 _).mono ?_
                rintro e w6 ⟨rfl, hb⟩
                have H' := H.on hb
                clear H hb hHeld
                have H := H'
                clear H'
                go_wp2_with fail
                refine hK.out _ _ ?_ (fun hHeld => ?_)
                · exact H.cells
                clear hK K
                try simp only [Act.put, List.setIfInBounds_toArray, List.set_cons_zero, List.set_cons_succ]
                refine do_at (i := 7) rfl (by kernel_rfl) (by kernel_rfl) (fun K hK => ?_)
                go_simp
                refine (C2 _).mono ?_
                rintro e w6 ⟨rfl, hb⟩
                have H' := H.on hb
                clear H hb hHeld
                have H := H'
                clear H'
                go_wp2_with fail
                refine hK.out _ _ ?_ (fun hHeld => ?_)
                · exact H.cells
                clear hK K
                try simp only [Act.put, List.setIfInBounds_toArray, List.set_cons_zero, List.set_cons_succ]
                refine take_at (i := 8) (v := ?_) rfl (by kernel_rfl) (by kernel_rfl) (by kernel_rfl) (fun _ _ _ h => h) (by kernel_rfl) (by assumption) ?_ ?_
                rotate_left
                · (intro w hSw; (try dsimp only at hSw); go_simp; try with_reducible rfl)
                simp only [Act.put, List.setIfInBounds_toArray, List.set_cons_zero, List.set_cons_succ]
                refine take_at (i := 9) (v := ?_) rfl (by kernel_rfl) (by kernel_rfl) (by kernel_rfl) (fun _ _ _ h => h) (by kernel_rfl) (by assumption) ?_ ?_
                rotate_left
                · (intro w hSw; (try dsimp only at hSw); go_simp; try with_reducible rfl)
                simp only [Act.put, List.setIfInBounds_toArray, List.set_cons_zero, List.set_cons_succ]
                refine wpAnyH_done (by kernel_rfl) ?_ _
                have H6 := Lib.hid H
                clear H hHeld C1 C2
                go_upto_region 11 with (fail)
                go_cut [13] (fun v wc => ∃ bl : Bool, v = .bool bl ∧ ((m : Int) = 1 → ox = 32 → oy = 32 → bl = true) ∧ Hid (Pr w wc B x y))
                case first =>
                  clear HT
                  by_cases s1 : (m : Int) = 1
                  · have e1 : ((m : Int) == 1) = true := by simp; omega
                    have e1' : (m == 1) = true := by simp; omega
                    clear s1
                    by_cases s2 : ox = 32
                    · have e2 : (ox == 32) = true := by simp [s2]
                      clear s2
                      by_cases s3 : oy = 32
                      · have e3 : (oy == 32) = true := by simp [s3]
                        clear s3
                        go_wp2_with fail
                        go_meet
                        case rel => exact ⟨true, rfl, fun _ _ _ => rfl, H6⟩
                      · have e3 : (oy == 32) = false := by simp [s3]
                        go_wp2_with fail
                        go_meet
                        case rel => exact ⟨false, rfl, fun _ _ h => absurd h s3, H6⟩
                    · have e2 : (ox == 32) = false := by simp [s2]
                      go_wp2_with fail
                      go_meet
                      case rel => exact ⟨false, rfl, fun _ h _ => absurd h s2, H6⟩
                  · have e1 : ((m : Int) == 1) = false := by simp; omega
                    have e1' : (m == 1) = false := by simp; omega
                    go_wp2_with fail
                    go_meet
                    case rel => exact ⟨false, rfl, fun h _ _ => absurd h s1, H6⟩
                case rest =>
                  obtain ⟨bl, rfl, hbl, H7⟩ := hcut
                  obtain ⟨wz, rfl⟩ : ∃ wp : World, wp = wc := ⟨_, rfl⟩
                  clear H6
                  have HBL := Lib.hid hbl
                  clear hbl
                  obtain ⟨c1, c2⟩ := H7.out.cells
                  have H8 := Lib.hid H7.out.1
                  have key : Hid (q = false ∨ (q = true ∧ (ox == oy) = (x == y)) ∨ (q = true ∧ bl = true)) := Lib.hid (by
                    cases q
                    · exact .inl rfl
                    · right
                      by_cases e : ox = oy
                      · rcases HAP.out rfl e with h | ⟨h1, h2, h3⟩
                        · left
                          subst h
                          subst e
                          simp
                        · exact .inr ⟨rfl, HBL.out h1 h2 h3⟩
                      · left
                        have h : ¬ x = y := fun h => e (HSAME.out h)
                        have z1 : (ox == oy) = false := by simp [e]
                        have z2 : (x == y) = false := by simp [h]
                        exact ⟨rfl, by rw [z1, z2]⟩)
                  clear HAP HSAME HBL
                  rcases key.out with rfl | ⟨rfl, e⟩ | ⟨rfl, rfl⟩
                  · clear key
                    go_wp2
                    go_roundg (gk - 1)
                    case measure => omega
                    case rel => exact ⟨j + 1, by omega, by omega, by simp, H8⟩
                  · clear key
                    by_cases s : x = y
                    · have e1 : (x == y) = true := by simp [s]
                      have e2 : (ox == oy) = true := e.trans e1
                      clear e s
                      go_wp2
                      go_roundg (gk - 1)
                      case measure => omega
                      case rel => exact ⟨j + 1, by omega, by omega, by simp, H8⟩
                    · have e1 : (x == y) = false := by simp [s]
                      have e2 : (ox == oy) = false := e.trans e1
                      clear e s
                      go_wp2
                      go_roundg (gk - 1)
                      case measure => omega
                      case rel => exact ⟨j + 1, by omega, by omega, by simp, H8⟩
                  · clear key
                    by_cases s : x = y
                    · have e1 : (x == y) = true := by simp [s]
                      clear s
                      by_cases s : ox = oy
                      · have e2 : (ox == oy) = true := by simp [s]
                        clear s
                        go_wp2
                        go_roundg (gk - 1)
                        case measure => omega
                        case rel => exact ⟨j + 1, by omega, by omega, by simp, H8⟩
                      · have e2 : (ox == oy) = false := by simp [s]
                        clear s
                        go_wp2
                        go_roundg (gk - 1)
                        case measure => omega
                        case rel => exact ⟨j + 1, by omega, by omega, by simp, H8⟩
                    · have e1 : (x == y) = false := by simp [s]
                      clear s
                      by_cases s : ox = oy
                      · have e2 : (ox == oy) = true := by simp [s]
                        clear s
                        go_wp2
                        go_roundg (gk - 1)
                        case measure => omega
                        case rel => exact ⟨j + 1, by omega, by omega, by simp, H8⟩
                      · have e2 : (ox == oy) = false := by simp [s]
                        clear s
                        go_wp2
                        go_roundg (gk - 1)
                        case measure => omega
                        case rel => exact ⟨j + 1, by omega, by omega, by simp, H8⟩
          · have hji : ¬ (j : Int) < 2 := by omega
            by_cases t1 : a < 32
            · have C := fun w => of_lit m a a (ofM_out m a (.inl t1)) w
              go_wp2_with fail
              refine (C _).mono ?_
              rintro e w6 ⟨rfl, hb⟩
              have H4 := Lib.hid (bstep H3.out hb)
              clear hb H3 C
              go_wp2
              go_roundg (gz - 1)
              case measure => omega
              case rel => exact ⟨m + 1, by omega, by omega, by simp, H4⟩
            · by_cases t2 : 126 < a
              · have C := fun w => of_lit m a a (ofM_out m a (.inr t2)) w
                go_wp2_with fail
                refine (C _).mono ?_
                rintro e w6 ⟨rfl, hb⟩
                have H4 := Lib.hid (bstep H3.out hb)
                clear hb H3 C
                go_wp2
                go_roundg (gz - 1)
                case measure => omega
                case rel => exact ⟨m + 1, by omega, by omega, by simp, H4⟩
              · go_wp2
                go_roundg (gz - 1)
                case measure => omega
                case rel => exact ⟨m + 1, by omega, by omega, by simp, H3⟩
    · have hmi : ¬ (m : Int) < 3 := by omega
      have PL := played_any ap len cap T wo (HT.out.below H1.out)
      have hok := playedN_ok T (min len 40)
      clear HT
      generalize playedN T (min len 40) = k at *
      obtain ⟨ka, kb, kc, kd, kl, ks⟩ := k
      obtain ⟨⟨a', b', c', d', l', s'⟩, o, hd⟩ : ∃ (k' : Ch) (o : Int), Ch.map ⟨ka, kb, kc, kd, kl, ks⟩ a = (k', o) := ⟨_, _, rfl⟩
      have HO : Hid (a < 32 ∨ 126 < a → o = a) := Lib.hid (fun h => by
        have h2 : (Ch.map ⟨ka, kb, kc, kd, kl, ks⟩ a).2 = o := by rw [hd]
        exact h2.symm.trans (ofM_out _ a h))
      have C1 := fun w => map_lit ka kb kc kd kl ks a a' b' c' d' l' s' o hd hok w
      have C2 := fun w => of_lit 0 a a (ofM_zero a) w
      clear hd hok
      go_wp2_with fail
      refine PL.mono ?_
      rintro e w2 ⟨rfl, hb⟩
      have H2 := Lib.hid (bstep H1.out hb)
      clear hb H1 PL
      go_wp2_with fail
      refine (C1 _).mono ?_
      rintro e w3 ⟨rfl, hb⟩
      have H3 := Lib.hid (bstep (H2.out.alloc H2.out.size _) hb)
      clear hb H2 C1
      go_wp2_with fail
      refine (C2 _).mono ?_
      rintro e w4 ⟨rfl, hb⟩
      have H4 := Lib.hid (bstep (H3.out.alloc H3.out.size _) hb)
      clear hb H3 C2
      by_cases t1 : a < 32
      · obtain rfl := HO.out (.inl t1)
        have t3 : ¬ 32 ≤ o := by omega
        go_wp2
        go_ret
        exact ⟨rfl, H4.out⟩
      · by_cases t2 : 126 < a
        · obtain rfl := HO.out (.inr t2)
          have t3 : 32 ≤ o := by omega
          have t4 : ¬ o ≤ 126 := by omega
          go_wp2
          go_ret
          exact ⟨rfl, H4.out⟩
        · have t3 : 32 ≤ a := by omega
          have t4 : a ≤ 126 := by omega
          go_wp2
          go_ret
          exact ⟨rfl, H4.out⟩

theorem charsetApart_walk {H : Type} (enc : TypeId × Value → H) (base : Nat) (W : World)
    (v0 : Value) (d0 : DataW H) (p0 : List MemPlace) (ok0 : Value.okWide Try.prog W .any base 21 v0) (k0 : DataW.Trod enc Try.prog W 0 (fun _ => true) true 21 v0 d0 p0)
    (v1 : Value) (d1 : DataW H) (p1 : List MemPlace) (ok1 : Value.okWide Try.prog W .any base 21 v1) (k1 : DataW.Trod enc Try.prog W 0 (fun _ => true) true 21 v1 d1 p1)
    (v2 : Value) (d2 : DataW H) (p2 : List MemPlace) (ok2 : Value.okWide Try.prog W .any base 22 v2) (k2 : DataW.Trod enc Try.prog W 0 (fun _ => true) true 22 v2 d2 p2) :
    Calls Try.prog 5 #[v0, v1, v2] W fun e w' => e = .returned (.bool true) ∧ Below W.heap.size W w' := by
  obtain ⟨a, rfl, _⟩ := open_int Try.underlying21 ok0 k0
  obtain ⟨b, rfl, _⟩ := open_int Try.underlying21 ok1 k1
  obtain ⟨ap, len, cap, T, rfl, hT⟩ := open_acts enc base W ok2 k2
  exact charsetApart_any a b ap len cap T W hT
end Go.Proofs.Ytdphccjeikiciaa.Lab
