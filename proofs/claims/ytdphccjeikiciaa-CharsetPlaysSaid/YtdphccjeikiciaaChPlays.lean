/- The Go law CharsetPlays: its walk. -/
import Derived.Test.YtdphccjeikiciaaChActs
import Derived.Deep.DeepCutAuto
import Derived.Deep.CutBlock
namespace Go.Proofs.Ytdphccjeikiciaa.Lab
open Go Go.RowKit Go.ChangeShapes Go.WideShapes Go.ChangeAt Go.Deep Go.Joins Go.ChangeMaps

theorem rdes_lit (a b c d l s p f a' b' c' d' l' s' : Int) (q : Bool) (h : Ch.des ⟨a, b, c, d, l, s⟩ p f = (⟨a', b', c', d', l', s'⟩, q)) (w : World) : Calls Try.prog 10 #[.agg #[.int .i64 a, .int .i64 b, .int .i64 c, .int .i64 d, .int .i64 l, .int .i64 s], .int .i64 p, .int .u8 f] w fun e w' => e = .returned (.tuple #[.agg #[.int .i64 a', .int .i64 b', .int .i64 c', .int .i64 d', .int .i64 l', .int .i64 s'], .bool q]) ∧ Below w.heap.size w w' := by
  have := rdes_any ⟨a, b, c, d, l, s⟩ p f w
  rw [h] at this
  exact this
theorem rlock_lit (a b c d l s f a' b' c' d' l' s' : Int) (q : Bool) (h : Ch.lock ⟨a, b, c, d, l, s⟩ f = (⟨a', b', c', d', l', s'⟩, q)) (w : World) : Calls Try.prog 12 #[.agg #[.int .i64 a, .int .i64 b, .int .i64 c, .int .i64 d, .int .i64 l, .int .i64 s], .int .u8 f] w fun e w' => e = .returned (.tuple #[.agg #[.int .i64 a', .int .i64 b', .int .i64 c', .int .i64 d', .int .i64 l', .int .i64 s'], .bool q]) ∧ Below w.heap.size w w' := by
  have := rlock_any ⟨a, b, c, d, l, s⟩ f w
  rw [h] at this
  exact this
theorem rone_lit (a b c d l s f a' b' c' d' l' s' : Int) (q : Bool) (h : Ch.one ⟨a, b, c, d, l, s⟩ f = (⟨a', b', c', d', l', s'⟩, q)) (w : World) : Calls Try.prog 14 #[.agg #[.int .i64 a, .int .i64 b, .int .i64 c, .int .i64 d, .int .i64 l, .int .i64 s], .int .i64 f] w fun e w' => e = .returned (.tuple #[.agg #[.int .i64 a', .int .i64 b', .int .i64 c', .int .i64 d', .int .i64 l', .int .i64 s'], .bool q]) ∧ Below w.heap.size w w' := by
  have := rone_any ⟨a, b, c, d, l, s⟩ f w
  rw [h] at this
  exact this
theorem rmap_lit (a b c d l s f a' b' c' d' l' s' : Int) (q : Int) (h : Ch.map ⟨a, b, c, d, l, s⟩ f = (⟨a', b', c', d', l', s'⟩, q)) (ok : Ch.Ok ⟨a, b, c, d, l, s⟩) (w : World) : Calls Try.prog 16 #[.agg #[.int .i64 a, .int .i64 b, .int .i64 c, .int .i64 d, .int .i64 l, .int .i64 s], .int .i32 f] w fun e w' => e = .returned (.tuple #[.agg #[.int .i64 a', .int .i64 b', .int .i64 c', .int .i64 d', .int .i64 l', .int .i64 s'], .int .i32 q]) ∧ Below w.heap.size w w' := by
  have := rmap_any ⟨a, b, c, d, l, s⟩ f w ok
  rw [h] at this
  exact this
theorem rnow_lit (a b c d l s q : Int) (h : Ch.now ⟨a, b, c, d, l, s⟩ = q) (ok : Ch.Ok ⟨a, b, c, d, l, s⟩) (w : World) : Calls Try.prog 19 #[.agg #[.int .i64 a, .int .i64 b, .int .i64 c, .int .i64 d, .int .i64 l, .int .i64 s]] w fun e w' => e = .returned (.int .i64 q) ∧ Below w.heap.size w w' := by
  have := rnow_any ⟨a, b, c, d, l, s⟩ w ok
  rw [h] at this
  exact this

theorem eqSets_same (a b c d : Int) (w : World) : (Op.equalIn 10000 23 (.agg #[.int .i64 a, .int .i64 b, .int .i64 c, .int .i64 d]) (.agg #[.int .i64 a, .int .i64 b, .int .i64 c, .int .i64 d])).run Try.prog w = .ok true w := by
  have := eqSets ⟨a, b, c, d, 0, 0⟩ ⟨a, b, c, d, 0, 0⟩ w
  simpa using this

theorem Lies.tail {w0 w : World} {p : Nat × Ch} {L : List (Nat × Ch)} (H : Lies w0 w (p :: L)) : Lies w0 w L :=
  ⟨H.1, (List.pairwise_cons.1 H.2.1).2, fun q hq => H.2.2 q (List.mem_cons_of_mem _ hq)⟩
theorem ActAt.newAt (w : World) (n : Nat) (hn : n = w.heap.size) (x : ActV) (T : TypeId) : ActAt (w.alloc (.cells #[.int .u8 x.what, .int .i8 x.place, .int .u8 x.byte, .int .i32 x.r] T)) n 0 x := by
  subst hn
  refine ⟨?_, ?_, ?_, ?_⟩ <;> (rw [World.cell?_alloc_at _ _ _ _ rfl]; rfl)

set_option maxRecDepth 100000 in
set_option maxHeartbeats 8000000 in
theorem charsetPlays_any (a : Option Addr) (len cap : Nat) (T : Nat → ActV) (w : World) (hT : IsActs w a len cap T) :
    Calls Try.prog 3 #[.slice a len cap] w fun e w' => e = .returned (.bool true) ∧ Below w.heap.size w w' := by
  have hlen := hT.1
  have hcap := hT.2.1
  have HT := Lib.hid hT
  clear hT
  go_enter Try.func3, Try.ntmps3
  have H0 := Lib.hid (((Lies.start w).new 0 0 0 0 0 0 25).new 0 0 0 0 0 0 27)
  rw [show (w.alloc (.cells #[.int .i64 0, .int .i64 0, .int .i64 0, .int .i64 0, .int .i64 0, .int .i64 0] 25)).heap.size = w.heap.size + 1 by simp] at H0
  go_wp2_with fail
  go_loopg [5] 81 (fun g v wr => ∃ (j : Nat) (k : Ch), g + j = 81 ∧ j ≤ 80 ∧ j ≤ len ∧ v = .int .i64 j ∧ k.Ok ∧ Hid (Lies w wr [(w.heap.size + 1, k), (w.heap.size, k)]))
  case atStart => exact ⟨0, Ch.zero, by omega, by omega, by omega, rfl, Ch.Ok.zero, H0⟩
  case round =>
    obtain ⟨j, k, hg, hj, hjl, rfl, hok, H1⟩ := hrel
    clear H0
    obtain ⟨wo, rfl⟩ : ∃ wo : World, wo = wr := ⟨_, rfl⟩
    have HOK := Lib.hid hok
    clear hok
    by_cases hc : j < len ∧ j < 80
    · obtain ⟨h1, h2⟩ := hc
      have h3 : (j : Int) < 80 := by omega
      obtain ⟨b, off, rfl, hb0, hA⟩ := HT.out.2.2.2 (by omega)
      obtain ⟨⟨x1, x2⟩, ⟨x3, x4⟩, ⟨x5, x6⟩, x7, x8⟩ := HT.out.2.2.1 j h1
      have HA : Hid (∀ w', Below w.heap.size w w' → ActAt w' b (off + j * 4) (T j)) := Lib.hid (fun w' hb => (hA j h1).below hb0 hb)
      generalize T j = x at *
      clear hA HT
      have wp1 : IntKind.i64.wrap x.place = x.place := by rw [IntKind.wrap_i64]; omega
      obtain ⟨q0, q1, q2, q3⟩ := HA.out _ H1.out.1
      obtain ⟨ka, kb, kc, kd, kl, ks⟩ := k
      have tm : x.what.tmod 8 = x.what % 8 := by rw [Int.tmod_eq_emod_of_nonneg x1]
      generalize x.what % 8 = m at *
      go_upto_block 2 with (fail)
      clear q0 q1 q2 q3 HA
      have B1 : Hid (wo.heap.size < (wo.alloc (.cells #[.int .u8 x.what, .int .i8 x.place, .int .u8 x.byte, .int .i32 x.r] 30)).heap.size) := Lib.hid (by simp)
      have A1 := Lib.hid (ActAt.newAt wo _ rfl x 30)
      have H2 := Lib.hid (H1.out.past (.cells #[.int .u8 x.what, .int .i8 x.place, .int .u8 x.byte, .int .i32 x.r] 30))
      have hn6 := (H1.out.at 0 rfl).2.1
      clear H1
      generalize wo.alloc (.cells #[.int .u8 x.what, .int .i8 x.place, .int .u8 x.byte, .int .i32 x.r] 30) = w1 at *
      generalize wo.heap.size = n6 at *
      have ne1 : ¬ n6 = w.heap.size := by omega
      have ne2 : ¬ w.heap.size = n6 := by omega
      have ne3 : ¬ n6 = w.heap.size + 1 := by omega
      have ne4 : ¬ w.heap.size + 1 = n6 := by omega
      go_cut [7, 8] (fun v7 v8 wc => ∃ (q : Bool) (k' : Ch), v7 = .bool q ∧ v8 = .bool q ∧ k'.Ok ∧ Hid (Lies w wc [(w.heap.size + 1, k'), (w.heap.size, k')]))
      case first =>
        obtain ⟨q0, q1, q2, q3⟩ := A1.out
        obtain ⟨⟨c1, c2, c3, c4, c5, c6⟩, f1, f2, f3, f4, f5, f6⟩ := H2.out.get 1 rfl
        simp only [Nat.zero_add] at q1 q2 q3
        by_cases m0 : m = 0
        · have e0 : (m == 0) = true := by simp [m0]
          clear m0
          obtain ⟨⟨a', b', c', d', l', s'⟩, q, hd⟩ : ∃ (k' : Ch) (q : Bool), Ch.des ⟨ka, kb, kc, kd, kl, ks⟩ x.place x.byte = (k', q) := ⟨_, _, rfl⟩
          have HO : Hid (Ch.Ok ⟨a', b', c', d', l', s'⟩) := Lib.hid (by have := HOK.out.des x.place x.byte; rw [hd] at this; exact this)
          have C1 := fun w => des_lit ka kb kc kd kl ks x.place x.byte a' b' c' d' l' s' q hd w
          have C2 := fun w => rdes_lit ka kb kc kd kl ks x.place x.byte a' b' c' d' l' s' q hd w
          clear hd HOK
          go_wp2_with fail
          refine (C1 _).mono ?_
          rintro e w5 ⟨rfl, hb⟩
          have H3 := Lib.hid (H2.out.on hb)
          have A2 := Lib.hid (ActAt.below A1.out B1.out hb)
          have B2 := Lib.hid (Nat.lt_of_lt_of_le B1.out hb.size)
          clear hb C1 H2 A1 B1 q0 q1 q2 q3 c1 c2 c3 c4 c5 c6 f1 f2 f3 f4 f5 f6
          obtain ⟨q0, q1, q2, q3⟩ := A2.out
          simp only [Nat.zero_add] at q1 q2 q3
          obtain ⟨⟨c1, c2, c3, c4, c5, c6⟩, f1, f2, f3, f4, f5, f6⟩ := H3.out.get 1 rfl
          obtain ⟨⟨d1, d2, d3, d4, d5, d6⟩, g1, g2, g3, g4, g5, g6⟩ := H3.out.get 0 rfl
          go_wp2_with fail
          refine (C2 _).mono ?_
          rintro e w6 ⟨rfl, hb⟩
          have H4 := Lib.hid ((H3.out.put 1 rfl ⟨a', b', c', d', l', s'⟩).on hb)
          clear hb C2 H3 A2 B2 q0 q1 q2 q3 c1 c2 c3 c4 c5 c6 f1 f2 f3 f4 f5 f6 d1 d2 d3 d4 d5 d6 g1 g2 g3 g4 g5 g6
          simp only [List.set_cons_zero, List.set_cons_succ] at H4
          obtain ⟨⟨d1, d2, d3, d4, d5, d6⟩, g1, g2, g3, g4, g5, g6⟩ := H4.out.get 0 rfl
          have H5 := Lib.hid (H4.out.put 0 rfl ⟨a', b', c', d', l', s'⟩)
          clear H4
          go_wp2_with fail
          go_meet
          case rel => exact ⟨q, _, rfl, rfl, HO.out, H5⟩
        · have e0 : (m == 0) = false := by simp [m0]
          clear m0
          by_cases m1 : m = 1
          · have e1 : (m == 1) = true := by simp [m1]
            clear m1
            obtain ⟨⟨a', b', c', d', l', s'⟩, q, hd⟩ : ∃ (k' : Ch) (q : Bool), Ch.des ⟨ka, kb, kc, kd, kl, ks⟩ x.place x.byte = (k', q) := ⟨_, _, rfl⟩
            have HO : Hid (Ch.Ok ⟨a', b', c', d', l', s'⟩) := Lib.hid (by have := HOK.out.des x.place x.byte; rw [hd] at this; exact this)
            have C1 := fun w => des_lit ka kb kc kd kl ks x.place x.byte a' b' c' d' l' s' q hd w
            have C2 := fun w => rdes_lit ka kb kc kd kl ks x.place x.byte a' b' c' d' l' s' q hd w
            clear hd HOK
            go_wp2_with fail
            refine (C1 _).mono ?_
            rintro e w5 ⟨rfl, hb⟩
            have H3 := Lib.hid (H2.out.on hb)
            have A2 := Lib.hid (ActAt.below A1.out B1.out hb)
            have B2 := Lib.hid (Nat.lt_of_lt_of_le B1.out hb.size)
            clear hb C1 H2 A1 B1 q0 q1 q2 q3 c1 c2 c3 c4 c5 c6 f1 f2 f3 f4 f5 f6
            obtain ⟨q0, q1, q2, q3⟩ := A2.out
            simp only [Nat.zero_add] at q1 q2 q3
            obtain ⟨⟨c1, c2, c3, c4, c5, c6⟩, f1, f2, f3, f4, f5, f6⟩ := H3.out.get 1 rfl
            obtain ⟨⟨d1, d2, d3, d4, d5, d6⟩, g1, g2, g3, g4, g5, g6⟩ := H3.out.get 0 rfl
            go_wp2_with fail
            refine (C2 _).mono ?_
            rintro e w6 ⟨rfl, hb⟩
            have H4 := Lib.hid ((H3.out.put 1 rfl ⟨a', b', c', d', l', s'⟩).on hb)
            clear hb C2 H3 A2 B2 q0 q1 q2 q3 c1 c2 c3 c4 c5 c6 f1 f2 f3 f4 f5 f6 d1 d2 d3 d4 d5 d6 g1 g2 g3 g4 g5 g6
            simp only [List.set_cons_zero, List.set_cons_succ] at H4
            obtain ⟨⟨d1, d2, d3, d4, d5, d6⟩, g1, g2, g3, g4, g5, g6⟩ := H4.out.get 0 rfl
            have H5 := Lib.hid (H4.out.put 0 rfl ⟨a', b', c', d', l', s'⟩)
            clear H4
            go_wp2_with fail
            go_meet
            case rel => exact ⟨q, _, rfl, rfl, HO.out, H5⟩
          · have e1 : (m == 1) = false := by simp [m1]
            clear m1
            by_cases m2 : m = 2
            · have e2 : (m == 2) = true := by simp [m2]
              clear m2
              obtain ⟨⟨a', b', c', d', l', s'⟩, q, hd⟩ : ∃ (k' : Ch) (q : Bool), Ch.lock ⟨ka, kb, kc, kd, kl, ks⟩ x.byte = (k', q) := ⟨_, _, rfl⟩
              have HO : Hid (Ch.Ok ⟨a', b', c', d', l', s'⟩) := Lib.hid (by have := HOK.out.lock x.byte; rw [hd] at this; exact this)
              have C1 := fun w => lock_lit ka kb kc kd kl ks x.byte a' b' c' d' l' s' q hd w
              have C2 := fun w => rlock_lit ka kb kc kd kl ks x.byte a' b' c' d' l' s' q hd w
              clear hd HOK
              go_wp2_with fail
              refine (C1 _).mono ?_
              rintro e w5 ⟨rfl, hb⟩
              have H3 := Lib.hid (H2.out.on hb)
              have A2 := Lib.hid (ActAt.below A1.out B1.out hb)
              have B2 := Lib.hid (Nat.lt_of_lt_of_le B1.out hb.size)
              clear hb C1 H2 A1 B1 q0 q1 q2 q3 c1 c2 c3 c4 c5 c6 f1 f2 f3 f4 f5 f6
              obtain ⟨q0, q1, q2, q3⟩ := A2.out
              simp only [Nat.zero_add] at q1 q2 q3
              obtain ⟨⟨c1, c2, c3, c4, c5, c6⟩, f1, f2, f3, f4, f5, f6⟩ := H3.out.get 1 rfl
              obtain ⟨⟨d1, d2, d3, d4, d5, d6⟩, g1, g2, g3, g4, g5, g6⟩ := H3.out.get 0 rfl
              go_wp2_with fail
              refine (C2 _).mono ?_
              rintro e w6 ⟨rfl, hb⟩
              have H4 := Lib.hid ((H3.out.put 1 rfl ⟨a', b', c', d', l', s'⟩).on hb)
              clear hb C2 H3 A2 B2 q0 q1 q2 q3 c1 c2 c3 c4 c5 c6 f1 f2 f3 f4 f5 f6 d1 d2 d3 d4 d5 d6 g1 g2 g3 g4 g5 g6
              simp only [List.set_cons_zero, List.set_cons_succ] at H4
              obtain ⟨⟨d1, d2, d3, d4, d5, d6⟩, g1, g2, g3, g4, g5, g6⟩ := H4.out.get 0 rfl
              have H5 := Lib.hid (H4.out.put 0 rfl ⟨a', b', c', d', l', s'⟩)
              clear H4
              go_wp2_with fail
              go_meet
              case rel => exact ⟨q, _, rfl, rfl, HO.out, H5⟩
            · have e2 : (m == 2) = false := by simp [m2]
              clear m2
              by_cases m3 : m = 3
              · have e3 : (m == 3) = true := by simp [m3]
                clear m3
                obtain ⟨⟨a', b', c', d', l', s'⟩, q, hd⟩ : ∃ (k' : Ch) (q : Bool), Ch.one ⟨ka, kb, kc, kd, kl, ks⟩ x.place = (k', q) := ⟨_, _, rfl⟩
                have HO : Hid (Ch.Ok ⟨a', b', c', d', l', s'⟩) := Lib.hid (by have := HOK.out.one x.place; rw [hd] at this; exact this)
                have C1 := fun w => one_lit ka kb kc kd kl ks x.place a' b' c' d' l' s' q hd w
                have C2 := fun w => rone_lit ka kb kc kd kl ks x.place a' b' c' d' l' s' q hd w
                clear hd HOK
                go_wp2_with fail
                refine (C1 _).mono ?_
                rintro e w5 ⟨rfl, hb⟩
                have H3 := Lib.hid (H2.out.on hb)
                have A2 := Lib.hid (ActAt.below A1.out B1.out hb)
                have B2 := Lib.hid (Nat.lt_of_lt_of_le B1.out hb.size)
                clear hb C1 H2 A1 B1 q0 q1 q2 q3 c1 c2 c3 c4 c5 c6 f1 f2 f3 f4 f5 f6
                obtain ⟨q0, q1, q2, q3⟩ := A2.out
                simp only [Nat.zero_add] at q1 q2 q3
                obtain ⟨⟨c1, c2, c3, c4, c5, c6⟩, f1, f2, f3, f4, f5, f6⟩ := H3.out.get 1 rfl
                obtain ⟨⟨d1, d2, d3, d4, d5, d6⟩, g1, g2, g3, g4, g5, g6⟩ := H3.out.get 0 rfl
                go_wp2_with fail
                refine (C2 _).mono ?_
                rintro e w6 ⟨rfl, hb⟩
                have H4 := Lib.hid ((H3.out.put 1 rfl ⟨a', b', c', d', l', s'⟩).on hb)
                clear hb C2 H3 A2 B2 q0 q1 q2 q3 c1 c2 c3 c4 c5 c6 f1 f2 f3 f4 f5 f6 d1 d2 d3 d4 d5 d6 g1 g2 g3 g4 g5 g6
                simp only [List.set_cons_zero, List.set_cons_succ] at H4
                obtain ⟨⟨d1, d2, d3, d4, d5, d6⟩, g1, g2, g3, g4, g5, g6⟩ := H4.out.get 0 rfl
                have H5 := Lib.hid (H4.out.put 0 rfl ⟨a', b', c', d', l', s'⟩)
                clear H4
                go_wp2_with fail
                go_meet
                case rel => exact ⟨q, _, rfl, rfl, HO.out, H5⟩
              · have e3 : (m == 3) = false := by simp [m3]
                clear m3
                obtain ⟨⟨a', b', c', d', l', s'⟩, q, hd⟩ : ∃ (k' : Ch) (q : Int), Ch.map ⟨ka, kb, kc, kd, kl, ks⟩ x.r = (k', q) := ⟨_, _, rfl⟩
                have HO : Hid (Ch.Ok ⟨a', b', c', d', l', s'⟩) := Lib.hid (by have := HOK.out.map x.r; rw [hd] at this; exact this)
                have C1 := fun w => map_lit ka kb kc kd kl ks x.r a' b' c' d' l' s' q hd HOK.out w
                have C2 := fun w => rmap_lit ka kb kc kd kl ks x.r a' b' c' d' l' s' q hd HOK.out w
                clear hd HOK
                go_wp2_with fail
                refine (C1 _).mono ?_
                rintro e w5 ⟨rfl, hb⟩
                have H3 := Lib.hid (H2.out.on hb)
                have A2 := Lib.hid (ActAt.below A1.out B1.out hb)
                have B2 := Lib.hid (Nat.lt_of_lt_of_le B1.out hb.size)
                clear hb C1 H2 A1 B1 q0 q1 q2 q3 c1 c2 c3 c4 c5 c6 f1 f2 f3 f4 f5 f6
                obtain ⟨q0, q1, q2, q3⟩ := A2.out
                simp only [Nat.zero_add] at q1 q2 q3
                have l0 := (H3.out.at 0 rfl).2.1
                have l1 := B2.out
                obtain ⟨⟨d1, d2, d3, d4, d5, d6⟩, g1, g2, g3, g4, g5, g6⟩ := H3.out.get 0 rfl
                go_wp2_with fail
                refine (C2 _).mono ?_
                rintro e w6 ⟨rfl, hb⟩
                have H4 := Lib.hid (H3.out.on_new hb)
                have H3X := H3
                clear hb C2 H3 A2 B2 q0 q1 q2 q3 d1 d2 d3 d4 d5 d6 g1 g2 g3 g4 g5 g6 l0 l1
                have hn9 := (H3X.out.at 0 rfl).2.1
                clear H3X
                generalize w5.heap.size = n9 at *
                obtain ⟨⟨b1, b2, b3, b4, b5, b6⟩, -⟩ := H4.out.get 0 rfl
                obtain ⟨⟨c1, c2, c3, c4, c5, c6⟩, f1, f2, f3, f4, f5, f6⟩ := H4.out.get 2 rfl
                obtain ⟨⟨d1, d2, d3, d4, d5, d6⟩, g1, g2, g3, g4, g5, g6⟩ := H4.out.get 1 rfl
                have l0 := (H4.out.at 0 rfl).2.1
                have l1 := (H4.out.at 1 rfl).2.1
                have l2 := (H4.out.at 2 rfl).2.1
                have H5 := Lib.hid ((((H4.out.put 2 rfl ⟨a', b', c', d', l', s'⟩).put 1 rfl ⟨a', b', c', d', l', s'⟩).new a' b' c' d' l' s' 27).tail.tail)
                clear H4
                simp only [List.set_cons_zero, List.set_cons_succ] at H5
                have ne5 : ¬ n9 = w.heap.size := by omega
                have ne6 : ¬ w.heap.size = n9 := by omega
                have ne7 : ¬ n9 = w.heap.size + 1 := by omega
                have ne8 : ¬ w.heap.size + 1 = n9 := by omega
                go_wp2_with fail
                go_meet
                case rel => exact ⟨true, _, by simp, rfl, HO.out, H5⟩
      case rest =>
        clear H2 A1 B1 hn6 ne1 ne2 ne3 ne4 HOK
        obtain ⟨q, k', rfl, rfl, hok', H2⟩ := hcut
        obtain ⟨wp, rfl⟩ : ∃ wp : World, wp = wc := ⟨_, rfl⟩
        obtain ⟨a', b', c', d', l', s'⟩ := k'
        obtain ⟨p, hp⟩ : ∃ p, Ch.now ⟨a', b', c', d', l', s'⟩ = p := ⟨_, rfl⟩
        have C1 := fun w => sets_lit a' b' c' d' l' s' w
        have C2 := fun w => now_lit a' b' c' d' l' s' p hp w
        have C3 := fun w => rnow_lit a' b' c' d' l' s' p hp hok' w
        have hq2 := fun w => eqSets_same a' b' c' d' w
        have HO := Lib.hid hok'
        clear hp hok' x1 x2 x3 x4 x5 x6 x7 x8 wp1 tm
        go_upto_region 24 with (fail)
        have H := H2.out.drew
        clear H2
        refine wp_region_held_drew (S := fun w' => (w'.cell? ⟨w.heap.size + 1, 0, none⟩ = some (.int .i64 a') ∧ w'.cell? ⟨w.heap.size + 1, 1, none⟩ = some (.int .i64 b') ∧ w'.cell? ⟨w.heap.size + 1, 2, none⟩ = some (.int .i64 c') ∧ w'.cell? ⟨w.heap.size + 1, 3, none⟩ = some (.int .i64 d') ∧ w'.cell? ⟨w.heap.size + 1, 4, none⟩ = some (.int .i64 l') ∧ w'.cell? ⟨w.heap.size + 1, 5, none⟩ = some (.int .i64 s')) ∧ (w'.cell? ⟨w.heap.size, 0, none⟩ = some (.int .i64 a') ∧ w'.cell? ⟨w.heap.size, 1, none⟩ = some (.int .i64 b') ∧ w'.cell? ⟨w.heap.size, 2, none⟩ = some (.int .i64 c') ∧ w'.cell? ⟨w.heap.size, 3, none⟩ = some (.int .i64 d') ∧ w'.cell? ⟨w.heap.size, 4, none⟩ = some (.int .i64 l') ∧ w'.cell? ⟨w.heap.size, 5, none⟩ = some (.int .i64 s'))) (by kernel_rfl) ?_ (fun hHeld => ?_)
        · exact ⟨(H.get 0 rfl).1, (H.get 1 rfl).1⟩
        refine take_at (i := 0) (v := ?_) rfl (by kernel_rfl) (by kernel_rfl) (by kernel_rfl) (fun _ _ _ h => h) (by kernel_rfl) (by assumption) ?_ ?_
        rotate_left
        · (intro w hSw; (try dsimp only at hSw); go_simp; try with_reducible rfl)
        simp only [Act.put, List.setIfInBounds_toArray, List.set_cons_zero, List.set_cons_succ]
        refine take_at (i := 1) (v := ?_) rfl (by kernel_rfl) (by kernel_rfl) (by kernel_rfl) (fun _ _ _ h => h) (by kernel_rfl) (by assumption) ?_ ?_
        rotate_left
        · (intro w hSw; (try dsimp only at hSw); go_simp; try with_reducible rfl)
        simp only [Act.put, List.setIfInBounds_toArray, List.set_cons_zero, List.set_cons_succ]
        refine take_at (i := 2) (v := ?_) rfl (by kernel_rfl) (by kernel_rfl) (by kernel_rfl) (fun _ _ _ h => h) (by kernel_rfl) (by assumption) ?_ ?_
        rotate_left
        · (intro w hSw; (try dsimp only at hSw); go_simp; try with_reducible rfl)
        simp only [Act.put, List.setIfInBounds_toArray, List.set_cons_zero, List.set_cons_succ]
        refine take_at (i := 3) (v := ?_) rfl (by kernel_rfl) (by kernel_rfl) (by kernel_rfl) (fun _ _ _ h => h) (by kernel_rfl) (by assumption) ?_ ?_
        rotate_left
        · (intro w hSw; (try dsimp only at hSw); go_simp; try with_reducible rfl)
        simp only [Act.put, List.setIfInBounds_toArray, List.set_cons_zero, List.set_cons_succ]
        refine take_at (i := 4) (v := ?_) rfl (by kernel_rfl) (by kernel_rfl) (by kernel_rfl) (fun _ _ _ h => h) (by kernel_rfl) (by assumption) ?_ ?_
        rotate_left
        · (intro w hSw; (try dsimp only at hSw); go_simp; try with_reducible rfl)
        simp only [Act.put, List.setIfInBounds_toArray, List.set_cons_zero, List.set_cons_succ]
        refine take_at (i := 6) (v := ?_) rfl (by kernel_rfl) (by kernel_rfl) (by kernel_rfl) (fun _ _ _ h => h) (by kernel_rfl) (by assumption) ?_ ?_
        rotate_left
        · (intro w hSw; (try dsimp only at hSw); go_simp; try with_reducible rfl)
        simp only [Act.put, List.setIfInBounds_toArray, List.set_cons_zero, List.set_cons_succ]
        refine take_at (i := 7) (v := ?_) rfl (by kernel_rfl) (by kernel_rfl) (by kernel_rfl) (fun _ _ _ h => h) (by kernel_rfl) (by assumption) ?_ ?_
        rotate_left
        · (intro w hSw; (try dsimp only at hSw); go_simp; try with_reducible rfl)
        simp only [Act.put, List.setIfInBounds_toArray, List.set_cons_zero, List.set_cons_succ]
        refine do_at (i := 5) rfl (by kernel_rfl) (by kernel_rfl) (fun K hK => ?_)
        go_simp
        refine (C1 _).mono ?_
        rintro e w6 ⟨rfl, hb⟩
        have H' := H.on hb
        clear H hb hHeld
        have H := H'
        clear H'
        go_wp2_with fail
        refine hK.out _ _ ?_ (fun hHeld => ?_)
        · exact ⟨(H.get 0 rfl).1, (H.get 1 rfl).1⟩
        clear hK K
        try simp only [Act.put, List.setIfInBounds_toArray, List.set_cons_zero, List.set_cons_succ]
        refine take_at (i := 8) (v := ?_) rfl (by kernel_rfl) (by kernel_rfl) (by kernel_rfl) (fun _ _ _ h => h) (by kernel_rfl) (by assumption) ?_ ?_
        rotate_left
        · (intro w hSw; (try dsimp only at hSw); go_simp; try with_reducible rfl)
        simp only [Act.put, List.setIfInBounds_toArray, List.set_cons_zero, List.set_cons_succ]
        refine take_at (i := 9) (v := ?_) rfl (by kernel_rfl) (by kernel_rfl) (by kernel_rfl) (fun _ _ _ h => h) (by kernel_rfl) (by assumption) ?_ ?_
        rotate_left
        · (intro w hSw; (try dsimp only at hSw); go_simp; try with_reducible rfl)
        simp only [Act.put, List.setIfInBounds_toArray, List.set_cons_zero, List.set_cons_succ]
        refine take_at (i := 10) (v := ?_) rfl (by kernel_rfl) (by kernel_rfl) (by kernel_rfl) (fun _ _ _ h => h) (by kernel_rfl) (by assumption) ?_ ?_
        rotate_left
        · (intro w hSw; (try dsimp only at hSw); go_simp; try with_reducible rfl)
        simp only [Act.put, List.setIfInBounds_toArray, List.set_cons_zero, List.set_cons_succ]
        refine take_at (i := 11) (v := ?_) rfl (by kernel_rfl) (by kernel_rfl) (by kernel_rfl) (fun _ _ _ h => h) (by kernel_rfl) (by assumption) ?_ ?_
        rotate_left
        · (intro w hSw; (try dsimp only at hSw); go_simp; try with_reducible rfl)
        simp only [Act.put, List.setIfInBounds_toArray, List.set_cons_zero, List.set_cons_succ]
        refine take_at (i := 13) (v := ?_) rfl (by kernel_rfl) (by kernel_rfl) (by kernel_rfl) (fun _ _ _ h => h) (by kernel_rfl) (by assumption) ?_ ?_
        rotate_left
        · (intro w hSw; (try dsimp only at hSw); go_simp; try with_reducible rfl)
        simp only [Act.put, List.setIfInBounds_toArray, List.set_cons_zero, List.set_cons_succ]
        refine do_at (i := 12) rfl (by kernel_rfl) (by kernel_rfl) (fun K hK => ?_)
        go_simp
        refine (C2 _).mono ?_
        rintro e w6 ⟨rfl, hb⟩
        have H' := H.on hb
        clear H hb hHeld
        have H := H'
        clear H'
        go_wp2_with fail
        refine hK.out _ _ ?_ (fun hHeld => ?_)
        · exact ⟨(H.get 0 rfl).1, (H.get 1 rfl).1⟩
        clear hK K
        try simp only [Act.put, List.setIfInBounds_toArray, List.set_cons_zero, List.set_cons_succ]
        refine do_at (i := 14) rfl (by kernel_rfl) (by kernel_rfl) (fun K hK => ?_)
        go_simp
        refine (C3 _).mono ?_
        rintro e w6 ⟨rfl, hb⟩
        have H' := H.on hb
        clear H hb hHeld
        have H := H'
        clear H'
        go_wp2_with fail
        refine hK.out _ _ ?_ (fun hHeld => ?_)
        · exact ⟨(H.get 0 rfl).1, (H.get 1 rfl).1⟩
        clear hK K
        try simp only [Act.put, List.setIfInBounds_toArray, List.set_cons_zero, List.set_cons_succ]
        refine take_at (i := 15) (v := ?_) rfl (by kernel_rfl) (by kernel_rfl) (by kernel_rfl) (fun _ _ _ h => h) (by kernel_rfl) (by assumption) ?_ ?_
        rotate_left
        · (intro w hSw; (try dsimp only at hSw); go_simp; try with_reducible rfl)
        simp only [Act.put, List.setIfInBounds_toArray, List.set_cons_zero, List.set_cons_succ]
        refine take_at (i := 16) (v := ?_) rfl (by kernel_rfl) (by kernel_rfl) (by kernel_rfl) (fun _ _ _ h => h) (by kernel_rfl) (by assumption) ?_ ?_
        rotate_left
        · (intro w hSw; (try dsimp only at hSw); go_simp; try with_reducible rfl)
        simp only [Act.put, List.setIfInBounds_toArray, List.set_cons_zero, List.set_cons_succ]
        refine wpAnyH_done (by kernel_rfl) ?_ _
        have H3 := Lib.hid H
        clear H hHeld C1 C2 C3 hq2
        go_wp2
        go_roundg (gk - 1)
        case measure => omega
        case rel => exact ⟨j + 1, ⟨a', b', c', d', l', s'⟩, by omega, by omega, by omega, by simp, HO.out, H3⟩
    · have hcc : ¬ ((j : Int) < (len : Int)) ∨ ¬ ((j : Int) < 80) := by omega
      clear HT hc
      have H2 := Lib.hid H1.out.1
      clear H1
      have hl : ((j : Int) < (len : Int)) ∨ ¬ ((j : Int) < (len : Int)) := by omega
      rcases hcc with hcc | hcc
      · clear hl
        go_wp2_with fail
        refine (works_any _).mono ?_
        rintro e w6 ⟨rfl, hb⟩
        have H3 := Lib.hid (bstep H2.out hb)
        clear hb
        go_wp2
        go_ret
        exact ⟨rfl, H3.out⟩
      · rcases hl with hl | hl
        · go_wp2_with fail
          refine (works_any _).mono ?_
          rintro e w6 ⟨rfl, hb⟩
          have H3 := Lib.hid (bstep H2.out hb)
          clear hb
          go_wp2
          go_ret
          exact ⟨rfl, H3.out⟩
        · go_wp2_with fail
          refine (works_any _).mono ?_
          rintro e w6 ⟨rfl, hb⟩
          have H3 := Lib.hid (bstep H2.out hb)
          clear hb
          go_wp2
          go_ret
          exact ⟨rfl, H3.out⟩

theorem charsetPlays_walk {H : Type} (enc : TypeId × Value → H) (base : Nat) (W : World)
    (v0 : Value) (d0 : DataW H) (p0 : List MemPlace) (ok0 : Value.okWide Try.prog W .any base 22 v0) (k0 : DataW.Trod enc Try.prog W 0 (fun _ => true) true 22 v0 d0 p0) :
    Calls Try.prog 3 #[v0] W fun e w' => e = .returned (.bool true) ∧ Below W.heap.size W w' := by
  obtain ⟨a, len, cap, T, rfl, hT⟩ := open_acts enc base W ok0 k0
  exact charsetPlays_any a len cap T W hT
end Go.Proofs.Ytdphccjeikiciaa.Lab
