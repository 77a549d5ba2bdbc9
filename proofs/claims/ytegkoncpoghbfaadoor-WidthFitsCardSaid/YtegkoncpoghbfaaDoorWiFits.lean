/- The Go law WidthFits: what fits is a beginning, and all that follows. -/
import Derived.Test.YtegkoncpoghbfaaDoorWiWorks
import Derived.Test.YtegkoncpoghbfaaDoorShelf
import Derived.Lib.RuneCountTail
import Derived.Deep.DeepCutAuto
import Derived.Deep.CutBlock
namespace Go.Proofs.YtegkoncpoghbfaaDoor.Lab
open Go.RowKit Go.Lib

theorem u8_below {w w' : World} (h : Utf8Tabs 3 4 w) (hb : Below w.heap.size w w') : Utf8Tabs 3 4 w' :=
  ⟨fun c hc => (hb.cell (World.block_lt_of_cell? w _ (h.1 c hc))).trans (h.1 c hc),
   fun i hi => ⟨(hb.cell (World.block_lt_of_cell? w _ (h.2 i hi).1)).trans (h.2 i hi).1, (hb.cell (World.block_lt_of_cell? w _ (h.2 i hi).2)).trans (h.2 i hi).2⟩⟩

/-- All tables lie in memory; nothing elder has turned. -/
def Su (w0 w : World) : Prop := Tabs w ∧ Utf8Tabs 3 4 w ∧ Below w0.heap.size w0 w
theorem Su.here {w : World} (h : Tabs w) (u : Utf8Tabs 3 4 w) : Su w w := ⟨h, u, Below.refl _ _⟩
theorem Su.on {w0 w w' : World} (h : Su w0 w) (hb : Below w.heap.size w w') : Su w0 w' := ⟨h.1.below hb, u8_below h.2.1 hb, h.2.2.trans (hb.mono h.2.2.size)⟩

theorem pre_list (s : ByteArray) (p : Nat) : (s.extract 0 p).data.toList = s.data.toList.take p := by
  simp
theorem pre_size (s : ByteArray) (p : Nat) (h : p ≤ s.size) : (s.extract 0 p).size = p := by
  rw [size_eq, pre_list, List.length_take, ← size_eq]; omega
theorem pre_pre (s : ByteArray) (p q : Nat) (h : q ≤ p) : (s.extract 0 p).extract 0 q = s.extract 0 q := by
  apply ByteArray.ext
  apply Array.toList_inj.1
  rw [pre_list, pre_list, pre_list, List.take_take, Nat.min_eq_left h]
theorem tx_pre (c : Int) (s : ByteArray) : tx (s.extract 0 (fitN c s)) = fitC c s := by
  unfold tx
  rw [pre_list]
  exact fit_txt s.data.toList c
theorem next_bad (c : Int) (s : ByteArray) (h : fitN c s < s.size) :
    1 ≤ (decodeGo (s.extract (fitN c s) s.size)).2 ∧ c < fitC c s + colI (decodeGo (s.extract (fitN c s) s.size)).1 := by
  have hz : (s.extract (fitN c s) s.size).size ≠ 0 := by rw [tail_size]; omega
  have e : decodeGo (s.extract (fitN c s) s.size) = decodeL (s.data.toList.drop (fitN c s)) := by
    unfold decodeGo
    rw [if_neg hz, tail_decode, decodeL_drop]
    rfl
  rw [e]
  exact ⟨dec_ge _, fit_next s.data.toList c (by rw [← size_eq]; exact h)⟩
theorem fit_full (s : ByteArray) (c : Int) (h : tx s ≤ c) : fitN c s = s.size ∧ fitC c s = tx s := by
  have := fit_all s.data.toList c h
  unfold fitN fitC
  rw [this]
  exact ⟨size_eq s |>.symm ▸ rfl, rfl⟩

set_option maxHeartbeats 1000000 in
theorem hasPrefix_yes (s t : ByteArray) (h1 : t.size ≤ s.size) (h2 : s.extract 0 t.size = t) (w : World) :
    Calls Tryd.prog 10 #[.string s, .string t] w fun e w' => e = .returned (.bool true) ∧ w = w' := by
  have c : ∀ w, Calls Tryd.prog 18 #[.string s, .string t] w fun e w' => e = .returned (.bool true) ∧ w = w' := by
    intro w
    go_enter Tryd.func18, Tryd.ntmps18
    go_wp2
    go_ret
    exact ⟨rfl, rfl⟩
  clear h1 h2
  go_enter Tryd.func10, Tryd.ntmps10
  go_wp2_with fail
  refine (c _).mono ?_
  rintro e w5 ⟨rfl, rfl⟩
  go_wp2
  go_ret
  exact ⟨rfl, rfl⟩

set_option maxRecDepth 100000 in
set_option maxHeartbeats 4000000 in
theorem widthFits_any (s : ByteArray) (x y : Int) (x0 : 0 ≤ x) (x1 : x ≤ 255) (y0 : 0 ≤ y) (y1 : y ≤ 255) {w : World} (hT : Tabs w) (hU : Utf8Tabs 3 4 w) :
    Calls Tryd.prog 3 #[.string s, .agg #[.int .u8 x, .int .u8 y]] w fun e w' => e = .returned (.bool true) ∧ Below w.heap.size w w' := by
  have H0 := Lib.hid (Su.here hT hU)
  clear hT hU
  go_enter Tryd.func3, Tryd.ntmps3
  go_wp2_with fail
  have H1 := Lib.hid (H0.out.on ((Below.refl _ _).alloc (Nat.le_refl _) (.cells #[.int .u8 x, .int .u8 y] 22)))
  have N1 := Lib.hid (show (w.alloc (.cells #[.int .u8 x, .int .u8 y] 22)).cell? ⟨w.heap.size, 0, none⟩ = some (.int .u8 x) ∧ (w.alloc (.cells #[.int .u8 x, .int .u8 y] 22)).cell? ⟨w.heap.size, 1, none⟩ = some (.int .u8 y) from ⟨by rw [World.cell?_alloc_at _ _ _ _ rfl]; rfl, by rw [World.cell?_alloc_at _ _ _ _ rfl]; rfl⟩)
  refine (works_any H1.out.1).mono ?_
  rintro e w1 ⟨rfl, hb⟩
  have H2 := Lib.hid (H1.out.on hb)
  have c0 : w1.cell? ⟨w.heap.size, 0, none⟩ = some (.int .u8 x) := (hb.cell (p := ⟨w.heap.size, 0, none⟩) (by simp)).trans N1.out.1
  have c1 : w1.cell? ⟨w.heap.size, 1, none⟩ = some (.int .u8 y) := (hb.cell (p := ⟨w.heap.size, 1, none⟩) (by simp)).trans N1.out.2
  clear hb H1 N1
  have hz := Lib.hid (show (s.extract 0 (min (s.size : Int) 300).toNat).size ≤ 300 by rw [pre_size _ _ (by omega)]; omega)
  go_upto_region 4 with (fail)
  generalize s.extract 0 (min (s.size : Int) 300).toNat = s at *
  go_cut [5, 6] (fun va vb wc => ∃ a b : Int, va = .int .i64 a ∧ vb = .int .i64 b ∧ 0 ≤ a ∧ a ≤ b ∧ b ≤ 255 ∧ Hid (Su w wc))
  case first =>
    go_quiet (fail)
    have H3 := Lib.hid (H2.out.on (below_drewN (Below.refl _ _) nq))
    go_wp2
    go_meet
    case rel => exact ⟨min x y, max x y, rfl, rfl, by omega, by omega, by omega, H3⟩
  case rest =>
    obtain ⟨a, b, rfl, rfl, a0, hab, b1, H3⟩ := hcut
    obtain ⟨w3, rfl⟩ : ∃ wx : World, wx = wc := ⟨_, rfl⟩
    clear c0 c1 H2 H0
    have hs := hz.out
    clear hz
    have hsm : s.size ≤ 1000000 := by omega
    -- what fits into few columns, and into more
    have C1 := fun (w : World) (h : Tabs w) => fit_any s a w h hsm
    have C2 := fun (w : World) (h : Tabs w) => fit_any s b w h hsm
    have C3 := fun (w : World) (h : Tabs w) => text_any s w h hsm
    have C4 := fun (w : World) (h : Tabs w) => fit_any s (tx s) w h hsm
    rw [(fit_full s (tx s) (Int.le_refl _)).1, (fit_full s (tx s) (Int.le_refl _)).2, extract_all] at C4
    have pa := fitN_le a s
    have pb := fitN_le b s
    have zA := pre_size s _ pa
    have zB := pre_size s _ pb
    have C5 := fun (w : World) => hasPrefix_yes s (s.extract 0 (fitN a s)) (by rw [zA]; exact pa) (by rw [zA]) w
    have hmon : fitN a s ≤ fitN b s ∧ fitC a s ≤ fitC b s := fit_mono s.data.toList a b hab
    have C6 := fun (w : World) => hasPrefix_yes (s.extract 0 (fitN b s)) (s.extract 0 (fitN a s)) (by rw [zA, zB]; exact hmon.1) (by rw [zA, pre_pre s _ _ hmon.1]) w
    have C7 := fun (w : World) => hasPrefix_yes s (s.extract 0 (fitN b s)) (by rw [zB]; exact pb) (by rw [zB]) w
    have C8 := fun (w : World) (h : Tabs w) => text_val (s.extract 0 (fitN a s)) _ (tx_pre a s) (by rw [zA]; omega) h
    have C9 := fun (w : World) (h : Tabs w) => text_val (s.extract 0 (fitN b s)) _ (tx_pre b s) (by rw [zB]; omega) h
    have n1 : fitC a s ≤ a := (fit_bd s.data.toList a).2.1 a0
    have n2 : fitC a s ≤ fitC b s := hmon.2
    have n3 := (fit_bd s.data.toList a).1
    have n0 : 0 ≤ fitC a s := n3
    have HF := Lib.hid (fit_full s a)
    have HX := Lib.hid (next_bad a s)
    clear n3 hmon
    have nb := txt_bd s.data.toList
    have nT : 0 ≤ tx s ∧ tx s ≤ 600 := by
      have := size_eq s
      unfold tx
      omega
    clear nb
    have SX : s.toList = s.toList := rfl
    clear SX
    have HA := Lib.hid (show (fitN a s = s.size → s.extract 0 (fitN a s) = s) from fun h => by rw [h, extract_all])
    have zA2 : (s.extract 0 (fitN a s)).size ≤ s.size := by rw [zA]; exact pa
    have HZ := Lib.hid zA
    have HT := Lib.hid (show tx s ≤ a → fitN a s = s.size from fun h => (HF.out h).1)
    clear HF zA zB pa pb
    generalize s.extract 0 (fitN a s) = A at *
    generalize s.extract 0 (fitN b s) = B at *
    generalize fitC a s = n at *
    generalize fitC b s = m at *
    generalize tx s = T at *
    go_wp2_with fail
    refine (C1 _ H3.out.1).mono ?_
    rintro e w4 ⟨rfl, hb⟩
    have H4 := Lib.hid (H3.out.on hb)
    clear hb H3
    go_wp2_with fail
    refine (C2 _ H4.out.1).mono ?_
    rintro e w5 ⟨rfl, hb⟩
    have H5 := Lib.hid (H4.out.on hb)
    clear hb H4
    go_wp2_with fail
    refine (C3 _ H5.out.1).mono ?_
    rintro e w6 ⟨rfl, hb⟩
    have H6 := Lib.hid (H5.out.on hb)
    clear hb H5
    go_wp2_with fail
    refine (C4 _ H6.out.1).mono ?_
    rintro e w7 ⟨rfl, hb⟩
    have H7 := Lib.hid (H6.out.on hb)
    clear hb H6
    go_wp2_with fail
    refine (C5 _).mono ?_
    rintro e w' ⟨rfl, rfl⟩
    go_wp2_with fail
    refine (C6 _).mono ?_
    rintro e w' ⟨rfl, rfl⟩
    go_wp2_with fail
    refine (C7 _).mono ?_
    rintro e w' ⟨rfl, rfl⟩
    go_wp2_with fail
    refine (C8 _ H7.out.1).mono ?_
    rintro e w8 ⟨rfl, hb⟩
    have H8 := Lib.hid (H7.out.on hb)
    clear hb H7
    go_wp2_with fail
    refine (C9 _ H8.out.1).mono ?_
    rintro e w9 ⟨rfl, hb⟩
    have H9 := Lib.hid (H8.out.on hb)
    clear hb H8
    go_wp2_with fail
    refine (C3 _ H9.out.1).mono ?_
    rintro e w10 ⟨rfl, hb⟩
    have H10 := Lib.hid (H9.out.on hb)
    clear hb H9
    clear C1 C2 C4 C5 C6 C7 C8 C9
    by_cases hp : fitN a s = s.size
    · obtain rfl := HA.out hp
      go_wp2_with fail
      refine (C3 _ H10.out.1).mono ?_
      rintro e w11 ⟨rfl, hb⟩
      have H11 := Lib.hid (H10.out.on hb)
      clear hb H10
      by_cases ht : a < T
      · go_wp2
        go_ret
        exact ⟨rfl, H11.out.2.2⟩
      · go_wp2
        go_ret
        exact ⟨rfl, H11.out.2.2⟩
    · have hT : a < T := by
        have := HT.out
        omega
      have hne : (A.toList == s.toList) = false := by
        rw [beq_eq_false_iff_ne]
        intro h
        rw [toList_data, toList_data] at h
        have h2 := congrArg List.length h
        rw [← size_eq, ← size_eq, HZ.out] at h2
        exact hp h2
      have hne2 : (A.toList != s.toList) = true := by rw [bne, hne]; rfl
      have HX2 := Lib.hid (show 1 ≤ (decodeGo (s.extract A.size s.size)).2 ∧ a < n + colI (decodeGo (s.extract A.size s.size)).1 by
        rw [HZ.out]
        exact HX.out (by have := HZ.out; omega))
      clear HT HA HX
      go_wp2_with fail
      refine (Tryd.utf8_DecodeRuneInString _ _ H10.out.2.1).mono ?_
      rintro e w11 ⟨rfl, hb⟩
      have H11 := Lib.hid (H10.out.on hb)
      clear hb H10
      generalize decodeGo (s.extract A.size s.size) = dd at *
      obtain ⟨z1, z2⟩ := HX2.out
      clear HX2
      go_wp2_with fail
      refine (of_any dd.1 _ H11.out.1).mono ?_
      rintro e w12 ⟨rfl, hb⟩
      have H12 := Lib.hid (H11.out.on hb)
      clear hb H11
      have ho := ofI_bd dd.1
      have hm := colI_max dd.1
      rw [hm] at z2
      clear hm
      generalize ofI dd.1 = o at *
      have m1 : a < n + max 0 o := by omega
      clear z2
      go_wp2_with fail
      refine (C3 _ H12.out.1).mono ?_
      rintro e w13 ⟨rfl, hb⟩
      have H13 := Lib.hid (H12.out.on hb)
      clear hb H12
      go_wp2
      go_ret
      exact ⟨rfl, H13.out.2.2⟩
end Go.Proofs.YtegkoncpoghbfaaDoor.Lab
