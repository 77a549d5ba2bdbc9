/- The law's rows, whole. The law's does, said of rows: scrolls, raises. The law's does, said of rows: resized. -/
import Derived.Test.YtdeahnphcfcfpaaGreatGrOf
import Derived.Test.YtdeahnphcfcfpaaGreatGrAct
namespace Go.Proofs.YtdeahnphcfcfpaaGreat.Lab
open Go Go.RowKit

set_option maxHeartbeats 4000000 in
set_option maxRecDepth 100000 in
theorem rows_any (w : World) (lo p rb c m : Nat) (G : List Cls) (h : Gg w lo p rb c G) (gd : Good G m) :
    Calls Tryz.prog 9 #[gV p] w fun e w' => ∃ v Kl, e = .returned v ∧ GRow w' w.heap.size w.heap.size v Kl ∧ Kl.map (·.R) = G ∧ Fr w.heap.size Kl ∧ Below w.heap.size w w' := by
  obtain ⟨n, hn⟩ : ∃ n, n = G.length := ⟨_, rfl⟩
  have HGG := Lib.hid (show ∀ W, Below w.heap.size w W → Gg W lo p rb c G from fun W k => h.below k)
  have HGD := Lib.hid gd
  have hn5 : n ≤ 520 := by have := gd.n1; omega
  have HNN := Lib.hid hn
  have HSZ := Lib.hid (gsize w lo p rb c m G h gd)
  rw [← hn] at HSZ
  clear h gd hn
  go_enter Tryz.func9, Tryz.ntmps9
  go_wp2_with fail
  refine HSZ.out.mono ?_
  rintro e w1 ⟨rfl, b1⟩
  have HB0 := Lib.hid b1
  have HG0 := Lib.hid (show GRow w1 w.heap.size w.heap.size (.slice none 0 0) [] from GRow.nil _ _ _)
  have HM0 := Lib.hid (show (([] : List Hd).map (·.R)) = G.take 0 from rfl)
  have HF0 := Lib.hid (Fr.nil w.heap.size)
  clear b1 HSZ
  go_wp2
  go_loopg [3, 6] n (fun Gs v i wr => ∃ (k : Nat) (F : List Hd), i = .int .i64 k ∧ k ≤ n ∧ n - k ≤ Gs ∧ Hid (GRow wr w.heap.size w.heap.size v F) ∧ Hid (F.map (·.R) = G.take k) ∧ Hid (Fr w.heap.size F) ∧ Hid (Below w.heap.size w wr))
  case atStart => exact ⟨0, [], rfl, Nat.zero_le _, Nat.sub_le _ _, HG0, HM0, HF0, HB0⟩
  case round =>
    obtain ⟨k, F, rfl, hkn, hgk, HG, HM, HF, HB⟩ := hrel
    clear HG0 HM0 HF0 HB0
    by_cases hlt : k < n
    · have HLT := Lib.hid (show k + 1 ≤ n from hlt)
      have HKG := Lib.hid (show k < G.length by have := HNN.out; omega)
      go_wp2_with fail
      refine (ggrow wr lo p rb c m k G (HGG.out wr HB.out) HGD.out HKG.out).mono ?_
      rintro e w1 ⟨x, rfl, hxR, hxb, own2, b1⟩
      have HX := Lib.hid own2
      have HXR := Lib.hid hxR
      have HXB := Lib.hid hxb
      have HB1 := Lib.hid b1
      have HZ1 := Lib.hid (HB.out.size)
      obtain ⟨q, hq⟩ : ∃ q, q = w1.heap.size := ⟨_, rfl⟩
      obtain ⟨w2, hw2⟩ : ∃ x', x' = w1.alloc (.cells #[hdV x] 46) := ⟨_, rfl⟩
      have b2 : Below w1.heap.size w1 w2 := by rw [hw2]; exact (Below.refl _ _).alloc (Nat.le_refl _) _
      have HI := Lib.hid (show GIn w2 w.heap.size (.slice (some ⟨q, 0, none⟩) 1 1) [x] by rw [hw2]; exact GIn.one (own2.lower HB.out.size) q hq)
      have HG2 := Lib.hid ((HG.out.below b1).below b2)
      have HB2 := Lib.hid ((HB.out.trans (b1.mono HB.out.size)).trans (b2.mono (Nat.le_trans HB.out.size b1.size)))
      have HFL := Lib.hid (show F.length = k by
        have := congrArg List.length HM.out
        rw [List.length_map, List.length_take] at this
        have := HNN.out
        omega)
      have hlen : F.length + [x].length ≤ 100000 := by
        have := HFL.out
        simp only [List.length_cons, List.length_nil]
        omega
      clear own2 hxR hxb b1 b2
      go_wp2_with (at_builtin; rw [← hw2, ← hq]; clear hw2 hq; refine wpList_append_hds rfl (.tmp 17) (.tmp 21) rfl w.heap.size w.heap.size _ F rfl HG2.out _ [x] rfl HI.out hlen HB2.out.size ?_)
      intro v' w3 own3 grow3
      have HG3 := Lib.hid own3
      have hrow : ∀ j, u3.ownBlock = some j → w.heap.size ≤ j := fun j hj => (HG2.out.1.lt j hj).1
      have HB3 := Lib.hid (HB2.out.grown grow3 HB2.out.size (fun j hj => hrow j hj))
      have HM3 := Lib.hid (show (F ++ [x]).map (·.R) = G.take (k + 1) by
        rw [List.map_append, HM.out, List.take_succ_eq_append_getElem HKG.out]
        show G.take k ++ [x.R] = _
        rw [HXR.out]
        unfold rowG
        rw [List.getD_eq_getElem?_getD, List.getElem?_eq_getElem HKG.out]
        rfl)
      have HF3 := Lib.hid (show Fr w.heap.size (F ++ [x]) from HF.out.snoc (m := wr.heap.size) (fun y hy => (HG.out.2.lt hy).2) HXB.out HZ1.out)
      clear own3 grow3 hrow hlen HG HM HF HB HG2 HB2 HI HX HXR HXB HB1 HZ1
      go_wp2
      go_roundg (n - (k + 1))
      case rel => exact ⟨k + 1, F ++ [x], by go_num, HLT.out, Nat.le_refl _, HG3, HM3, HF3, HB3⟩
      case measure => have := HLT.out; omega
    · obtain rfl : k = n := by omega
      have HV := Lib.hid (HG.out.shape)
      have HME := Lib.hid (show F.map (·.R) = G by rw [HM.out, HNN.out, List.take_length])
      go_wp2
      go_ret
      exact ⟨_, F, rfl, HG.out, HME.out, HF.out, HB.out⟩
set_option maxHeartbeats 4000000 in
theorem rows_none (w : World) : Calls Tryz.prog 9 #[.pointer none] w fun e w' => e = .returned (.slice none 0 0) ∧ w = w' := by
  go_enter Tryz.func9, Tryz.ntmps9
  go_wp2_with fail
  refine (size_none w).mono ?_
  rintro e w1 ⟨rfl, rfl⟩
  go_wp2
  refine wp_loop_rounds (1) ?_
  rw [rounds_succ]
  go_wp2
  go_ret
  exact ⟨rfl, rfl⟩
theorem celD_lv (d : Dc) : (celD d).l = 0 ∨ (celD d).l = 1 := by unfold celD; cases d.high <;> simp
/-- What a step makes of rows; the rows that went; how wide the rows are then. -/
def actG (m : Nat) (G : List Cls) (k : Nat) (r cl n : Int) (x : Cel) : List Cls :=
  match k with
  | 0 => editG G m r cl (fun R => putP R cl x false)
  | 1 => editG G m r cl (fun R => putP R cl x true)
  | 2 => editG G m r cl (fun R => markM R cl 769 x.l)
  | 3 => editG G m r cl (fun R => insertM R cl n x)
  | 4 => editG G m r cl (fun R => deleteM R cl n x)
  | _ => eraseG G r (fun R => erasePM R cl n x)
def doesG (s : St) (m : Nat) (G : List Cls) : List Cls :=
  match s.what % 10 with
  | 6 => upG G m (regT s G.length) (regBt s G.length) (regN s) (blS s)
  | 7 => downG G m (regT s G.length) (regBt s G.length) (regN s) (blS s)
  | 8 => G.map fun R => raiseM R (blS s).l
  | 9 => if canB (s.n % 12 : Nat) (s.m % 24 : Nat) = true then resG G (s.n % 12) (s.m % 24) (blS s) (min G.length (s.n % 12)) else G
  | _ => actG m G (s.what % 6) (actR s G.length) (actC s m) (actN s) (actX s)
def wentS (s : St) (G : List Cls) : List Cls :=
  match s.what % 10 with
  | 6 => wentU G (regT s G.length) (regBt s G.length) (regN s)
  | 7 => wentD G (regT s G.length) (regBt s G.length) (regN s)
  | _ => []
def widthS (s : St) (m : Nat) : Nat := if s.what % 10 = 9 ∧ canB (s.n % 12 : Nat) (s.m % 24 : Nat) = true then s.m % 24 else m
theorem doesG_lt {s : St} {m : Nat} {G : List Cls} (h : s.what % 10 < 6) : doesG s m G = actG m G (s.what % 6) (actR s G.length) (actC s m) (actN s) (actX s) := by
  unfold doesG
  split <;> first | omega | rfl
theorem wentS_lt {s : St} {G : List Cls} (h : s.what % 10 < 6) : wentS s G = [] := by
  unfold wentS
  split <;> first | omega | rfl
end Go.Proofs.YtdeahnphcfcfpaaGreat.Lab
