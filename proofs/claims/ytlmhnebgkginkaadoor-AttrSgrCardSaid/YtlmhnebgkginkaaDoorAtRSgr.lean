/- The reference's Sgr: what parameters make of an attribute. -/
import Derived.Test.YtlmhnebgkginkaaDoorAtRSev
import Derived.Test.YtlmhnebgkginkaaDoorAtPar
import Derived.Test.YtlmhnebgkginkaaDoorAtForm
namespace Go.Proofs.YtlmhnebgkginkaaDoor.Lab
open Go Go.RowKit

theorem IRow.nums {w : World} {lo : Nat} {v : Value} {l : List Int} (h : IRow w lo v l) : NumsAt w (fun _ => True) v l := by
  by_cases hv : v = .slice none 0 0
  · subst hv
    rcases h.2 with ⟨_, h0⟩ | ⟨g, cap, cur, e, _⟩
    · obtain rfl : l = [] := List.length_eq_zero_iff.1 h0
      exact NumsAt.nil _ _ _ _
    · injection e with e1
      exact absurd e1 (by simp)
  · exact IntsAt.nums ⟨h, hv⟩
theorem MatAt.row_at {w : World} {X : Nat → Prop} {g o n c : Nat} {P : Rws} (h : MatAt w X (.slice (some ⟨g, o, none⟩) n c) P) (k : Nat) (hk : k < P.length) : ∃ ua ul uc, w.cell? ⟨g, o + k, none⟩ = some (.slice ua ul uc) ∧ ul = (P.getD k []).length ∧ NumsAt w X (.slice ua ul uc) (P.getD k []) ∧ g < w.heap.size := by
  obtain ⟨g', o', c', e, _, _, _, hg, hcell⟩ := h.open (by omega)
  injection e with e1 e2 e3
  injection e1 with e1
  injection e1 with e1 e4
  subst e1 e4
  obtain ⟨u, hu, hn⟩ := hcell k hk
  obtain ⟨ua, uc, rfl⟩ := hn.shape
  exact ⟨ua, _, uc, hu, rfl, hn, hg⟩
theorem NumsAt.first {w : World} {X : Nat → Prop} {ua : Option Addr} {ul uc : Nat} {r : List Int} (h : NumsAt w X (.slice ua ul uc) r) (h0 : 0 < r.length) : ∃ g o, ua = some ⟨g, o, none⟩ ∧ w.cell? ⟨g, o, none⟩ = some (.int .i64 (r.getD 0 0)) := by
  obtain ⟨g', o', c', e, _, _, _, hg, hcell⟩ := h.open h0
  injection e with e1 e2 e3
  exact ⟨g', o', e1, hcell 0 h0⟩
theorem drop_row {P : Rws} {k : Nat} (hk : k < P.length) : P.drop k = P.getD k [] :: P.drop (k + 1) := by
  rw [List.drop_eq_getElem_cons hk, List.getD_eq_getElem?_getD, List.getElem?_eq_getElem hk]
  rfl
theorem step_next {res a a2 : At} {row : List Int} {L L2 : Rws} (h : loopM a (row :: L) = res) (ho : a.ok) (hs : stepM a row L = (a2, L2)) : loopM a2 L2 = res ∧ a2.ok := by
  rw [loopM_cons, hs] at h
  refine ⟨h, ?_⟩
  have := stepM_ok ho row L
  rw [hs] at this
  exact this
theorem in_end {P : Rws} {k j many m : Nat} (hm : m = k + 1 + j) (hj : j ≤ many) (h : j = many ∨ m + 1 = P.length) : (P.drop (k + 2)).take j = (P.drop (k + 2)).take many ∧ P.drop (m + 1) = (P.drop (k + 2)).drop many := by
  rcases h with rfl | h
  · exact ⟨rfl, by rw [List.drop_drop]; congr 1; omega⟩
  · have hl : (P.drop (k + 2)).length = j := by rw [List.length_drop]; omega
    refine ⟨by rw [List.take_of_length_le (by omega), List.take_of_length_le (by omega)], ?_⟩
    rw [List.drop_eq_nil_of_le (by omega), List.drop_eq_nil_of_le (by omega)]
theorem in_snoc {P : Rws} {k j m1 : Nat} (hm : m1 = k + 2 + j) (hn : m1 < P.length) : (P.drop (k + 2)).take (j + 1) = (P.drop (k + 2)).take j ++ [P.getD m1 []] := by
  have hj : j < (P.drop (k + 2)).length := by rw [List.length_drop]; omega
  rw [List.take_succ_eq_append_getElem hj]
  congr 2
  rw [List.getElem_drop, hm, List.getD_eq_getElem?_getD, List.getElem?_eq_getElem (by omega)]
  rfl
theorem in_yes {P : Rws} {k j m1 : Nat} (hm : m1 = k + 2 + j) (hn : m1 < P.length) (h : (P.getD m1 []).length = 1) : coll ((P.drop (k + 2)).take (j + 1)) = coll ((P.drop (k + 2)).take j) ++ [(P.getD m1 []).getD 0 0] := by
  rw [in_snoc hm hn, coll_append, coll_cons_one h]
  rfl
theorem in_no {P : Rws} {k j m1 : Nat} (hm : m1 = k + 2 + j) (hn : m1 < P.length) (h : (P.getD m1 []).length ≠ 1) : coll ((P.drop (k + 2)).take (j + 1)) = coll ((P.drop (k + 2)).take j) := by
  rw [in_snoc hm hn, coll_append, coll_cons_not h]
  simp [coll]
set_option maxHeartbeats 16000000 in
set_option maxRecDepth 100000 in
theorem rsgr_some (w : World) (Y : Nat → Prop) (v : Value) (P : Rws) (a : At) (hok : a.ok) (hne : 0 < P.length) (hl : P.length ≤ 1000) (hr : ∀ r ∈ P, r.length ≤ 1000) (h : MatAt w Y v P) : Calls Tryd.prog 13 #[attV a, v] w (SimOut w (loopM a P)) := by
  obtain ⟨g, o, c, rfl, hc, _, _, hg, _⟩ := h.open hne
  have HRL := Lib.hid hr
  obtain ⟨n, hn⟩ : ∃ n, n = P.length := ⟨_, rfl⟩
  have HN := Lib.hid hn
  obtain ⟨w0, hw0⟩ : ∃ w0, w0 = (w.alloc (.cells #[.int .u8 a.fg.k, .int .u8 a.fg.r, .int .u8 a.fg.g, .int .u8 a.fg.b, .int .u8 a.bg.k, .int .u8 a.bg.r, .int .u8 a.bg.g, .int .u8 a.bg.b, .int .u16 (a.fl : Nat)] 26)).alloc (.cells #[.int .u8 0, .int .u8 0, .int .u8 0, .int .u8 0, .int .u8 0, .int .u8 0, .int .u8 0, .int .u8 0, .int .u16 0] 26) := ⟨_, rfl⟩
  have b0 : Below w.heap.size w w0 := by rw [hw0]; exact ((Below.refl _ _).alloc (Nat.le_refl _) _).alloc (by simp) _
  have HA0 := Lib.hid (show AtAt w0 w.heap.size a by rw [hw0]; exact (AtAt.newAt w _ rfl a _).past _)
  have HZ0 := Lib.hid (show AtAt w0 (w.heap.size + 1) At.zero by rw [hw0]; exact AtAt.newAt _ _ (by simp) At.zero _)
  have HB0 := Lib.hid b0
  have HM0 := Lib.hid ((h.bound).below b0)
  rw [← hn] at HM0 hne hl ⊢
  have HOK := Lib.hid hok
  obtain ⟨res, hres⟩ : ∃ res, res = loopM a P := ⟨_, rfl⟩
  have HRES := Lib.hid hres
  have hn0 : ((n : Int) == 0) = false := by simp; omega
  have HGB := Lib.hid (show g < w.heap.size from hg)
  clear b0 h hr hn hok hres hg hc
  go_enter Tryd.func13, Tryd.ntmps13
  go_upto_region 1 with (fail)
  rw [← hw0]
  clear hw0
  go_wp2
  go_loopg [5] n (fun G i wr => ∃ (k : Nat) (a' : At), i = .int .i64 k ∧ k ≤ n ∧ n - k ≤ G ∧ Hid (loopM a' (P.drop k) = res) ∧ Hid a'.ok ∧ Hid (MatAt wr (fun g => g < w.heap.size) (.slice (some ⟨g, o, none⟩) n c) P) ∧ Hid (AtAt wr w.heap.size a') ∧ Hid (AtAt wr (w.heap.size + 1) At.zero) ∧ Hid (Below w.heap.size w wr))
  case atStart => exact ⟨0, a, rfl, Nat.zero_le _, Nat.sub_le _ _, Lib.hid (by rw [HRES.out]; rfl), HOK, HM0, HA0, HZ0, HB0⟩
  case round =>
    clear HM0 HA0 HZ0 HB0 HOK hn0
    obtain ⟨k, a', rfl, hkn, hgk, HLP, HO, HM, HA, HZ, HB⟩ := hrel
    by_cases hlt : k < n
    · have hkP : k < P.length := by rw [← HN.out]; exact hlt
      obtain ⟨ua, ul, uc, a1, hul, hrow, hgw⟩ := HM.out.row_at k hkP
      have hrl : (P.getD k []).length ≤ 1000 := HRL.out _ (by rw [List.getD_eq_getElem?_getD, List.getElem?_eq_getElem hkP]; exact List.getElem_mem hkP)
      have hdr := drop_row hkP
      replace HLP := Lib.hid (show loopM a' (P.getD k [] :: P.drop (k + 1)) = res by rw [← hdr]; exact HLP.out)
      obtain ⟨row, hrw⟩ : ∃ row, row = P.getD k [] := ⟨_, rfl⟩
      rw [← hrw] at hul hrow hrl HLP
      have HRW := Lib.hid hrow
      have HUL := Lib.hid hul
      have HGW := Lib.hid hgw
      clear hdr hrw hrow hgw hkP hul
      by_cases h0 : ul = 0
      · subst h0
        have HNX := Lib.hid (show loopM a' (P.drop (k + 1)) = res ∧ a'.ok from step_next HLP.out HO.out (step_0 HUL.out.symm))
        clear HRW HUL HLP HO
        go_wp2
        go_roundg (n - (k + 1))
        case rel => exact ⟨k + 1, a', by go_num, by omega, Nat.le_refl _, Lib.hid HNX.out.1, Lib.hid HNX.out.2, HM, HA, HZ, HB⟩
        case measure => omega
      have e0 : ((ul : Int) == 0) = false := by simp; omega
      obtain ⟨g1, o1, rfl, a2⟩ := HRW.out.first (by rw [← HUL.out]; omega)
      obtain ⟨x, hx⟩ : ∃ x, x = row.getD 0 0 := ⟨_, rfl⟩
      have HX := Lib.hid hx.symm
      rw [← hx] at a2
      clear hx
      by_cases h1 : ul = 1
      rotate_left
      · have e1 : decide ((1 : Int) < (ul : Int)) = true := by simp; omega
        go_upto_region 9 with (fail)
        refine wp_region_held_drew (S := fun w' => w'.cell? ⟨g, o + k, none⟩ = some (.slice (some ⟨g1, o1, none⟩) ul uc)) (by kernel_rfl) ?_ (fun hHeld => ?_)
        · exact a1
        obtain ⟨u0, hu0⟩ : ∃ u0, u0 = wr.drew := ⟨_, rfl⟩
        have bd : Below wr.heap.size wr u0 := by rw [hu0]; exact ⟨rfl, rfl, rfl, Nat.le_refl _, fun _ _ => rfl⟩
        replace hHeld : (fun w' => w'.cell? ⟨g, o + k, none⟩ = some (.slice (some ⟨g1, o1, none⟩) ul uc)) u0 := (bd.cell (p := ⟨g, o + k, none⟩) HGW.out).trans a1
        rw [← hu0]
        clear hu0
        have hSS := Lib.hid (show ∀ W, Below u0.heap.size u0 W → W.cell? ⟨g, o + k, none⟩ = some (.slice (some ⟨g1, o1, none⟩) ul uc) from fun W hb => (hb.cell (p := ⟨g, o + k, none⟩) (by have := bd.size; have := HGW.out; show g < _; omega)).trans hHeld)
        have CS := Lib.hid (rseveral_any u0 _ _ row a' HO.out.2.2 (HRW.out.below bd) (by rw [← HUL.out]; omega) hrl)
        replace HA := Lib.hid (HA.out.below bd)
        replace HZ := Lib.hid (HZ.out.below bd)
        replace HM := Lib.hid (HM.out.below bd)
        replace HB := Lib.hid (HB.out.trans (bd.mono HB.out.size))
        clear bd a1 a2 hrl HRW HGW
        refine take_at (i := 1) (v := ?_) rfl (by kernel_rfl) (by kernel_rfl) (by kernel_rfl) (fun _ _ _ h => h) (by kernel_rfl) (by assumption) ?_ ?_
        rotate_left
        · (intro w hSw; (try dsimp only at hSw); go_simp; try with_reducible rfl)
        simp only [Act.put, List.setIfInBounds_toArray, List.set_cons_zero, List.set_cons_succ]
        refine take_at (i := 2) (v := ?_) rfl (by kernel_rfl) (by kernel_rfl) (by kernel_rfl) (fun _ _ _ h => h) (by kernel_rfl) (by assumption) ?_ ?_
        rotate_left
        · (intro w hSw; (try dsimp only at hSw); go_simp; try with_reducible rfl)
        simp only [Act.put, List.setIfInBounds_toArray, List.set_cons_zero, List.set_cons_succ]
        refine take_at (i := 3) (v := ?_) rfl (by kernel_rfl) (by kernel_rfl) (by kernel_rfl) (fun _ _ _ h => h) (by kernel_rfl) (by assumption) ?_ ?_
        rotate_left
        · (intro w hSw; (try dsimp only at hSw); go_simp; try with_reducible rfl)
        simp only [Act.put, List.setIfInBounds_toArray, List.set_cons_zero, List.set_cons_succ]
        refine take_at (i := 4) (v := ?_) rfl (by kernel_rfl) (by kernel_rfl) (by kernel_rfl) (fun _ _ _ h => h) (by kernel_rfl) (by assumption) ?_ ?_
        rotate_left
        · (intro w hSw; (try dsimp only at hSw); go_simp; try with_reducible rfl)
        simp only [Act.put, List.setIfInBounds_toArray, List.set_cons_zero, List.set_cons_succ]
        refine do_at (i := 0) rfl (by kernel_rfl) (by kernel_rfl) (fun K hK => ?_)
        obtain ⟨_, ⟨y1, y2, y3, y4, y5, y6, y7, y8, y9⟩, yf⟩ := HA.out
        go_wp2_with fail
        refine hK.out _ _ ?_ (fun hHeld => ?_)
        · exact hSS.out _ (Below.refl _ _)
        clear hK K
        try simp only [Act.put, List.setIfInBounds_toArray, List.set_cons_zero, List.set_cons_succ]
        refine do_at (i := 5) rfl (by kernel_rfl) (by kernel_rfl) (fun K hK => ?_)
        go_simp
        refine CS.out.mono ?_
        rintro e w1 ⟨rfl, bb⟩
        have hS1 := Lib.hid (hSS.out _ bb)
        clear CS
        have HA1 := Lib.hid (HA.out.below bb)
        have HZ1 := Lib.hid (HZ.out.below bb)
        have HM1 := Lib.hid (HM.out.below bb)
        have HB1 := Lib.hid (HB.out.trans (bb.mono HB.out.size))
        obtain ⟨q, hq⟩ : ∃ q, q = severalM a' row := ⟨_, rfl⟩
        have HNX := Lib.hid (show loopM q (P.drop (k + 1)) = res ∧ q.ok from step_next HLP.out HO.out (by rw [hq]; exact step_2 (by rw [← HUL.out]; omega)))
        rw [← hq]
        clear hq bb
        obtain ⟨wq, hwq⟩ : ∃ wq, wq = putA w1 w.heap.size q := ⟨_, rfl⟩
        have HAQ := Lib.hid (show AtAt wq w.heap.size q by rw [hwq]; exact HA1.out.putA q)
        have HZQ := Lib.hid (show AtAt wq (w.heap.size + 1) At.zero by rw [hwq]; exact HZ1.out.butO (putA_but w1 w.heap.size q) (by omega))
        have HMQ := Lib.hid (show MatAt wq (fun g => g < w.heap.size) (.slice (some ⟨g, o, none⟩) n c) P by rw [hwq]; exact HM1.out.but (Nat.lt_irrefl _) (putA_but w1 w.heap.size q))
        have HBQ := Lib.hid (show Below w.heap.size w wq by rw [hwq]; exact HB1.out.trans ((putA_but w1 w.heap.size q).below (C := w.heap.size) (Nat.le_refl _) HB1.out.size))
        go_wp2_with fail
        refine hK.out _ _ ?_ (fun hHeld => ?_)
        · exact hS1.out
        clear hK K
        try simp only [Act.put, List.setIfInBounds_toArray, List.set_cons_zero, List.set_cons_succ]
        refine do_at (i := 6) rfl (by kernel_rfl) (by kernel_rfl) (fun K hK => ?_)
        have hSQ := Lib.hid (show wq.cell? ⟨g, o + k, none⟩ = some (.slice (some ⟨g1, o1, none⟩) ul uc) by rw [hwq]; exact (World.cell?_of_block (a := ⟨g, o + k, none⟩) ((putA_but w1 w.heap.size q).block g (by have := HM1.out.row_at k (by rw [← HN.out]; exact hlt); obtain ⟨_, _, _, _, _, _, h⟩ := this; exact h) (by have := HGB.out; simp; omega))).trans hS1.out)
        simp only [putA, putC, Nat.zero_add, Nat.reduceAdd] at hwq
        clear y1 y2 y3 y4 y5 y6 y7 y8 y9 yf
        obtain ⟨_, ⟨y1, y2, y3, y4, y5, y6, y7, y8, y9⟩, yf⟩ := HA1.out
        go_wp2_with fail
        rw [← hwq]
        clear y1 y2 y3 y4 y5 y6 y7 y8 y9 yf hwq
        refine hK.out _ _ ?_ (fun hHeld => ?_)
        · exact hSQ.out
        clear hK K
        try simp only [Act.put, List.setIfInBounds_toArray, List.set_cons_zero, List.set_cons_succ]
        refine wpAnyH_done (by kernel_rfl) ?_ _
        go_wp2
        go_roundg (n - (k + 1))
        case rel => exact ⟨k + 1, q, by go_num, by omega, Nat.le_refl _, Lib.hid HNX.out.1, Lib.hid HNX.out.2, HMQ, HAQ, HZQ, HBQ⟩
        case measure => omega
      subst h1
      by_cases xm : x = -1
      · subst xm
        have CS := Lib.hid (rsimple_any wr a' HO.out.2.2 0)
        obtain ⟨_, ⟨y1, y2, y3, y4, y5, y6, y7, y8, y9⟩, yf⟩ := HA.out
        go_wp2_with fail
        refine CS.out.mono ?_
        rintro e w1 ⟨rfl, bb⟩
        clear CS y1 y2 y3 y4 y5 y6 y7 y8 y9 yf a1 a2
        have HA1 := Lib.hid (HA.out.below bb)
        have HZ1 := Lib.hid (HZ.out.below bb)
        have HM1 := Lib.hid (HM.out.below bb)
        have HB1 := Lib.hid (HB.out.trans (bb.mono HB.out.size))
        obtain ⟨q, hq⟩ : ∃ q, q = simpleM a' 0 := ⟨_, rfl⟩
        have HNX := Lib.hid (show loopM q (P.drop (k + 1)) = res ∧ q.ok from step_next HLP.out HO.out (by rw [hq]; exact step_1 HUL.out.symm HX.out (by decide) (by decide)))
        rw [← hq]
        clear hq bb
        obtain ⟨wq, hwq⟩ : ∃ wq, wq = putA w1 w.heap.size q := ⟨_, rfl⟩
        have HAQ := Lib.hid (show AtAt wq w.heap.size q by rw [hwq]; exact HA1.out.putA q)
        have HZQ := Lib.hid (show AtAt wq (w.heap.size + 1) At.zero by rw [hwq]; exact HZ1.out.butO (putA_but w1 w.heap.size q) (by omega))
        have HMQ := Lib.hid (show MatAt wq (fun g => g < w.heap.size) (.slice (some ⟨g, o, none⟩) n c) P by rw [hwq]; exact HM1.out.but (Nat.lt_irrefl _) (putA_but w1 w.heap.size q))
        have HBQ := Lib.hid (show Below w.heap.size w wq by rw [hwq]; exact HB1.out.trans ((putA_but w1 w.heap.size q).below (C := w.heap.size) (Nat.le_refl _) HB1.out.size))
        simp only [putA, putC, Nat.zero_add, Nat.reduceAdd] at hwq
        obtain ⟨_, ⟨y1, y2, y3, y4, y5, y6, y7, y8, y9⟩, yf⟩ := HA1.out
        clear HM HA HZ HB HO HLP HRW
        go_wp2
        rw [← hwq]
        clear y1 y2 y3 y4 y5 y6 y7 y8 y9 yf hwq
        go_roundg (n - (k + 1))
        case rel => exact ⟨k + 1, q, by go_num, by omega, Nat.le_refl _, Lib.hid HNX.out.1, Lib.hid HNX.out.2, HMQ, HAQ, HZQ, HBQ⟩
        case measure => omega
      have em : (x == -1) = false := by simp [xm]
      have hvx : valM x = x := by unfold valM; rw [if_neg xm]
      by_cases hc : x = 38 ∨ x = 48
      rotate_left
      · have n38 : (x != 38) = true := by simp; omega
        have n48 : (x != 48) = true := by simp; omega
        have HST := Lib.hid (show stepM a' row (P.drop (k + 1)) = (simpleM a' x, P.drop (k + 1)) by have := step_1 (a := a') (L := P.drop (k + 1)) HUL.out.symm HX.out (by omega) (by omega); rwa [hvx] at this)
        clear xm hvx hc
        have CS := Lib.hid (rsimple_any wr a' HO.out.2.2 x)
        obtain ⟨_, ⟨y1, y2, y3, y4, y5, y6, y7, y8, y9⟩, yf⟩ := HA.out
        go_wp2_with fail
        refine CS.out.mono ?_
        rintro e w1 ⟨rfl, bb⟩
        clear CS y1 y2 y3 y4 y5 y6 y7 y8 y9 yf a1 a2
        have HA1 := Lib.hid (HA.out.below bb)
        have HZ1 := Lib.hid (HZ.out.below bb)
        have HM1 := Lib.hid (HM.out.below bb)
        have HB1 := Lib.hid (HB.out.trans (bb.mono HB.out.size))
        obtain ⟨q, hq⟩ : ∃ q, q = simpleM a' x := ⟨_, rfl⟩
        have HNX := Lib.hid (show loopM q (P.drop (k + 1)) = res ∧ q.ok from step_next HLP.out HO.out (by rw [hq]; exact HST.out))
        rw [← hq]
        clear hq bb
        obtain ⟨wq, hwq⟩ : ∃ wq, wq = putA w1 w.heap.size q := ⟨_, rfl⟩
        have HAQ := Lib.hid (show AtAt wq w.heap.size q by rw [hwq]; exact HA1.out.putA q)
        have HZQ := Lib.hid (show AtAt wq (w.heap.size + 1) At.zero by rw [hwq]; exact HZ1.out.butO (putA_but w1 w.heap.size q) (by omega))
        have HMQ := Lib.hid (show MatAt wq (fun g => g < w.heap.size) (.slice (some ⟨g, o, none⟩) n c) P by rw [hwq]; exact HM1.out.but (Nat.lt_irrefl _) (putA_but w1 w.heap.size q))
        have HBQ := Lib.hid (show Below w.heap.size w wq by rw [hwq]; exact HB1.out.trans ((putA_but w1 w.heap.size q).below (C := w.heap.size) (Nat.le_refl _) HB1.out.size))
        simp only [putA, putC, Nat.zero_add, Nat.reduceAdd] at hwq
        obtain ⟨_, ⟨y1, y2, y3, y4, y5, y6, y7, y8, y9⟩, yf⟩ := HA1.out
        clear HM HA HZ HB HO HLP HRW
        go_wp2
        rw [← hwq]
        clear y1 y2 y3 y4 y5 y6 y7 y8 y9 yf hwq
        go_roundg (n - (k + 1))
        case rel => exact ⟨k + 1, q, by go_num, by omega, Nat.le_refl _, Lib.hid HNX.out.1, Lib.hid HNX.out.2, HMQ, HAQ, HZQ, HBQ⟩
        case measure => omega
      clear xm hvx HRW
      by_cases hk1 : k + 1 < n
      rotate_left
      · have s1 : IntKind.i64.wrap ((k : Int) + 1) = (k : Int) + 1 := by rw [IntKind.wrap_i64]; omega
        have d1 : decide ((n : Int) ≤ (k : Int) + 1) = true := by simp; omega
        have HBR := Lib.hid (show a' = res by
          have hd : P.drop (k + 1) = [] := List.drop_eq_nil_of_le (by rw [← HN.out]; omega)
          have h := HLP.out
          rw [hd] at h
          exact (step_next h HO.out (step_c0 HUL.out.symm HX.out hc)).1)
        clear HLP HM HO
        rcases hc with rfl | rfl
        · have HQE := Lib.hid (show a' = res from HBR.out)
          obtain ⟨wq, hwq⟩ : ∃ wq, wq = putA wr (w.heap.size + 1) a' := ⟨_, rfl⟩
          have Z := Lib.hid (show AtAt wq (w.heap.size + 1) a' by rw [hwq]; exact HZ.out.putA a')
          have HBQ := Lib.hid (show Below w.heap.size w wq by rw [hwq]; exact HB.out.trans ((putA_but wr (w.heap.size + 1) a').below (C := w.heap.size) (by omega) HB.out.size))
          simp only [putA, putC, Nat.zero_add, Nat.reduceAdd] at hwq
          obtain ⟨_, ⟨a1, a2, a3, a4, a5, a6, a7, a8, a9⟩, _⟩ := HA.out
          obtain ⟨_, ⟨z1, z2, z3, z4, z5, z6, z7, z8, z9⟩, zf⟩ := HZ.out
          dsimp only at z1 z2 z3 z4 z5 z6 z7 z8 z9
          go_wp2
          rw [← hwq]
          clear a1 a2 a3 a4 a5 a6 a7 a8 a9 z1 z2 z3 z4 z5 z6 z7 z8 z9 zf hwq
          obtain ⟨_, ⟨k1, k2, k3, k4, k5, k6, k7, k8, k9⟩, _⟩ := Z.out
          exact bodyPost_ret (v := attV a') (by simp [results, Tryd.results13, go_sem, k1, k2, k3, k4, k5, k6, k7, k8, k9]) rfl ⟨by rw [HQE.out, HRES.out], HBQ.out⟩
        · have HQE := Lib.hid (show a' = res from HBR.out)
          obtain ⟨wq, hwq⟩ : ∃ wq, wq = putA wr (w.heap.size + 1) a' := ⟨_, rfl⟩
          have Z := Lib.hid (show AtAt wq (w.heap.size + 1) a' by rw [hwq]; exact HZ.out.putA a')
          have HBQ := Lib.hid (show Below w.heap.size w wq by rw [hwq]; exact HB.out.trans ((putA_but wr (w.heap.size + 1) a').below (C := w.heap.size) (by omega) HB.out.size))
          simp only [putA, putC, Nat.zero_add, Nat.reduceAdd] at hwq
          obtain ⟨_, ⟨a1, a2, a3, a4, a5, a6, a7, a8, a9⟩, _⟩ := HA.out
          obtain ⟨_, ⟨z1, z2, z3, z4, z5, z6, z7, z8, z9⟩, zf⟩ := HZ.out
          dsimp only at z1 z2 z3 z4 z5 z6 z7 z8 z9
          go_wp2
          rw [← hwq]
          clear a1 a2 a3 a4 a5 a6 a7 a8 a9 z1 z2 z3 z4 z5 z6 z7 z8 z9 zf hwq
          obtain ⟨_, ⟨k1, k2, k3, k4, k5, k6, k7, k8, k9⟩, _⟩ := Z.out
          exact bodyPost_ret (v := attV a') (by simp [results, Tryd.results13, go_sem, k1, k2, k3, k4, k5, k6, k7, k8, k9]) rfl ⟨by rw [HQE.out, HRES.out], HBQ.out⟩
      have hk1P : k + 1 < P.length := by rw [← HN.out]; exact hk1
      obtain ⟨va, vl, vc, v1, hvl, hvrow, _⟩ := HM.out.row_at (k + 1) hk1P
      have hdr := drop_row hk1P
      replace HLP := Lib.hid (show loopM a' (row :: P.getD (k + 1) [] :: P.drop (k + 2)) = res by have := HLP.out; rwa [hdr] at this)
      obtain ⟨row1, hrw1⟩ : ∃ row, row = P.getD (k + 1) [] := ⟨_, rfl⟩
      rw [← hrw1] at hvl hvrow HLP
      obtain ⟨k1, hk1e⟩ : ∃ k1, k1 = k + 1 := ⟨_, rfl⟩
      have HK1 := Lib.hid hk1e
      rw [← hk1e] at v1 hk1 hk1P
      have s1 : IntKind.i64.wrap ((k : Int) + 1) = (k1 : Int) := by rw [IntKind.wrap_i64]; omega
      have d1 : ¬ n ≤ k1 := by omega
      have HVL := Lib.hid hvl
      have HVR := Lib.hid hvrow
      have HGK := Lib.hid hgk
      clear hdr hrw1 hk1e hvrow hk1P hgk hvl
      by_cases h1 : vl = 1
      rotate_left
      · have e1 : ((vl : Int) != 1) = true := by simp; omega
        have HNX := Lib.hid (show loopM a' (P.drop (k1 + 1)) = res ∧ a'.ok from by
          rw [HK1.out]
          exact step_next HLP.out HO.out (step_cn HUL.out.symm HX.out hc (by rw [← HVL.out]; exact h1)))
        clear HVL HVR HLP HO HUL
        rcases hc with rfl | rfl
        · go_wp2
          go_roundg (n - (k1 + 1))
          case rel => exact ⟨(k1 + 1), a', by go_num, by have := HK1.out; omega, Nat.le_refl _, Lib.hid HNX.out.1, Lib.hid HNX.out.2, HM, HA, HZ, HB⟩
          case measure => have := HK1.out; have := HGK.out; omega
        · go_wp2
          go_roundg (n - (k1 + 1))
          case rel => exact ⟨(k1 + 1), a', by go_num, by have := HK1.out; omega, Nat.le_refl _, Lib.hid HNX.out.1, Lib.hid HNX.out.2, HM, HA, HZ, HB⟩
          case measure => have := HK1.out; have := HGK.out; omega
      subst h1
      obtain ⟨g2, o2, rfl, v2⟩ := HVR.out.first (by rw [← HVL.out]; decide)
      obtain ⟨y, hy⟩ : ∃ y, y = row1.getD 0 0 := ⟨_, rfl⟩
      rw [← hy] at v2
      have HST := Lib.hid (show stepM a' row (row1 :: P.drop (k + 2)) = (setC2 x a' (coloredM y (coll ((P.drop (k + 2)).take (needed y)))), (P.drop (k + 2)).drop (needed y)) from step_cy HUL.out.symm HX.out hc HVL.out.symm hy.symm)
      clear hy HVR HVL HUL HRL
      obtain ⟨ib, hi, hz0, hz1, hz2⟩ := info_parts infoInt
      by_cases y5 : y = 5
      · subst y5
        rw [show needed 5 = 1 from rfl] at HST
        rcases hc with rfl | rfl
        · go_wp2
          go_loopg [5, 9, 10] 1 (fun G i l kk wi => ∃ (j m : Nat), i = .int .i64 m ∧ kk = .int .i64 j ∧ Hid (m = k1 + j) ∧ j ≤ 1 ∧ m < n ∧ 1 - j ≤ G ∧ Hid (IRow wi (w.heap.size + 2) l (coll ((P.drop (k + 2)).take j))) ∧ Hid (MatAt wi (fun g => g < w.heap.size) (.slice (some ⟨g, o, none⟩) n c) P) ∧ Hid (AtAt wi w.heap.size a') ∧ Hid (AtAt wi (w.heap.size + 1) At.zero) ∧ Hid (Below w.heap.size w wi))
          case atStart => exact ⟨0, k1, rfl, rfl, Lib.hid rfl, Nat.zero_le _, hk1, Nat.sub_le _ _, Lib.hid (World.ownsRow_nil _ _ _ 1), HM, HA, HZ, HB⟩
          case round =>
            clear HM HA HZ HB a1 a2 v1 v2 s1 d1 hk1
            obtain ⟨j, m, rfl, rfl, HMK, hj, hmn, hgj, HI, HM, HA, HZ, HB⟩ := hrel
            obtain ⟨m1, hm1⟩ : ∃ m1, m1 = m + 1 := ⟨_, rfl⟩
            have HM1E := Lib.hid hm1
            have s1 : IntKind.i64.wrap ((m : Int) + 1) = (m1 : Int) := by rw [IntKind.wrap_i64]; omega
            by_cases hgo : j < 1 ∧ m1 < n
            · obtain ⟨hjm, hm1n⟩ := hgo
              have d1 : decide ((j : Int) < 1) = true := by simp; omega
              have d2 : decide ((m1 : Int) < (n : Int)) = true := by simp; omega
              have hm1P : m1 < P.length := by rw [← HN.out]; exact hm1n
              obtain ⟨xa, xl, xc, x1, hxl, hxrow, _⟩ := HM.out.row_at m1 hm1P
              have hmk : m1 = k + 2 + j := by have := HMK.out; have := HK1.out; omega
              clear hm1
              by_cases h1 : xl = 1
              · subst h1
                obtain ⟨g3, o3, rfl, x2⟩ := hxrow.first (by rw [← hxl]; decide)
                have hy := in_yes hmk hm1P hxl.symm
                obtain ⟨z, hz⟩ : ∃ z, z = (P.getD m1 []).getD 0 0 := ⟨_, rfl⟩
                rw [← hz] at x2 hy
                obtain ⟨l0, hl0⟩ : ∃ l0, l0 = coll ((P.drop (k + 2)).take j) := ⟨_, rfl⟩
                have hIR : IRow wr (w.heap.size + 2) u9 l0 := by rw [hl0]; exact HI.out
                obtain ⟨nl, hnl⟩ : ∃ nl, nl = l0.length := ⟨_, rfl⟩
                have hnl3 : nl ≤ 3 := by have := coll_len ((P.drop (k + 2)).take j); rw [List.length_take] at this; rw [hnl, hl0]; omega
                have hI0 : wr.ownsRow (w.heap.size + 2) 3 1 u9 nl (intsV l0) := by rw [hnl]; exact hIR
                have HY := Lib.hid (show coll ((P.drop (k + 2)).take (j + 1)) = l0 ++ [z] by rw [hl0]; exact hy)
                have HNL := Lib.hid hnl
                have HMK' := Lib.hid hmk
                have hBz : w.heap.size + 2 ≤ wr.heap.size := by have := HZ.out.1; omega
                clear hxl hxrow hy hz hl0 hIR hnl hmk HI hm1P
                go_wp2_with (at_builtin; refine wpList_append_own _ rfl (.tmp 99) (.tmp 106) 50 rfl (w.heap.size + 2) 3 ib (.int .i64 0) 1 8 Tryd.underlying50 hi hz0 hz1 hz2 rfl (by decide) u9 nl (intsV l0) rfl (hI0.alloc _) ⟨wr.heap.size, 0, none⟩ 1 1 [.int .i64 z] rfl rfl ?c1 ?c2 ?c3 ?c4 ?c5 ?_)
                case c1 => exact new_cells wr [.int .i64 z] 3 _ rfl
                case c2 => simp [Value.oneCell']
                case c3 => unfold maxLen; omega
                case c4 => omega
                case c5 => simp; omega
                intro v' w2 own2 grow2 _
                have hlt2 : ∀ j, u9.ownBlock = some j → w.heap.size + 2 ≤ j := fun j hj => (hI0.lt j hj).1
                have b2 : Below w.heap.size w w2 := (HB.out.alloc HB.out.size _).grown grow2 (by simp; omega) (fun j hj => by have := hlt2 j hj; omega)
                have HIN := Lib.hid (show IRow w2 (w.heap.size + 2) v' (coll ((P.drop (k + 2)).take (j + 1))) by
                  rw [HY.out]
                  unfold IRow
                  rw [List.length_append, ← HNL.out]
                  simpa [intsV] using own2)
                have HAN := Lib.hid (show AtAt w2 w.heap.size a' from (HA.out.past _).same grow2.size (grow2.block _ (by have := HA.out.1; simp; omega) (fun e => by have := hlt2 _ e.symm; omega)))
                have HZN := Lib.hid (show AtAt w2 (w.heap.size + 1) At.zero from (HZ.out.past _).same grow2.size (grow2.block _ (by have := HZ.out.1; simp; omega) (fun e => by have := hlt2 _ e.symm; omega)))
                have HMN := Lib.hid (show MatAt w2 (fun g => g < w.heap.size) (.slice (some ⟨g, o, none⟩) n c) P from (HM.out.below ((Below.refl _ _).alloc (Nat.le_refl _) _)).keep grow2.size (fun g hgX hgl => grow2.block g hgl (fun e => by have := hlt2 _ e.symm; have hgX' : g < w.heap.size := hgX; omega)))
                have HBN := Lib.hid b2
                clear own2 grow2 b2 hI0 hlt2 HM HA HZ HB x1 x2
                go_wp2
                go_roundg (1 - (j + 1))
                case rel => exact ⟨j + 1, m1, rfl, by go_num, Lib.hid (by have := HMK.out; have := HM1E.out; omega), by omega, hm1n, Nat.le_refl _, HIN, HMN, HAN, HZN, HBN⟩
                case measure => omega
              · have e1 : ((xl : Int) == 1) = false := by simp; omega
                have HY := Lib.hid (in_no hmk hm1P (by rw [← hxl]; exact h1))
                clear hxl hxrow hmk hm1P
                go_wp2
                go_roundg (1 - (j + 1))
                case rel => exact ⟨j + 1, m1, rfl, by go_num, Lib.hid (by have := HMK.out; have := HM1E.out; omega), by omega, hm1n, Nat.le_refl _, Lib.hid (by rw [HY.out]; exact HI.out), HM, HA, HZ, HB⟩
                case measure => omega
            by_cases hjm : j < 1
            · have hm1n : ¬ m1 < n := fun h => hgo ⟨hjm, h⟩
              have d1 : decide ((j : Int) < 1) = true := by simp; omega
              have d2 : decide ((m1 : Int) < (n : Int)) = false := by simp; omega
              clear hgo
              have HCL := Lib.hid (in_end (P := P) (k := k) (j := j) (many := 1) (m := m) (by have := HMK.out; have := HK1.out; omega) (by omega) (by have := HN.out; omega))
              have CS := Lib.hid (rcolored_any wr _ u9 (coll ((P.drop (k + 2)).take j)) a' 38 5 HI.out.nums (by have := coll_len ((P.drop (k + 2)).take j); rw [List.length_take] at this; omega))
              obtain ⟨_, ⟨y1, y2, y3, y4, y5, y6, y7, y8, y9⟩, yf⟩ := HA.out
              clear hm1 HI
              go_wp2_with fail
              refine CS.out.mono ?_
              rintro e w1 ⟨rfl, bb⟩
              clear CS y1 y2 y3 y4 y5 y6 y7 y8 y9 yf
              have HA1 := Lib.hid (HA.out.below bb)
              have HZ1 := Lib.hid (HZ.out.below bb)
              have HM1 := Lib.hid (HM.out.below bb)
              have HB1 := Lib.hid (HB.out.trans (bb.mono HB.out.size))
              obtain ⟨q, hq⟩ : ∃ q, q = setC2 38 a' (coloredM 5 (coll ((P.drop (k + 2)).take j))) := ⟨_, rfl⟩
              have HNX := Lib.hid (show loopM q (P.drop (m + 1)) = res ∧ q.ok from step_next HLP.out HO.out (by rw [hq]; exact by rw [HST.out, HCL.out.1, HCL.out.2]))
              rw [← hq]
              clear hq bb
              obtain ⟨wq, hwq⟩ : ∃ wq, wq = putA w1 w.heap.size q := ⟨_, rfl⟩
              have HAQ := Lib.hid (show AtAt wq w.heap.size q by rw [hwq]; exact HA1.out.putA q)
              have HZQ := Lib.hid (show AtAt wq (w.heap.size + 1) At.zero by rw [hwq]; exact HZ1.out.butO (putA_but w1 w.heap.size q) (by omega))
              have HMQ := Lib.hid (show MatAt wq (fun g => g < w.heap.size) (.slice (some ⟨g, o, none⟩) n c) P by rw [hwq]; exact HM1.out.but (Nat.lt_irrefl _) (putA_but w1 w.heap.size q))
              have HBQ := Lib.hid (show Below w.heap.size w wq by rw [hwq]; exact HB1.out.trans ((putA_but w1 w.heap.size q).below (C := w.heap.size) (Nat.le_refl _) HB1.out.size))
              simp only [putA, putC, Nat.zero_add, Nat.reduceAdd] at hwq
              obtain ⟨_, ⟨y1, y2, y3, y4, y5, y6, y7, y8, y9⟩, yf⟩ := HA1.out
              clear HM HA HZ HB HO HLP HST
              go_wp2
              rw [← hwq]
              clear y1 y2 y3 y4 y5 y6 y7 y8 y9 yf hwq
              go_roundg (n - m1)
              case rel => exact ⟨m1, q, by first | rfl | go_num, by have := HM1E.out; omega, Nat.le_refl _, Lib.hid (by rw [HM1E.out]; exact HNX.out.1), Lib.hid HNX.out.2, HMQ, HAQ, HZQ, HBQ⟩
              case measure => have := HK1.out; have := HGK.out; have := HM1E.out; have := HMK.out; omega
            · have d1 : decide ((j : Int) < 1) = false := by simp; omega
              clear hgo
              have HCL := Lib.hid (in_end (P := P) (k := k) (j := j) (many := 1) (m := m) (by have := HMK.out; have := HK1.out; omega) (by omega) (by have := HN.out; omega))
              have CS := Lib.hid (rcolored_any wr _ u9 (coll ((P.drop (k + 2)).take j)) a' 38 5 HI.out.nums (by have := coll_len ((P.drop (k + 2)).take j); rw [List.length_take] at this; omega))
              obtain ⟨_, ⟨y1, y2, y3, y4, y5, y6, y7, y8, y9⟩, yf⟩ := HA.out
              clear hm1 HI
              go_wp2_with fail
              refine CS.out.mono ?_
              rintro e w1 ⟨rfl, bb⟩
              clear CS y1 y2 y3 y4 y5 y6 y7 y8 y9 yf
              have HA1 := Lib.hid (HA.out.below bb)
              have HZ1 := Lib.hid (HZ.out.below bb)
              have HM1 := Lib.hid (HM.out.below bb)
              have HB1 := Lib.hid (HB.out.trans (bb.mono HB.out.size))
              obtain ⟨q, hq⟩ : ∃ q, q = setC2 38 a' (coloredM 5 (coll ((P.drop (k + 2)).take j))) := ⟨_, rfl⟩
              have HNX := Lib.hid (show loopM q (P.drop (m + 1)) = res ∧ q.ok from step_next HLP.out HO.out (by rw [hq]; exact by rw [HST.out, HCL.out.1, HCL.out.2]))
              rw [← hq]
              clear hq bb
              obtain ⟨wq, hwq⟩ : ∃ wq, wq = putA w1 w.heap.size q := ⟨_, rfl⟩
              have HAQ := Lib.hid (show AtAt wq w.heap.size q by rw [hwq]; exact HA1.out.putA q)
              have HZQ := Lib.hid (show AtAt wq (w.heap.size + 1) At.zero by rw [hwq]; exact HZ1.out.butO (putA_but w1 w.heap.size q) (by omega))
              have HMQ := Lib.hid (show MatAt wq (fun g => g < w.heap.size) (.slice (some ⟨g, o, none⟩) n c) P by rw [hwq]; exact HM1.out.but (Nat.lt_irrefl _) (putA_but w1 w.heap.size q))
              have HBQ := Lib.hid (show Below w.heap.size w wq by rw [hwq]; exact HB1.out.trans ((putA_but w1 w.heap.size q).below (C := w.heap.size) (Nat.le_refl _) HB1.out.size))
              simp only [putA, putC, Nat.zero_add, Nat.reduceAdd] at hwq
              obtain ⟨_, ⟨y1, y2, y3, y4, y5, y6, y7, y8, y9⟩, yf⟩ := HA1.out
              clear HM HA HZ HB HO HLP HST
              go_wp2
              rw [← hwq]
              clear y1 y2 y3 y4 y5 y6 y7 y8 y9 yf hwq
              go_roundg (n - m1)
              case rel => exact ⟨m1, q, by first | rfl | go_num, by have := HM1E.out; omega, Nat.le_refl _, Lib.hid (by rw [HM1E.out]; exact HNX.out.1), Lib.hid HNX.out.2, HMQ, HAQ, HZQ, HBQ⟩
              case measure => have := HK1.out; have := HGK.out; have := HM1E.out; have := HMK.out; omega
        · go_wp2
          go_loopg [5, 9, 10] 1 (fun G i l kk wi => ∃ (j m : Nat), i = .int .i64 m ∧ kk = .int .i64 j ∧ Hid (m = k1 + j) ∧ j ≤ 1 ∧ m < n ∧ 1 - j ≤ G ∧ Hid (IRow wi (w.heap.size + 2) l (coll ((P.drop (k + 2)).take j))) ∧ Hid (MatAt wi (fun g => g < w.heap.size) (.slice (some ⟨g, o, none⟩) n c) P) ∧ Hid (AtAt wi w.heap.size a') ∧ Hid (AtAt wi (w.heap.size + 1) At.zero) ∧ Hid (Below w.heap.size w wi))
          case atStart => exact ⟨0, k1, rfl, rfl, Lib.hid rfl, Nat.zero_le _, hk1, Nat.sub_le _ _, Lib.hid (World.ownsRow_nil _ _ _ 1), HM, HA, HZ, HB⟩
          case round =>
            clear HM HA HZ HB a1 a2 v1 v2 s1 d1 hk1
            obtain ⟨j, m, rfl, rfl, HMK, hj, hmn, hgj, HI, HM, HA, HZ, HB⟩ := hrel
            obtain ⟨m1, hm1⟩ : ∃ m1, m1 = m + 1 := ⟨_, rfl⟩
            have HM1E := Lib.hid hm1
            have s1 : IntKind.i64.wrap ((m : Int) + 1) = (m1 : Int) := by rw [IntKind.wrap_i64]; omega
            by_cases hgo : j < 1 ∧ m1 < n
            · obtain ⟨hjm, hm1n⟩ := hgo
              have d1 : decide ((j : Int) < 1) = true := by simp; omega
              have d2 : decide ((m1 : Int) < (n : Int)) = true := by simp; omega
              have hm1P : m1 < P.length := by rw [← HN.out]; exact hm1n
              obtain ⟨xa, xl, xc, x1, hxl, hxrow, _⟩ := HM.out.row_at m1 hm1P
              have hmk : m1 = k + 2 + j := by have := HMK.out; have := HK1.out; omega
              clear hm1
              by_cases h1 : xl = 1
              · subst h1
                obtain ⟨g3, o3, rfl, x2⟩ := hxrow.first (by rw [← hxl]; decide)
                have hy := in_yes hmk hm1P hxl.symm
                obtain ⟨z, hz⟩ : ∃ z, z = (P.getD m1 []).getD 0 0 := ⟨_, rfl⟩
                rw [← hz] at x2 hy
                obtain ⟨l0, hl0⟩ : ∃ l0, l0 = coll ((P.drop (k + 2)).take j) := ⟨_, rfl⟩
                have hIR : IRow wr (w.heap.size + 2) u9 l0 := by rw [hl0]; exact HI.out
                obtain ⟨nl, hnl⟩ : ∃ nl, nl = l0.length := ⟨_, rfl⟩
                have hnl3 : nl ≤ 3 := by have := coll_len ((P.drop (k + 2)).take j); rw [List.length_take] at this; rw [hnl, hl0]; omega
                have hI0 : wr.ownsRow (w.heap.size + 2) 3 1 u9 nl (intsV l0) := by rw [hnl]; exact hIR
                have HY := Lib.hid (show coll ((P.drop (k + 2)).take (j + 1)) = l0 ++ [z] by rw [hl0]; exact hy)
                have HNL := Lib.hid hnl
                have HMK' := Lib.hid hmk
                have hBz : w.heap.size + 2 ≤ wr.heap.size := by have := HZ.out.1; omega
                clear hxl hxrow hy hz hl0 hIR hnl hmk HI hm1P
                go_wp2_with (at_builtin; refine wpList_append_own _ rfl (.tmp 99) (.tmp 106) 50 rfl (w.heap.size + 2) 3 ib (.int .i64 0) 1 8 Tryd.underlying50 hi hz0 hz1 hz2 rfl (by decide) u9 nl (intsV l0) rfl (hI0.alloc _) ⟨wr.heap.size, 0, none⟩ 1 1 [.int .i64 z] rfl rfl ?c1 ?c2 ?c3 ?c4 ?c5 ?_)
                case c1 => exact new_cells wr [.int .i64 z] 3 _ rfl
                case c2 => simp [Value.oneCell']
                case c3 => unfold maxLen; omega
                case c4 => omega
                case c5 => simp; omega
                intro v' w2 own2 grow2 _
                have hlt2 : ∀ j, u9.ownBlock = some j → w.heap.size + 2 ≤ j := fun j hj => (hI0.lt j hj).1
                have b2 : Below w.heap.size w w2 := (HB.out.alloc HB.out.size _).grown grow2 (by simp; omega) (fun j hj => by have := hlt2 j hj; omega)
                have HIN := Lib.hid (show IRow w2 (w.heap.size + 2) v' (coll ((P.drop (k + 2)).take (j + 1))) by
                  rw [HY.out]
                  unfold IRow
                  rw [List.length_append, ← HNL.out]
                  simpa [intsV] using own2)
                have HAN := Lib.hid (show AtAt w2 w.heap.size a' from (HA.out.past _).same grow2.size (grow2.block _ (by have := HA.out.1; simp; omega) (fun e => by have := hlt2 _ e.symm; omega)))
                have HZN := Lib.hid (show AtAt w2 (w.heap.size + 1) At.zero from (HZ.out.past _).same grow2.size (grow2.block _ (by have := HZ.out.1; simp; omega) (fun e => by have := hlt2 _ e.symm; omega)))
                have HMN := Lib.hid (show MatAt w2 (fun g => g < w.heap.size) (.slice (some ⟨g, o, none⟩) n c) P from (HM.out.below ((Below.refl _ _).alloc (Nat.le_refl _) _)).keep grow2.size (fun g hgX hgl => grow2.block g hgl (fun e => by have := hlt2 _ e.symm; have hgX' : g < w.heap.size := hgX; omega)))
                have HBN := Lib.hid b2
                clear own2 grow2 b2 hI0 hlt2 HM HA HZ HB x1 x2
                go_wp2
                go_roundg (1 - (j + 1))
                case rel => exact ⟨j + 1, m1, rfl, by go_num, Lib.hid (by have := HMK.out; have := HM1E.out; omega), by omega, hm1n, Nat.le_refl _, HIN, HMN, HAN, HZN, HBN⟩
                case measure => omega
              · have e1 : ((xl : Int) == 1) = false := by simp; omega
                have HY := Lib.hid (in_no hmk hm1P (by rw [← hxl]; exact h1))
                clear hxl hxrow hmk hm1P
                go_wp2
                go_roundg (1 - (j + 1))
                case rel => exact ⟨j + 1, m1, rfl, by go_num, Lib.hid (by have := HMK.out; have := HM1E.out; omega), by omega, hm1n, Nat.le_refl _, Lib.hid (by rw [HY.out]; exact HI.out), HM, HA, HZ, HB⟩
                case measure => omega
            by_cases hjm : j < 1
            · have hm1n : ¬ m1 < n := fun h => hgo ⟨hjm, h⟩
              have d1 : decide ((j : Int) < 1) = true := by simp; omega
              have d2 : decide ((m1 : Int) < (n : Int)) = false := by simp; omega
              clear hgo
              have HCL := Lib.hid (in_end (P := P) (k := k) (j := j) (many := 1) (m := m) (by have := HMK.out; have := HK1.out; omega) (by omega) (by have := HN.out; omega))
              have CS := Lib.hid (rcolored_any wr _ u9 (coll ((P.drop (k + 2)).take j)) a' 48 5 HI.out.nums (by have := coll_len ((P.drop (k + 2)).take j); rw [List.length_take] at this; omega))
              obtain ⟨_, ⟨y1, y2, y3, y4, y5, y6, y7, y8, y9⟩, yf⟩ := HA.out
              clear hm1 HI
              go_wp2_with fail
              refine CS.out.mono ?_
              rintro e w1 ⟨rfl, bb⟩
              clear CS y1 y2 y3 y4 y5 y6 y7 y8 y9 yf
              have HA1 := Lib.hid (HA.out.below bb)
              have HZ1 := Lib.hid (HZ.out.below bb)
              have HM1 := Lib.hid (HM.out.below bb)
              have HB1 := Lib.hid (HB.out.trans (bb.mono HB.out.size))
              obtain ⟨q, hq⟩ : ∃ q, q = setC2 48 a' (coloredM 5 (coll ((P.drop (k + 2)).take j))) := ⟨_, rfl⟩
              have HNX := Lib.hid (show loopM q (P.drop (m + 1)) = res ∧ q.ok from step_next HLP.out HO.out (by rw [hq]; exact by rw [HST.out, HCL.out.1, HCL.out.2]))
              rw [← hq]
              clear hq bb
              obtain ⟨wq, hwq⟩ : ∃ wq, wq = putA w1 w.heap.size q := ⟨_, rfl⟩
              have HAQ := Lib.hid (show AtAt wq w.heap.size q by rw [hwq]; exact HA1.out.putA q)
              have HZQ := Lib.hid (show AtAt wq (w.heap.size + 1) At.zero by rw [hwq]; exact HZ1.out.butO (putA_but w1 w.heap.size q) (by omega))
              have HMQ := Lib.hid (show MatAt wq (fun g => g < w.heap.size) (.slice (some ⟨g, o, none⟩) n c) P by rw [hwq]; exact HM1.out.but (Nat.lt_irrefl _) (putA_but w1 w.heap.size q))
              have HBQ := Lib.hid (show Below w.heap.size w wq by rw [hwq]; exact HB1.out.trans ((putA_but w1 w.heap.size q).below (C := w.heap.size) (Nat.le_refl _) HB1.out.size))
              simp only [putA, putC, Nat.zero_add, Nat.reduceAdd] at hwq
              obtain ⟨_, ⟨y1, y2, y3, y4, y5, y6, y7, y8, y9⟩, yf⟩ := HA1.out
              clear HM HA HZ HB HO HLP HST
              go_wp2
              rw [← hwq]
              clear y1 y2 y3 y4 y5 y6 y7 y8 y9 yf hwq
              go_roundg (n - m1)
              case rel => exact ⟨m1, q, by first | rfl | go_num, by have := HM1E.out; omega, Nat.le_refl _, Lib.hid (by rw [HM1E.out]; exact HNX.out.1), Lib.hid HNX.out.2, HMQ, HAQ, HZQ, HBQ⟩
              case measure => have := HK1.out; have := HGK.out; have := HM1E.out; have := HMK.out; omega
            · have d1 : decide ((j : Int) < 1) = false := by simp; omega
              clear hgo
              have HCL := Lib.hid (in_end (P := P) (k := k) (j := j) (many := 1) (m := m) (by have := HMK.out; have := HK1.out; omega) (by omega) (by have := HN.out; omega))
              have CS := Lib.hid (rcolored_any wr _ u9 (coll ((P.drop (k + 2)).take j)) a' 48 5 HI.out.nums (by have := coll_len ((P.drop (k + 2)).take j); rw [List.length_take] at this; omega))
              obtain ⟨_, ⟨y1, y2, y3, y4, y5, y6, y7, y8, y9⟩, yf⟩ := HA.out
              clear hm1 HI
              go_wp2_with fail
              refine CS.out.mono ?_
              rintro e w1 ⟨rfl, bb⟩
              clear CS y1 y2 y3 y4 y5 y6 y7 y8 y9 yf
              have HA1 := Lib.hid (HA.out.below bb)
              have HZ1 := Lib.hid (HZ.out.below bb)
              have HM1 := Lib.hid (HM.out.below bb)
              have HB1 := Lib.hid (HB.out.trans (bb.mono HB.out.size))
              obtain ⟨q, hq⟩ : ∃ q, q = setC2 48 a' (coloredM 5 (coll ((P.drop (k + 2)).take j))) := ⟨_, rfl⟩
              have HNX := Lib.hid (show loopM q (P.drop (m + 1)) = res ∧ q.ok from step_next HLP.out HO.out (by rw [hq]; exact by rw [HST.out, HCL.out.1, HCL.out.2]))
              rw [← hq]
              clear hq bb
              obtain ⟨wq, hwq⟩ : ∃ wq, wq = putA w1 w.heap.size q := ⟨_, rfl⟩
              have HAQ := Lib.hid (show AtAt wq w.heap.size q by rw [hwq]; exact HA1.out.putA q)
              have HZQ := Lib.hid (show AtAt wq (w.heap.size + 1) At.zero by rw [hwq]; exact HZ1.out.butO (putA_but w1 w.heap.size q) (by omega))
              have HMQ := Lib.hid (show MatAt wq (fun g => g < w.heap.size) (.slice (some ⟨g, o, none⟩) n c) P by rw [hwq]; exact HM1.out.but (Nat.lt_irrefl _) (putA_but w1 w.heap.size q))
              have HBQ := Lib.hid (show Below w.heap.size w wq by rw [hwq]; exact HB1.out.trans ((putA_but w1 w.heap.size q).below (C := w.heap.size) (Nat.le_refl _) HB1.out.size))
              simp only [putA, putC, Nat.zero_add, Nat.reduceAdd] at hwq
              obtain ⟨_, ⟨y1, y2, y3, y4, y5, y6, y7, y8, y9⟩, yf⟩ := HA1.out
              clear HM HA HZ HB HO HLP HST
              go_wp2
              rw [← hwq]
              clear y1 y2 y3 y4 y5 y6 y7 y8 y9 yf hwq
              go_roundg (n - m1)
              case rel => exact ⟨m1, q, by first | rfl | go_num, by have := HM1E.out; omega, Nat.le_refl _, Lib.hid (by rw [HM1E.out]; exact HNX.out.1), Lib.hid HNX.out.2, HMQ, HAQ, HZQ, HBQ⟩
              case measure => have := HK1.out; have := HGK.out; have := HM1E.out; have := HMK.out; omega
      have f5 : (y == 5) = false := by simp [y5]
      by_cases y2 : y = 2
      · subst y2
        rw [show needed 2 = 3 from rfl] at HST
        clear y5 f5
        rcases hc with rfl | rfl
        · go_wp2
          go_loopg [5, 9, 10] 3 (fun G i l kk wi => ∃ (j m : Nat), i = .int .i64 m ∧ kk = .int .i64 j ∧ Hid (m = k1 + j) ∧ j ≤ 3 ∧ m < n ∧ 3 - j ≤ G ∧ Hid (IRow wi (w.heap.size + 2) l (coll ((P.drop (k + 2)).take j))) ∧ Hid (MatAt wi (fun g => g < w.heap.size) (.slice (some ⟨g, o, none⟩) n c) P) ∧ Hid (AtAt wi w.heap.size a') ∧ Hid (AtAt wi (w.heap.size + 1) At.zero) ∧ Hid (Below w.heap.size w wi))
          case atStart => exact ⟨0, k1, rfl, rfl, Lib.hid rfl, Nat.zero_le _, hk1, Nat.sub_le _ _, Lib.hid (World.ownsRow_nil _ _ _ 1), HM, HA, HZ, HB⟩
          case round =>
            clear HM HA HZ HB a1 a2 v1 v2 s1 d1 hk1
            obtain ⟨j, m, rfl, rfl, HMK, hj, hmn, hgj, HI, HM, HA, HZ, HB⟩ := hrel
            obtain ⟨m1, hm1⟩ : ∃ m1, m1 = m + 1 := ⟨_, rfl⟩
            have HM1E := Lib.hid hm1
            have s1 : IntKind.i64.wrap ((m : Int) + 1) = (m1 : Int) := by rw [IntKind.wrap_i64]; omega
            by_cases hgo : j < 3 ∧ m1 < n
            · obtain ⟨hjm, hm1n⟩ := hgo
              have d1 : decide ((j : Int) < 3) = true := by simp; omega
              have d2 : decide ((m1 : Int) < (n : Int)) = true := by simp; omega
              have hm1P : m1 < P.length := by rw [← HN.out]; exact hm1n
              obtain ⟨xa, xl, xc, x1, hxl, hxrow, _⟩ := HM.out.row_at m1 hm1P
              have hmk : m1 = k + 2 + j := by have := HMK.out; have := HK1.out; omega
              clear hm1
              by_cases h1 : xl = 1
              · subst h1
                obtain ⟨g3, o3, rfl, x2⟩ := hxrow.first (by rw [← hxl]; decide)
                have hy := in_yes hmk hm1P hxl.symm
                obtain ⟨z, hz⟩ : ∃ z, z = (P.getD m1 []).getD 0 0 := ⟨_, rfl⟩
                rw [← hz] at x2 hy
                obtain ⟨l0, hl0⟩ : ∃ l0, l0 = coll ((P.drop (k + 2)).take j) := ⟨_, rfl⟩
                have hIR : IRow wr (w.heap.size + 2) u9 l0 := by rw [hl0]; exact HI.out
                obtain ⟨nl, hnl⟩ : ∃ nl, nl = l0.length := ⟨_, rfl⟩
                have hnl3 : nl ≤ 3 := by have := coll_len ((P.drop (k + 2)).take j); rw [List.length_take] at this; rw [hnl, hl0]; omega
                have hI0 : wr.ownsRow (w.heap.size + 2) 3 1 u9 nl (intsV l0) := by rw [hnl]; exact hIR
                have HY := Lib.hid (show coll ((P.drop (k + 2)).take (j + 1)) = l0 ++ [z] by rw [hl0]; exact hy)
                have HNL := Lib.hid hnl
                have HMK' := Lib.hid hmk
                have hBz : w.heap.size + 2 ≤ wr.heap.size := by have := HZ.out.1; omega
                clear hxl hxrow hy hz hl0 hIR hnl hmk HI hm1P
                go_wp2_with (at_builtin; refine wpList_append_own _ rfl (.tmp 99) (.tmp 106) 50 rfl (w.heap.size + 2) 3 ib (.int .i64 0) 1 8 Tryd.underlying50 hi hz0 hz1 hz2 rfl (by decide) u9 nl (intsV l0) rfl (hI0.alloc _) ⟨wr.heap.size, 0, none⟩ 1 1 [.int .i64 z] rfl rfl ?c1 ?c2 ?c3 ?c4 ?c5 ?_)
                case c1 => exact new_cells wr [.int .i64 z] 3 _ rfl
                case c2 => simp [Value.oneCell']
                case c3 => unfold maxLen; omega
                case c4 => omega
                case c5 => simp; omega
                intro v' w2 own2 grow2 _
                have hlt2 : ∀ j, u9.ownBlock = some j → w.heap.size + 2 ≤ j := fun j hj => (hI0.lt j hj).1
                have b2 : Below w.heap.size w w2 := (HB.out.alloc HB.out.size _).grown grow2 (by simp; omega) (fun j hj => by have := hlt2 j hj; omega)
                have HIN := Lib.hid (show IRow w2 (w.heap.size + 2) v' (coll ((P.drop (k + 2)).take (j + 1))) by
                  rw [HY.out]
                  unfold IRow
                  rw [List.length_append, ← HNL.out]
                  simpa [intsV] using own2)
                have HAN := Lib.hid (show AtAt w2 w.heap.size a' from (HA.out.past _).same grow2.size (grow2.block _ (by have := HA.out.1; simp; omega) (fun e => by have := hlt2 _ e.symm; omega)))
                have HZN := Lib.hid (show AtAt w2 (w.heap.size + 1) At.zero from (HZ.out.past _).same grow2.size (grow2.block _ (by have := HZ.out.1; simp; omega) (fun e => by have := hlt2 _ e.symm; omega)))
                have HMN := Lib.hid (show MatAt w2 (fun g => g < w.heap.size) (.slice (some ⟨g, o, none⟩) n c) P from (HM.out.below ((Below.refl _ _).alloc (Nat.le_refl _) _)).keep grow2.size (fun g hgX hgl => grow2.block g hgl (fun e => by have := hlt2 _ e.symm; have hgX' : g < w.heap.size := hgX; omega)))
                have HBN := Lib.hid b2
                clear own2 grow2 b2 hI0 hlt2 HM HA HZ HB x1 x2
                go_wp2
                go_roundg (3 - (j + 1))
                case rel => exact ⟨j + 1, m1, rfl, by go_num, Lib.hid (by have := HMK.out; have := HM1E.out; omega), by omega, hm1n, Nat.le_refl _, HIN, HMN, HAN, HZN, HBN⟩
                case measure => omega
              · have e1 : ((xl : Int) == 1) = false := by simp; omega
                have HY := Lib.hid (in_no hmk hm1P (by rw [← hxl]; exact h1))
                clear hxl hxrow hmk hm1P
                go_wp2
                go_roundg (3 - (j + 1))
                case rel => exact ⟨j + 1, m1, rfl, by go_num, Lib.hid (by have := HMK.out; have := HM1E.out; omega), by omega, hm1n, Nat.le_refl _, Lib.hid (by rw [HY.out]; exact HI.out), HM, HA, HZ, HB⟩
                case measure => omega
            by_cases hjm : j < 3
            · have hm1n : ¬ m1 < n := fun h => hgo ⟨hjm, h⟩
              have d1 : decide ((j : Int) < 3) = true := by simp; omega
              have d2 : decide ((m1 : Int) < (n : Int)) = false := by simp; omega
              clear hgo
              have HCL := Lib.hid (in_end (P := P) (k := k) (j := j) (many := 3) (m := m) (by have := HMK.out; have := HK1.out; omega) (by omega) (by have := HN.out; omega))
              have CS := Lib.hid (rcolored_any wr _ u9 (coll ((P.drop (k + 2)).take j)) a' 38 2 HI.out.nums (by have := coll_len ((P.drop (k + 2)).take j); rw [List.length_take] at this; omega))
              obtain ⟨_, ⟨y1, y2, y3, y4, y5, y6, y7, y8, y9⟩, yf⟩ := HA.out
              clear hm1 HI
              go_wp2_with fail
              refine CS.out.mono ?_
              rintro e w1 ⟨rfl, bb⟩
              clear CS y1 y2 y3 y4 y5 y6 y7 y8 y9 yf
              have HA1 := Lib.hid (HA.out.below bb)
              have HZ1 := Lib.hid (HZ.out.below bb)
              have HM1 := Lib.hid (HM.out.below bb)
              have HB1 := Lib.hid (HB.out.trans (bb.mono HB.out.size))
              obtain ⟨q, hq⟩ : ∃ q, q = setC2 38 a' (coloredM 2 (coll ((P.drop (k + 2)).take j))) := ⟨_, rfl⟩
              have HNX := Lib.hid (show loopM q (P.drop (m + 1)) = res ∧ q.ok from step_next HLP.out HO.out (by rw [hq]; exact by rw [HST.out, HCL.out.1, HCL.out.2]))
              rw [← hq]
              clear hq bb
              obtain ⟨wq, hwq⟩ : ∃ wq, wq = putA w1 w.heap.size q := ⟨_, rfl⟩
              have HAQ := Lib.hid (show AtAt wq w.heap.size q by rw [hwq]; exact HA1.out.putA q)
              have HZQ := Lib.hid (show AtAt wq (w.heap.size + 1) At.zero by rw [hwq]; exact HZ1.out.butO (putA_but w1 w.heap.size q) (by omega))
              have HMQ := Lib.hid (show MatAt wq (fun g => g < w.heap.size) (.slice (some ⟨g, o, none⟩) n c) P by rw [hwq]; exact HM1.out.but (Nat.lt_irrefl _) (putA_but w1 w.heap.size q))
              have HBQ := Lib.hid (show Below w.heap.size w wq by rw [hwq]; exact HB1.out.trans ((putA_but w1 w.heap.size q).below (C := w.heap.size) (Nat.le_refl _) HB1.out.size))
              simp only [putA, putC, Nat.zero_add, Nat.reduceAdd] at hwq
              obtain ⟨_, ⟨y1, y2, y3, y4, y5, y6, y7, y8, y9⟩, yf⟩ := HA1.out
              clear HM HA HZ HB HO HLP HST
              go_wp2
              rw [← hwq]
              clear y1 y2 y3 y4 y5 y6 y7 y8 y9 yf hwq
              go_roundg (n - m1)
              case rel => exact ⟨m1, q, by first | rfl | go_num, by have := HM1E.out; omega, Nat.le_refl _, Lib.hid (by rw [HM1E.out]; exact HNX.out.1), Lib.hid HNX.out.2, HMQ, HAQ, HZQ, HBQ⟩
              case measure => have := HK1.out; have := HGK.out; have := HM1E.out; have := HMK.out; omega
            · have d1 : decide ((j : Int) < 3) = false := by simp; omega
              clear hgo
              have HCL := Lib.hid (in_end (P := P) (k := k) (j := j) (many := 3) (m := m) (by have := HMK.out; have := HK1.out; omega) (by omega) (by have := HN.out; omega))
              have CS := Lib.hid (rcolored_any wr _ u9 (coll ((P.drop (k + 2)).take j)) a' 38 2 HI.out.nums (by have := coll_len ((P.drop (k + 2)).take j); rw [List.length_take] at this; omega))
              obtain ⟨_, ⟨y1, y2, y3, y4, y5, y6, y7, y8, y9⟩, yf⟩ := HA.out
              clear hm1 HI
              go_wp2_with fail
              refine CS.out.mono ?_
              rintro e w1 ⟨rfl, bb⟩
              clear CS y1 y2 y3 y4 y5 y6 y7 y8 y9 yf
              have HA1 := Lib.hid (HA.out.below bb)
              have HZ1 := Lib.hid (HZ.out.below bb)
              have HM1 := Lib.hid (HM.out.below bb)
              have HB1 := Lib.hid (HB.out.trans (bb.mono HB.out.size))
              obtain ⟨q, hq⟩ : ∃ q, q = setC2 38 a' (coloredM 2 (coll ((P.drop (k + 2)).take j))) := ⟨_, rfl⟩
              have HNX := Lib.hid (show loopM q (P.drop (m + 1)) = res ∧ q.ok from step_next HLP.out HO.out (by rw [hq]; exact by rw [HST.out, HCL.out.1, HCL.out.2]))
              rw [← hq]
              clear hq bb
              obtain ⟨wq, hwq⟩ : ∃ wq, wq = putA w1 w.heap.size q := ⟨_, rfl⟩
              have HAQ := Lib.hid (show AtAt wq w.heap.size q by rw [hwq]; exact HA1.out.putA q)
              have HZQ := Lib.hid (show AtAt wq (w.heap.size + 1) At.zero by rw [hwq]; exact HZ1.out.butO (putA_but w1 w.heap.size q) (by omega))
              have HMQ := Lib.hid (show MatAt wq (fun g => g < w.heap.size) (.slice (some ⟨g, o, none⟩) n c) P by rw [hwq]; exact HM1.out.but (Nat.lt_irrefl _) (putA_but w1 w.heap.size q))
              have HBQ := Lib.hid (show Below w.heap.size w wq by rw [hwq]; exact HB1.out.trans ((putA_but w1 w.heap.size q).below (C := w.heap.size) (Nat.le_refl _) HB1.out.size))
              simp only [putA, putC, Nat.zero_add, Nat.reduceAdd] at hwq
              obtain ⟨_, ⟨y1, y2, y3, y4, y5, y6, y7, y8, y9⟩, yf⟩ := HA1.out
              clear HM HA HZ HB HO HLP HST
              go_wp2
              rw [← hwq]
              clear y1 y2 y3 y4 y5 y6 y7 y8 y9 yf hwq
              go_roundg (n - m1)
              case rel => exact ⟨m1, q, by first | rfl | go_num, by have := HM1E.out; omega, Nat.le_refl _, Lib.hid (by rw [HM1E.out]; exact HNX.out.1), Lib.hid HNX.out.2, HMQ, HAQ, HZQ, HBQ⟩
              case measure => have := HK1.out; have := HGK.out; have := HM1E.out; have := HMK.out; omega
        · go_wp2
          go_loopg [5, 9, 10] 3 (fun G i l kk wi => ∃ (j m : Nat), i = .int .i64 m ∧ kk = .int .i64 j ∧ Hid (m = k1 + j) ∧ j ≤ 3 ∧ m < n ∧ 3 - j ≤ G ∧ Hid (IRow wi (w.heap.size + 2) l (coll ((P.drop (k + 2)).take j))) ∧ Hid (MatAt wi (fun g => g < w.heap.size) (.slice (some ⟨g, o, none⟩) n c) P) ∧ Hid (AtAt wi w.heap.size a') ∧ Hid (AtAt wi (w.heap.size + 1) At.zero) ∧ Hid (Below w.heap.size w wi))
          case atStart => exact ⟨0, k1, rfl, rfl, Lib.hid rfl, Nat.zero_le _, hk1, Nat.sub_le _ _, Lib.hid (World.ownsRow_nil _ _ _ 1), HM, HA, HZ, HB⟩
          case round =>
            clear HM HA HZ HB a1 a2 v1 v2 s1 d1 hk1
            obtain ⟨j, m, rfl, rfl, HMK, hj, hmn, hgj, HI, HM, HA, HZ, HB⟩ := hrel
            obtain ⟨m1, hm1⟩ : ∃ m1, m1 = m + 1 := ⟨_, rfl⟩
            have HM1E := Lib.hid hm1
            have s1 : IntKind.i64.wrap ((m : Int) + 1) = (m1 : Int) := by rw [IntKind.wrap_i64]; omega
            by_cases hgo : j < 3 ∧ m1 < n
            · obtain ⟨hjm, hm1n⟩ := hgo
              have d1 : decide ((j : Int) < 3) = true := by simp; omega
              have d2 : decide ((m1 : Int) < (n : Int)) = true := by simp; omega
              have hm1P : m1 < P.length := by rw [← HN.out]; exact hm1n
              obtain ⟨xa, xl, xc, x1, hxl, hxrow, _⟩ := HM.out.row_at m1 hm1P
              have hmk : m1 = k + 2 + j := by have := HMK.out; have := HK1.out; omega
              clear hm1
              by_cases h1 : xl = 1
              · subst h1
                obtain ⟨g3, o3, rfl, x2⟩ := hxrow.first (by rw [← hxl]; decide)
                have hy := in_yes hmk hm1P hxl.symm
                obtain ⟨z, hz⟩ : ∃ z, z = (P.getD m1 []).getD 0 0 := ⟨_, rfl⟩
                rw [← hz] at x2 hy
                obtain ⟨l0, hl0⟩ : ∃ l0, l0 = coll ((P.drop (k + 2)).take j) := ⟨_, rfl⟩
                have hIR : IRow wr (w.heap.size + 2) u9 l0 := by rw [hl0]; exact HI.out
                obtain ⟨nl, hnl⟩ : ∃ nl, nl = l0.length := ⟨_, rfl⟩
                have hnl3 : nl ≤ 3 := by have := coll_len ((P.drop (k + 2)).take j); rw [List.length_take] at this; rw [hnl, hl0]; omega
                have hI0 : wr.ownsRow (w.heap.size + 2) 3 1 u9 nl (intsV l0) := by rw [hnl]; exact hIR
                have HY := Lib.hid (show coll ((P.drop (k + 2)).take (j + 1)) = l0 ++ [z] by rw [hl0]; exact hy)
                have HNL := Lib.hid hnl
                have HMK' := Lib.hid hmk
                have hBz : w.heap.size + 2 ≤ wr.heap.size := by have := HZ.out.1; omega
                clear hxl hxrow hy hz hl0 hIR hnl hmk HI hm1P
                go_wp2_with (at_builtin; refine wpList_append_own _ rfl (.tmp 99) (.tmp 106) 50 rfl (w.heap.size + 2) 3 ib (.int .i64 0) 1 8 Tryd.underlying50 hi hz0 hz1 hz2 rfl (by decide) u9 nl (intsV l0) rfl (hI0.alloc _) ⟨wr.heap.size, 0, none⟩ 1 1 [.int .i64 z] rfl rfl ?c1 ?c2 ?c3 ?c4 ?c5 ?_)
                case c1 => exact new_cells wr [.int .i64 z] 3 _ rfl
                case c2 => simp [Value.oneCell']
                case c3 => unfold maxLen; omega
                case c4 => omega
                case c5 => simp; omega
                intro v' w2 own2 grow2 _
                have hlt2 : ∀ j, u9.ownBlock = some j → w.heap.size + 2 ≤ j := fun j hj => (hI0.lt j hj).1
                have b2 : Below w.heap.size w w2 := (HB.out.alloc HB.out.size _).grown grow2 (by simp; omega) (fun j hj => by have := hlt2 j hj; omega)
                have HIN := Lib.hid (show IRow w2 (w.heap.size + 2) v' (coll ((P.drop (k + 2)).take (j + 1))) by
                  rw [HY.out]
                  unfold IRow
                  rw [List.length_append, ← HNL.out]
                  simpa [intsV] using own2)
                have HAN := Lib.hid (show AtAt w2 w.heap.size a' from (HA.out.past _).same grow2.size (grow2.block _ (by have := HA.out.1; simp; omega) (fun e => by have := hlt2 _ e.symm; omega)))
                have HZN := Lib.hid (show AtAt w2 (w.heap.size + 1) At.zero from (HZ.out.past _).same grow2.size (grow2.block _ (by have := HZ.out.1; simp; omega) (fun e => by have := hlt2 _ e.symm; omega)))
                have HMN := Lib.hid (show MatAt w2 (fun g => g < w.heap.size) (.slice (some ⟨g, o, none⟩) n c) P from (HM.out.below ((Below.refl _ _).alloc (Nat.le_refl _) _)).keep grow2.size (fun g hgX hgl => grow2.block g hgl (fun e => by have := hlt2 _ e.symm; have hgX' : g < w.heap.size := hgX; omega)))
                have HBN := Lib.hid b2
                clear own2 grow2 b2 hI0 hlt2 HM HA HZ HB x1 x2
                go_wp2
                go_roundg (3 - (j + 1))
                case rel => exact ⟨j + 1, m1, rfl, by go_num, Lib.hid (by have := HMK.out; have := HM1E.out; omega), by omega, hm1n, Nat.le_refl _, HIN, HMN, HAN, HZN, HBN⟩
                case measure => omega
              · have e1 : ((xl : Int) == 1) = false := by simp; omega
                have HY := Lib.hid (in_no hmk hm1P (by rw [← hxl]; exact h1))
                clear hxl hxrow hmk hm1P
                go_wp2
                go_roundg (3 - (j + 1))
                case rel => exact ⟨j + 1, m1, rfl, by go_num, Lib.hid (by have := HMK.out; have := HM1E.out; omega), by omega, hm1n, Nat.le_refl _, Lib.hid (by rw [HY.out]; exact HI.out), HM, HA, HZ, HB⟩
                case measure => omega
            by_cases hjm : j < 3
            · have hm1n : ¬ m1 < n := fun h => hgo ⟨hjm, h⟩
              have d1 : decide ((j : Int) < 3) = true := by simp; omega
              have d2 : decide ((m1 : Int) < (n : Int)) = false := by simp; omega
              clear hgo
              have HCL := Lib.hid (in_end (P := P) (k := k) (j := j) (many := 3) (m := m) (by have := HMK.out; have := HK1.out; omega) (by omega) (by have := HN.out; omega))
              have CS := Lib.hid (rcolored_any wr _ u9 (coll ((P.drop (k + 2)).take j)) a' 48 2 HI.out.nums (by have := coll_len ((P.drop (k + 2)).take j); rw [List.length_take] at this; omega))
              obtain ⟨_, ⟨y1, y2, y3, y4, y5, y6, y7, y8, y9⟩, yf⟩ := HA.out
              clear hm1 HI
              go_wp2_with fail
              refine CS.out.mono ?_
              rintro e w1 ⟨rfl, bb⟩
              clear CS y1 y2 y3 y4 y5 y6 y7 y8 y9 yf
              have HA1 := Lib.hid (HA.out.below bb)
              have HZ1 := Lib.hid (HZ.out.below bb)
              have HM1 := Lib.hid (HM.out.below bb)
              have HB1 := Lib.hid (HB.out.trans (bb.mono HB.out.size))
              obtain ⟨q, hq⟩ : ∃ q, q = setC2 48 a' (coloredM 2 (coll ((P.drop (k + 2)).take j))) := ⟨_, rfl⟩
              have HNX := Lib.hid (show loopM q (P.drop (m + 1)) = res ∧ q.ok from step_next HLP.out HO.out (by rw [hq]; exact by rw [HST.out, HCL.out.1, HCL.out.2]))
              rw [← hq]
              clear hq bb
              obtain ⟨wq, hwq⟩ : ∃ wq, wq = putA w1 w.heap.size q := ⟨_, rfl⟩
              have HAQ := Lib.hid (show AtAt wq w.heap.size q by rw [hwq]; exact HA1.out.putA q)
              have HZQ := Lib.hid (show AtAt wq (w.heap.size + 1) At.zero by rw [hwq]; exact HZ1.out.butO (putA_but w1 w.heap.size q) (by omega))
              have HMQ := Lib.hid (show MatAt wq (fun g => g < w.heap.size) (.slice (some ⟨g, o, none⟩) n c) P by rw [hwq]; exact HM1.out.but (Nat.lt_irrefl _) (putA_but w1 w.heap.size q))
              have HBQ := Lib.hid (show Below w.heap.size w wq by rw [hwq]; exact HB1.out.trans ((putA_but w1 w.heap.size q).below (C := w.heap.size) (Nat.le_refl _) HB1.out.size))
              simp only [putA, putC, Nat.zero_add, Nat.reduceAdd] at hwq
              obtain ⟨_, ⟨y1, y2, y3, y4, y5, y6, y7, y8, y9⟩, yf⟩ := HA1.out
              clear HM HA HZ HB HO HLP HST
              go_wp2
              rw [← hwq]
              clear y1 y2 y3 y4 y5 y6 y7 y8 y9 yf hwq
              go_roundg (n - m1)
              case rel => exact ⟨m1, q, by first | rfl | go_num, by have := HM1E.out; omega, Nat.le_refl _, Lib.hid (by rw [HM1E.out]; exact HNX.out.1), Lib.hid HNX.out.2, HMQ, HAQ, HZQ, HBQ⟩
              case measure => have := HK1.out; have := HGK.out; have := HM1E.out; have := HMK.out; omega
            · have d1 : decide ((j : Int) < 3) = false := by simp; omega
              clear hgo
              have HCL := Lib.hid (in_end (P := P) (k := k) (j := j) (many := 3) (m := m) (by have := HMK.out; have := HK1.out; omega) (by omega) (by have := HN.out; omega))
              have CS := Lib.hid (rcolored_any wr _ u9 (coll ((P.drop (k + 2)).take j)) a' 48 2 HI.out.nums (by have := coll_len ((P.drop (k + 2)).take j); rw [List.length_take] at this; omega))
              obtain ⟨_, ⟨y1, y2, y3, y4, y5, y6, y7, y8, y9⟩, yf⟩ := HA.out
              clear hm1 HI
              go_wp2_with fail
              refine CS.out.mono ?_
              rintro e w1 ⟨rfl, bb⟩
              clear CS y1 y2 y3 y4 y5 y6 y7 y8 y9 yf
              have HA1 := Lib.hid (HA.out.below bb)
              have HZ1 := Lib.hid (HZ.out.below bb)
              have HM1 := Lib.hid (HM.out.below bb)
              have HB1 := Lib.hid (HB.out.trans (bb.mono HB.out.size))
              obtain ⟨q, hq⟩ : ∃ q, q = setC2 48 a' (coloredM 2 (coll ((P.drop (k + 2)).take j))) := ⟨_, rfl⟩
              have HNX := Lib.hid (show loopM q (P.drop (m + 1)) = res ∧ q.ok from step_next HLP.out HO.out (by rw [hq]; exact by rw [HST.out, HCL.out.1, HCL.out.2]))
              rw [← hq]
              clear hq bb
              obtain ⟨wq, hwq⟩ : ∃ wq, wq = putA w1 w.heap.size q := ⟨_, rfl⟩
              have HAQ := Lib.hid (show AtAt wq w.heap.size q by rw [hwq]; exact HA1.out.putA q)
              have HZQ := Lib.hid (show AtAt wq (w.heap.size + 1) At.zero by rw [hwq]; exact HZ1.out.butO (putA_but w1 w.heap.size q) (by omega))
              have HMQ := Lib.hid (show MatAt wq (fun g => g < w.heap.size) (.slice (some ⟨g, o, none⟩) n c) P by rw [hwq]; exact HM1.out.but (Nat.lt_irrefl _) (putA_but w1 w.heap.size q))
              have HBQ := Lib.hid (show Below w.heap.size w wq by rw [hwq]; exact HB1.out.trans ((putA_but w1 w.heap.size q).below (C := w.heap.size) (Nat.le_refl _) HB1.out.size))
              simp only [putA, putC, Nat.zero_add, Nat.reduceAdd] at hwq
              obtain ⟨_, ⟨y1, y2, y3, y4, y5, y6, y7, y8, y9⟩, yf⟩ := HA1.out
              clear HM HA HZ HB HO HLP HST
              go_wp2
              rw [← hwq]
              clear y1 y2 y3 y4 y5 y6 y7 y8 y9 yf hwq
              go_roundg (n - m1)
              case rel => exact ⟨m1, q, by first | rfl | go_num, by have := HM1E.out; omega, Nat.le_refl _, Lib.hid (by rw [HM1E.out]; exact HNX.out.1), Lib.hid HNX.out.2, HMQ, HAQ, HZQ, HBQ⟩
              case measure => have := HK1.out; have := HGK.out; have := HM1E.out; have := HMK.out; omega
      have f2 : (y == 2) = false := by simp [y2]
      rw [show needed y = 0 by unfold needed; rw [if_neg y5, if_neg y2]] at HST
      clear y5 y2
      rcases hc with rfl | rfl
      · go_wp2
        go_loopg [5, 9, 10] 0 (fun G i l kk wi => ∃ (j m : Nat), i = .int .i64 m ∧ kk = .int .i64 j ∧ Hid (m = k1 + j) ∧ j ≤ 0 ∧ m < n ∧ 0 - j ≤ G ∧ Hid (IRow wi (w.heap.size + 2) l (coll ((P.drop (k + 2)).take j))) ∧ Hid (MatAt wi (fun g => g < w.heap.size) (.slice (some ⟨g, o, none⟩) n c) P) ∧ Hid (AtAt wi w.heap.size a') ∧ Hid (AtAt wi (w.heap.size + 1) At.zero) ∧ Hid (Below w.heap.size w wi))
        case atStart => exact ⟨0, k1, rfl, rfl, Lib.hid rfl, Nat.zero_le _, hk1, Nat.sub_le _ _, Lib.hid (World.ownsRow_nil _ _ _ 1), HM, HA, HZ, HB⟩
        case round =>
          clear HM HA HZ HB a1 a2 v1 v2 s1 d1 hk1
          obtain ⟨j, m, rfl, rfl, HMK, hj, hmn, hgj, HI, HM, HA, HZ, HB⟩ := hrel
          obtain ⟨m1, hm1⟩ : ∃ m1, m1 = m + 1 := ⟨_, rfl⟩
          have HM1E := Lib.hid hm1
          have s1 : IntKind.i64.wrap ((m : Int) + 1) = (m1 : Int) := by rw [IntKind.wrap_i64]; omega
          by_cases hgo : j < 0 ∧ m1 < n
          · exact absurd hgo.1 (Nat.not_lt_zero _)
          have d1 : decide ((j : Int) < 0) = false := by simp
          clear hgo
          have HCL := Lib.hid (in_end (P := P) (k := k) (j := j) (many := 0) (m := m) (by have := HMK.out; have := HK1.out; omega) (by omega) (by have := HN.out; omega))
          have CS := Lib.hid (rcolored_any wr _ u9 (coll ((P.drop (k + 2)).take j)) a' 38 y HI.out.nums (by have := coll_len ((P.drop (k + 2)).take j); rw [List.length_take] at this; omega))
          obtain ⟨_, ⟨y1, y2, y3, y4, y5, y6, y7, y8, y9⟩, yf⟩ := HA.out
          clear hm1 HI
          go_wp2_with fail
          refine CS.out.mono ?_
          rintro e w1 ⟨rfl, bb⟩
          clear CS y1 y2 y3 y4 y5 y6 y7 y8 y9 yf
          have HA1 := Lib.hid (HA.out.below bb)
          have HZ1 := Lib.hid (HZ.out.below bb)
          have HM1 := Lib.hid (HM.out.below bb)
          have HB1 := Lib.hid (HB.out.trans (bb.mono HB.out.size))
          obtain ⟨q, hq⟩ : ∃ q, q = setC2 38 a' (coloredM y (coll ((P.drop (k + 2)).take j))) := ⟨_, rfl⟩
          have HNX := Lib.hid (show loopM q (P.drop (m + 1)) = res ∧ q.ok from step_next HLP.out HO.out (by rw [hq]; exact by rw [HST.out, HCL.out.1, HCL.out.2]))
          rw [← hq]
          clear hq bb
          obtain ⟨wq, hwq⟩ : ∃ wq, wq = putA w1 w.heap.size q := ⟨_, rfl⟩
          have HAQ := Lib.hid (show AtAt wq w.heap.size q by rw [hwq]; exact HA1.out.putA q)
          have HZQ := Lib.hid (show AtAt wq (w.heap.size + 1) At.zero by rw [hwq]; exact HZ1.out.butO (putA_but w1 w.heap.size q) (by omega))
          have HMQ := Lib.hid (show MatAt wq (fun g => g < w.heap.size) (.slice (some ⟨g, o, none⟩) n c) P by rw [hwq]; exact HM1.out.but (Nat.lt_irrefl _) (putA_but w1 w.heap.size q))
          have HBQ := Lib.hid (show Below w.heap.size w wq by rw [hwq]; exact HB1.out.trans ((putA_but w1 w.heap.size q).below (C := w.heap.size) (Nat.le_refl _) HB1.out.size))
          simp only [putA, putC, Nat.zero_add, Nat.reduceAdd] at hwq
          obtain ⟨_, ⟨y1, y2, y3, y4, y5, y6, y7, y8, y9⟩, yf⟩ := HA1.out
          clear HM HA HZ HB HO HLP HST
          go_wp2
          rw [← hwq]
          clear y1 y2 y3 y4 y5 y6 y7 y8 y9 yf hwq
          go_roundg (n - m1)
          case rel => exact ⟨m1, q, by first | rfl | go_num, by have := HM1E.out; omega, Nat.le_refl _, Lib.hid (by rw [HM1E.out]; exact HNX.out.1), Lib.hid HNX.out.2, HMQ, HAQ, HZQ, HBQ⟩
          case measure => have := HK1.out; have := HGK.out; have := HM1E.out; have := HMK.out; omega
      · go_wp2
        go_loopg [5, 9, 10] 0 (fun G i l kk wi => ∃ (j m : Nat), i = .int .i64 m ∧ kk = .int .i64 j ∧ Hid (m = k1 + j) ∧ j ≤ 0 ∧ m < n ∧ 0 - j ≤ G ∧ Hid (IRow wi (w.heap.size + 2) l (coll ((P.drop (k + 2)).take j))) ∧ Hid (MatAt wi (fun g => g < w.heap.size) (.slice (some ⟨g, o, none⟩) n c) P) ∧ Hid (AtAt wi w.heap.size a') ∧ Hid (AtAt wi (w.heap.size + 1) At.zero) ∧ Hid (Below w.heap.size w wi))
        case atStart => exact ⟨0, k1, rfl, rfl, Lib.hid rfl, Nat.zero_le _, hk1, Nat.sub_le _ _, Lib.hid (World.ownsRow_nil _ _ _ 1), HM, HA, HZ, HB⟩
        case round =>
          clear HM HA HZ HB a1 a2 v1 v2 s1 d1 hk1
          obtain ⟨j, m, rfl, rfl, HMK, hj, hmn, hgj, HI, HM, HA, HZ, HB⟩ := hrel
          obtain ⟨m1, hm1⟩ : ∃ m1, m1 = m + 1 := ⟨_, rfl⟩
          have HM1E := Lib.hid hm1
          have s1 : IntKind.i64.wrap ((m : Int) + 1) = (m1 : Int) := by rw [IntKind.wrap_i64]; omega
          by_cases hgo : j < 0 ∧ m1 < n
          · exact absurd hgo.1 (Nat.not_lt_zero _)
          have d1 : decide ((j : Int) < 0) = false := by simp
          clear hgo
          have HCL := Lib.hid (in_end (P := P) (k := k) (j := j) (many := 0) (m := m) (by have := HMK.out; have := HK1.out; omega) (by omega) (by have := HN.out; omega))
          have CS := Lib.hid (rcolored_any wr _ u9 (coll ((P.drop (k + 2)).take j)) a' 48 y HI.out.nums (by have := coll_len ((P.drop (k + 2)).take j); rw [List.length_take] at this; omega))
          obtain ⟨_, ⟨y1, y2, y3, y4, y5, y6, y7, y8, y9⟩, yf⟩ := HA.out
          clear hm1 HI
          go_wp2_with fail
          refine CS.out.mono ?_
          rintro e w1 ⟨rfl, bb⟩
          clear CS y1 y2 y3 y4 y5 y6 y7 y8 y9 yf
          have HA1 := Lib.hid (HA.out.below bb)
          have HZ1 := Lib.hid (HZ.out.below bb)
          have HM1 := Lib.hid (HM.out.below bb)
          have HB1 := Lib.hid (HB.out.trans (bb.mono HB.out.size))
          obtain ⟨q, hq⟩ : ∃ q, q = setC2 48 a' (coloredM y (coll ((P.drop (k + 2)).take j))) := ⟨_, rfl⟩
          have HNX := Lib.hid (show loopM q (P.drop (m + 1)) = res ∧ q.ok from step_next HLP.out HO.out (by rw [hq]; exact by rw [HST.out, HCL.out.1, HCL.out.2]))
          rw [← hq]
          clear hq bb
          obtain ⟨wq, hwq⟩ : ∃ wq, wq = putA w1 w.heap.size q := ⟨_, rfl⟩
          have HAQ := Lib.hid (show AtAt wq w.heap.size q by rw [hwq]; exact HA1.out.putA q)
          have HZQ := Lib.hid (show AtAt wq (w.heap.size + 1) At.zero by rw [hwq]; exact HZ1.out.butO (putA_but w1 w.heap.size q) (by omega))
          have HMQ := Lib.hid (show MatAt wq (fun g => g < w.heap.size) (.slice (some ⟨g, o, none⟩) n c) P by rw [hwq]; exact HM1.out.but (Nat.lt_irrefl _) (putA_but w1 w.heap.size q))
          have HBQ := Lib.hid (show Below w.heap.size w wq by rw [hwq]; exact HB1.out.trans ((putA_but w1 w.heap.size q).below (C := w.heap.size) (Nat.le_refl _) HB1.out.size))
          simp only [putA, putC, Nat.zero_add, Nat.reduceAdd] at hwq
          obtain ⟨_, ⟨y1, y2, y3, y4, y5, y6, y7, y8, y9⟩, yf⟩ := HA1.out
          clear HM HA HZ HB HO HLP HST
          go_wp2
          rw [← hwq]
          clear y1 y2 y3 y4 y5 y6 y7 y8 y9 yf hwq
          go_roundg (n - m1)
          case rel => exact ⟨m1, q, by first | rfl | go_num, by have := HM1E.out; omega, Nat.le_refl _, Lib.hid (by rw [HM1E.out]; exact HNX.out.1), Lib.hid HNX.out.2, HMQ, HAQ, HZQ, HBQ⟩
          case measure => have := HK1.out; have := HGK.out; have := HM1E.out; have := HMK.out; omega
    have hkn' : k = n := by omega
    have HQ' := Lib.hid (show a' = res by have := HLP.out; rw [hkn', HN.out, List.drop_length] at this; exact this)
    clear HLP HM HO
    have HQE := Lib.hid (show a' = res from HQ'.out)
    obtain ⟨wq, hwq⟩ : ∃ wq, wq = putA wr (w.heap.size + 1) a' := ⟨_, rfl⟩
    have Z := Lib.hid (show AtAt wq (w.heap.size + 1) a' by rw [hwq]; exact HZ.out.putA a')
    have HBQ := Lib.hid (show Below w.heap.size w wq by rw [hwq]; exact HB.out.trans ((putA_but wr (w.heap.size + 1) a').below (C := w.heap.size) (by omega) HB.out.size))
    simp only [putA, putC, Nat.zero_add, Nat.reduceAdd] at hwq
    obtain ⟨_, ⟨a1, a2, a3, a4, a5, a6, a7, a8, a9⟩, _⟩ := HA.out
    obtain ⟨_, ⟨z1, z2, z3, z4, z5, z6, z7, z8, z9⟩, zf⟩ := HZ.out
    dsimp only at z1 z2 z3 z4 z5 z6 z7 z8 z9
    go_wp2
    rw [← hwq]
    clear a1 a2 a3 a4 a5 a6 a7 a8 a9 z1 z2 z3 z4 z5 z6 z7 z8 z9 zf hwq
    obtain ⟨_, ⟨k1, k2, k3, k4, k5, k6, k7, k8, k9⟩, _⟩ := Z.out
    exact bodyPost_ret (v := attV a') (by simp [results, Tryd.results13, go_sem, k1, k2, k3, k4, k5, k6, k7, k8, k9]) rfl ⟨by rw [HQE.out, HRES.out], HBQ.out⟩
end Go.Proofs.YtlmhnebgkginkaaDoor.Lab
