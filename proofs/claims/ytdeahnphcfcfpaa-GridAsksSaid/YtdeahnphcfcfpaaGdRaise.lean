/- The project's Raise. -/
import Derived.Test.YtdeahnphcfcfpaaGdEach
import Derived.Test.YtdeahnphcfcfpaaRpRaise
namespace Go.Proofs.Ytdeahnphcfcfpaa.Lab
open Go Go.RowKit Go.Shelf
attribute [local go_sem] Oper.semAt_some

/-- Where rounds stand that put new rows in the places of the first k. -/
def Amid (w : World) (lo p rb c : Nat) (H : List Hd) (f : Cls → Cls) (k : Nat) (W : World) : Prop :=
  ∃ F : List Hd, F.length = k ∧ GAt W lo p rb c (F ++ H.drop k) ∧ F.map (·.R) = (H.take k).map (fun h => f h.R) ∧ Fr w.heap.size F ∧ Buts (· = rb) w W
theorem Amid.turn {w W W' : World} {lo p rb c k B : Nat} {H : List Hd} {f : Cls → Cls} {row : Option Nat} (h : Amid w lo p rb c H f k W) (hg : W.grownBy W' row) (hB : w.heap.size ≤ B) (hr : ∀ r, row = some r → B ≤ r ∧ ∃ o : Obj, W.heap[r]? = some o ∧ o.isCells = false) : Amid w lo p rb c H f k W' := by
  obtain ⟨F, h1, h2, h3, h4, h5⟩ := h
  exact ⟨F, h1, h2.turn hg (fun r e => (hr r e).2), h3, h4, h5.turn hg hB hr⟩
theorem Amid.step {w W W' : World} {lo p rb c k : Nat} {H : List Hd} {f : Cls → Cls} {x : Hd} (h : Amid w lo p rb c H f k W) (hk : k < H.length) (hb : Below W.heap.size W W') (hx : CRow W' W.heap.size (hdV x) x.R) (hxR : x.R = f H[k].R) (hlo : lo ≤ W.heap.size) : Amid w lo p rb c H f (k + 1) (W'.setCell ⟨rb, k, none⟩ (hdV x)) := by
  obtain ⟨F, h1, h2, h3, h4, h5⟩ := h
  have g1 := (h2.below hb).put k (hx.lower hlo)
  have e1 : (F ++ H.drop k).set k x = (F ++ [x]) ++ H.drop (k + 1) := by rw [drop_cons hk]; subst h1; exact set_mid F _ _ x
  rw [e1] at g1
  refine ⟨F ++ [x], by rw [List.length_append, h1]; rfl, g1, ?_, ?_, (h5.trans (Buts.of hb)).trans (Buts.but (But.set W' rb k _) rfl)⟩
  · rw [List.map_append, h3, List.take_succ_eq_append_getElem hk, List.map_append]
    simp [hxR]
  · exact h4.snoc (m := W.heap.size) (fun y hy => ((h2.2.2.2).lt (List.mem_append_left _ hy)).2) (hx.lt x.b rfl).1 h5.size
theorem Amid.start {w : World} {lo p rb c : Nat} {H : List Hd} (f : Cls → Cls) (h : GAt w lo p rb c H) : Amid w lo p rb c H f 0 w := ⟨[], rfl, h, rfl, Fr.nil _, Buts.refl _ _⟩
theorem Amid.here {w W : World} {lo p rb c k : Nat} {H : List Hd} {f : Cls → Cls} (h : Amid w lo p rb c H f k W) : W.cell? ⟨p, 0, none⟩ = some (.slice (some ⟨rb, 0, none⟩) H.length c) ∨ H.length < k := by
  obtain ⟨F, h1, h2, _⟩ := h
  by_cases hk : k ≤ H.length
  · left
    have := h2.cell
    rwa [List.length_append, List.length_drop, h1, show k + (H.length - k) = H.length by omega] at this
  · exact .inr (by omega)
theorem Amid.cur {w W : World} {lo p rb c k : Nat} {H : List Hd} {f : Cls → Cls} (h : Amid w lo p rb c H f k W) (hk : k < H.length) : W.cell? ⟨rb, k, none⟩ = some (hdV (hdAt H k)) ∧ CRow W lo (hdV (hdAt H k)) (hdAt H k).R ∧ (∀ j, W.frozen? ⟨rb, j, none⟩ = false) ∧ rb < W.heap.size ∧ p < W.heap.size ∧ p ≠ rb := by
  obtain ⟨F, h1, h2, _⟩ := h
  have hl : k < (F ++ H.drop k).length := by rw [List.length_append, List.length_drop, h1]; omega
  have e : (F ++ H.drop k)[k] = H[k] := by
    rw [List.getElem_append_right (by omega)]
    simp [h1]
  rw [hdAt_eq hk]
  have a1 := h2.2.2.at hl
  have a2 := h2.2.2.row hl
  rw [e] at a1 a2
  exact ⟨a1, a2, fun j => h2.2.2.frozen rfl j, h2.lt.2.1, h2.lt.1, h2.ne⟩
theorem Amid.last {w W : World} {lo p rb c : Nat} {H : List Hd} {f : Cls → Cls} (h : Amid w lo p rb c H f H.length W) : ∃ K, GAt W lo p rb c K ∧ K.map (·.R) = H.map (fun h => f h.R) ∧ Fr w.heap.size K ∧ Buts (· = rb) w W := by
  obtain ⟨F, h1, h2, h3, h4, h5⟩ := h
  rw [List.drop_length, List.append_nil] at h2
  rw [List.take_length] at h3
  exact ⟨F, h2, h3, h4, h5⟩
theorem Buts.cell {S : Nat → Prop} {w w' : World} (h : Buts S w w') {a : Addr} {v : Value} (hc : w.cell? a = some v) (hn : ¬ S a.block) : w'.cell? a = some v :=
  (World.cell?_of_block (h.block a.block (World.block_lt_of_cell? w a hc) hn)).trans hc
theorem Below.undrew {n : Nat} {a b : World} (h : Below n a.drew b) : Below n a b := ⟨h.os, h.tape, h.output, h.size, h.block⟩
theorem keeps_below {w w' : World} (h : Below w.heap.size w w') : KeepsOthers w w' :=
  KeepsOthers.of_grownBy (row := none) ⟨h.os, h.tape, h.output, h.size, fun k hk _ => h.block k hk⟩ (fun _ _ e _ => by cases e)
set_option maxHeartbeats 4000000 in
set_option maxRecDepth 100000 in
theorem graise_any (w : World) (lo p rb c : Nat) (H : List Hd) (l : Int) (h : GAt w lo p rb c H) (hlo : lo ≤ w.heap.size) (hl : H.length ≤ 1000) (hR : ∀ x ∈ H, 0 < x.R.length ∧ x.R.length ≤ 1000 ∧ Lv x.R) (h01 : l = 0 ∨ l = 1) :
    Calls Try.prog 35 #[gV p, .int .u8 l] w fun e w' => e = .returned (.tuple #[]) ∧ (∃ K, GAt w' lo p rb c K ∧ K.map (·.R) = H.map (fun h => raiseM h.R l) ∧ Fr w.heap.size K) ∧ Buts (· = rb) w w' := by
  obtain ⟨b2, hb2⟩ : ∃ b, b = w.heap.size := ⟨_, rfl⟩
  obtain ⟨b3, hb3⟩ : ∃ b, b = w.heap.size + 1 := ⟨_, rfl⟩
  obtain ⟨w2, hw2⟩ : ∃ x, x = (w.alloc (.cells #[gV p] 31)).alloc (.cells #[.int .u8 l] 40) := ⟨_, rfl⟩
  obtain ⟨n, hn⟩ : ∃ n, n = H.length := ⟨_, rfl⟩
  have B2 : Below w.heap.size w w2 := by rw [hw2]; exact ((Below.refl _ _).alloc (Nat.le_refl _) _).alloc (by simp) _
  have s2 : w2.heap.size = w.heap.size + 2 := by rw [hw2]; simp
  have HB2 := Lib.hid B2
  have c2 : w2.cell? ⟨b2, 0, none⟩ = some (gV p) := by rw [hw2, hb2]; simp
  have c3 : w2.cell? ⟨b3, 0, none⟩ = some (.int .u8 l) := by rw [hw2, hb3]; simp
  have g2 : GAt w2 lo p rb c H := h.below B2
  have HG2 := Lib.hid g2
  have HHR := Lib.hid hR
  have HNE := Lib.hid (show (p < b3 ∧ rb < b3) ∧ rb < b2 ∧ b2 < w2.heap.size ∧ b3 < w2.heap.size ∧ b2 ≠ b3 ∧ lo ≤ w2.heap.size ∧ w2.heap.size ≤ w2.heap.size by have := h.lt; omega)
  have hcp := g2.cell
  rw [← hn] at hcp hl
  have HN := Lib.hid hn
  have HS0 := Lib.hid (Amid.start (fun R => raiseM R l) g2)
  clear B2 g2 h hR s2 hn
  refine (callsIn_wide (n := 0)).1 ?_
  refine callsIn_of_wp_marks Try.func35 rfl trivial ?_ rfl
  simp only [Try.ntmps35, List.size_toArray, List.length_cons, List.length_nil, Nat.reduceAdd, Nat.reduceSub, Array.replicate_succ, Array.replicate_zero, List.push_toArray, List.append_toArray, List.nil_append, List.cons_append]
  gi_wp2
  rw [← hw2, ← hb3, ← hb2]
  clear hw2 hb2 hb3
  refine wp_range (gf := 49) (pre := #[gV p]) (post := #[]) rfl (enters_of Try.func49 (by kernel_rfl) rfl) (each_iter p rb c n H hl) (fun _ => rfl)
    (fun k W => k ≤ n ∧ Amid w2 lo p rb c H (fun R => raiseM R l) k W) (fun _ _ => False) ?hI ?hIx ?hH ?h0
    (fun k => { tmps := #[gV p, .int .u8 l, .pointer (some ⟨b2, 0, none⟩), .pointer (some ⟨b3, 0, none⟩), .int .i64 (k : Nat), hdV (hdAt H k), gV p, .func (.func 49) #[gV p] #[], .int .i64 (k : Nat), hdV (hdAt H k), undef, undef, undef, undef, undef, undef, undef, undef, undef], defers := [] }) ?assign ?body ?done ?stop
  case hI => exact fun k W W' row hs hg hr => ⟨hs.1, hs.2.turn hg HNE.out.2.2.2.2.2.2 hr⟩
  case hIx => exact fun _ _ _ _ hs _ _ => hs
  case hH =>
    rintro k W ⟨hk, hi⟩
    refine ⟨fun _ => ?_, fun hlt => (hi.cur (by rw [← HN.out]; exact hlt)).1⟩
    rcases hi.here with h | h
    · rw [HN.out]; exact h
    · rw [← HN.out] at h; omega
  case h0 => exact ⟨Nat.zero_le _, HS0.out⟩
  case assign =>
    intro ll k W K hK
    gi_wp2
    exact hK
  case body =>
    rintro ll k W1 hk ⟨hk', hi⟩
    have hkH : k < H.length := by rw [← HN.out]; exact hk
    obtain ⟨q1, q2, q3, q4, q5, q6⟩ := hi.cur hkH
    obtain ⟨y, hy⟩ : ∃ y, y = hdAt H k := ⟨_, rfl⟩
    have hyH : y ∈ H := by rw [hy, hdAt_eq hkH]; exact List.getElem_mem hkH
    rw [← hy] at q1 q2
    rw [← hy]
    obtain ⟨r1, r2, r3⟩ := HHR.out y hyH
    have bt := hi.choose_spec.2.2.2.2
    have BX2 := Lib.hid (show W1.cell? ⟨b2, 0, none⟩ = some (gV p) from bt.cell c2 (by have := HNE.out; simp; omega))
    have BX3 := Lib.hid (show W1.cell? ⟨b3, 0, none⟩ = some (.int .u8 l) from bt.cell c3 (by have := HNE.out; simp; omega))
    have BXP := Lib.hid (show W1.cell? ⟨p, 0, none⟩ = some (rV rb n c) by
      rcases hi.here with h | h
      · rw [HN.out]; exact h
      · omega)
    have L2 := Lib.hid (show b2 < W1.heap.size by have := bt.size; have := HNE.out; omega)
    have L3 := Lib.hid (show b3 < W1.heap.size by have := bt.size; have := HNE.out; omega)
    have LP := Lib.hid q5
    have LRB := Lib.hid q4
    have HCE := Lib.hid q1
    have N2 := Lib.hid (show b2 ≠ rb by have := HNE.out; omega)
    have N3 := Lib.hid (show b3 ≠ rb by have := HNE.out; omega)
    have NP := Lib.hid q6
    have HROW := Lib.hid (show RowIn W1.drew (hdV y) y.R from q2.row)
    have HLEN := Lib.hid (show y.R.length ≤ 10000 by omega)
    have HPOS := Lib.hid (show 0 < (raiseM y.R l).length by rw [len_raise]; exact r1)
    have HLV := Lib.hid r3
    have HHI := Lib.hid hi
    have HFZ := Lib.hid q3
    have HKL := Lib.hid (show k < n from hk)
    have HYK := Lib.hid (show y.R = H[k].R by rw [hy, hdAt_eq hkH])
    clear q1 q2 q3 q4 q5 q6 r1 r2 r3 hi bt hy hyH c2 c3 hcp
    refine wpIn_block ?_
    refine region_round ll 0 (S := fun wx => wx.cell? ⟨b2, 0, none⟩ = some (gV p) ∧ wx.cell? ⟨b3, 0, none⟩ = some (.int .u8 l) ∧ wx.cell? ⟨p, 0, none⟩ = some (rV rb n c)) (by kernel_rfl) (by kernel_rfl) (shut_block _ (roundEnd_shut _ _ _ _ _)) ?_ (fun hHeld => ?_)
    · exact ⟨BX2.out, BX3.out, BXP.out⟩
    refine tk 0 rfl (fun w hSw => by (try dsimp only at hSw); go_simp; try with_reducible rfl) ?_
    go_frame
    refine tk 1 rfl (fun w hSw => by (try dsimp only at hSw); go_simp; try with_reducible rfl) ?_
    go_frame
    refine tk 2 rfl (fun w hSw => by (try dsimp only at hSw); go_simp; try with_reducible rfl) ?_
    go_frame
    refine tk 3 rfl (fun w hSw => by (try dsimp only at hSw); go_simp; try with_reducible rfl) ?_
    go_frame
    refine tk 4 rfl (fun w hSw => by (try dsimp only at hSw); go_simp; try with_reducible rfl) ?_
    go_frame
    refine tk 5 rfl (fun w hSw => by (try dsimp only at hSw); go_simp; try with_reducible rfl) ?_
    go_frame
    refine tk 6 rfl (fun w hSw => by (try dsimp only at hSw); go_simp; try with_reducible rfl) ?_
    go_frame
    refine do_at (i := 7) rfl (by kernel_rfl) (by kernel_rfl) (fun K hK => ?_)
    go_simp
    refine (raiseAll_any W1.drew _ _ l HROW.out HLEN.out HLV.out h01).mono ?_
    rintro e w5 ⟨v5, rfl, own5, b5⟩
    obtain ⟨x5, rfl, hx5, hb5, ow5⟩ := own5.hd HPOS.out
    have HOW := Lib.hid ow5
    have HX5 := Lib.hid hx5
    have HB5 := Lib.hid b5
    have HXB := Lib.hid hb5
    clear own5 ow5 hx5 b5 hb5
    go_wp2_with fail
    refine hK.out _ _ ?_ (fun hHeld => ?_)
    · exact ⟨(HB5.out.cell (p := ⟨b2, 0, none⟩) L2.out).trans BX2.out, (HB5.out.cell (p := ⟨b3, 0, none⟩) L3.out).trans BX3.out, (HB5.out.cell (p := ⟨p, 0, none⟩) LP.out).trans BXP.out⟩
    clear hK K
    try go_frame
    refine tk 8 rfl (fun w hSw => by (try dsimp only at hSw); go_simp; try with_reducible rfl) ?_
    go_frame
    refine do_at (i := 9) rfl (by kernel_rfl) (by kernel_rfl) (fun K hK => ?_)
    have hfz : w5.frozen? ⟨rb, k, none⟩ = false := (HB5.out.frozen (p := ⟨rb, k, none⟩) LRB.out).trans (HFZ.out k)
    have hce : w5.cell? ⟨rb, k, none⟩ = some (hdV y) := (HB5.out.cell (p := ⟨rb, k, none⟩) LRB.out).trans HCE.out
    go_simp
    go_wp2_with fail
    refine hK.out _ _ ?_ (fun hHeld => ?_)
    · exact ⟨(World.cell?_setCell_other _ _ _ _ (fun e => N2.out (by injection e with e _ _; exact e.symm))).trans hHeld.1, (World.cell?_setCell_other _ _ _ _ (fun e => N3.out (by injection e with e _ _; exact e.symm))).trans hHeld.2.1, (World.cell?_setCell_other _ _ _ _ (fun e => NP.out (by injection e with e _ _; exact e.symm))).trans hHeld.2.2⟩
    clear hK K
    try go_frame
    refine wpAnyH_done (by kernel_rfl) ?_ _
    have hst := Amid.step HHI.out hkH (W' := w5) (Below.undrew HB5.out) HOW.out (by rw [HX5.out, HYK.out]) (by have := HNE.out; have := HHI.out.choose_spec.2.2.2.2.size; omega)
    exact ⟨((keeps_below (Below.undrew HB5.out)).trans (KeepsOthers.setCell _ _ _)).from _, by have := HKL.out; omega, hst⟩
  case done =>
    rintro D W hD ⟨_, hi⟩ hK
    gi_wp2
    refine ⟨by simp, .inl ⟨_, _, rfl, run_takeDeferred hK, ?_⟩⟩
    rw [HN.out] at hi
    obtain ⟨K, g, e, fr, bt⟩ := hi.last
    have tg := grownBy_putObj' W D (.deferred none)
    have tr : ∀ r, some D = some r → D ≤ r ∧ ∃ o : Obj, W.heap[r]? = some o ∧ o.isCells = false := fun r e => by cases e; exact ⟨Nat.le_refl _, _, hK, rfl⟩
    exact ⟨_, results_none rfl _ _ _, rfl, ⟨K, g.turn tg (fun r e => (tr r e).2), e, fr.mono HB2.out.size⟩, (Buts.of HB2.out).trans (bt.turn tg hD tr)⟩
  case stop => rintro D cc W _ h _; exact h.elim
end Go.Proofs.Ytdeahnphcfcfpaa.Lab
