/- The project's Resize. -/
import Derived.Test.YtdeahnphcfcfpaaGdRaise
import Derived.Test.YtdeahnphcfcfpaaGdRenew
import Derived.Test.YtdeahnphcfcfpaaGdAcc
import Derived.Test.YtdeahnphcfcfpaaRpRes
namespace Go.Proofs.Ytdeahnphcfcfpaa.Lab
open Go Go.RowKit Go.Shelf
attribute [local go_sem] Oper.semAt_some

def resG (G : List Cls) (r cl : Nat) (b : Cel) (t : Nat) : List Cls := (G.take t).map (fun R => resizeM R (cl : Nat) b) ++ List.replicate (r - t) (newM cl b)
theorem GAt.buts {w w' : World} {lo p rb c : Nat} {H : List Hd} {S : Nat → Prop} (h : GAt w lo p rb c H) (k : Buts S w w') (hp : ¬ S p) (hrb : ¬ S rb) (hr : ∀ x ∈ H, ¬ S x.b) : GAt w' lo p rb c H :=
  ⟨h.1, (k.block p h.lt.1 hp).trans h.2.1, h.2.2.buts k hrb hr⟩
/-- Where the rounds of Resize stand. -/
def ResAt (w wl : World) (lo p rb c rb2 c2 : Nat) (H : List Hd) (r cl : Nat) (b : Cel) (k : Nat) (W : World) : Prop :=
  k ≤ r ∧ GAt W lo p rb c H ∧ (∃ K, K.length = r ∧ GRow W w.heap.size w.heap.size (rV rb2 r c2) K ∧ K.map (·.R) = resG (H.map (·.R)) r cl b k ∧ Fr w.heap.size K) ∧ Buts (· = rb2) wl W
theorem ResAt.turn {w wl W W' : World} {lo p rb c rb2 c2 r cl k B : Nat} {b : Cel} {H : List Hd} {row : Option Nat} (h : ResAt w wl lo p rb c rb2 c2 H r cl b k W) (hg : W.grownBy W' row) (hB : wl.heap.size ≤ B) (hr : ∀ r, row = some r → B ≤ r ∧ ∃ o : Obj, W.heap[r]? = some o ∧ o.isCells = false) : ResAt w wl lo p rb c rb2 c2 H r cl b k W' := by
  obtain ⟨h1, h2, ⟨K, h3, h4, h5, h6⟩, h7⟩ := h
  exact ⟨h1, h2.turn hg (fun r e => (hr r e).2), ⟨K, h3, h4.turn hg (fun r e => (hr r e).2), h5, h6⟩, h7.turn hg hB hr⟩
theorem resG_step {G : List Cls} {r cl k : Nat} {b : Cel} (hk : k < G.length) (hr : k < r) : (resG G r cl b k).set k (resizeM G[k] (cl : Nat) b) = resG G r cl b (k + 1) := by
  unfold resG
  have hl : ((G.take k).map (fun R => resizeM R (cl : Nat) b)).length = k := by rw [List.length_map, List.length_take]; omega
  rw [show r - k = (r - (k + 1)) + 1 by omega, List.replicate_succ]
  have := set_mid ((G.take k).map (fun R => resizeM R (cl : Nat) b)) (List.replicate (r - (k + 1)) (newM cl b)) (newM cl b) (resizeM G[k] (cl : Nat) b)
  rw [hl] at this
  rw [this, List.take_succ_eq_append_getElem hk, List.map_append]
  rfl
theorem Fr.set {n m k : Nat} {K : List Hd} {x : Hd} (h : Fr n K) (hK : ∀ y ∈ K, y.b < m) (hx : m ≤ x.b) (hn : n ≤ m) : Fr n (K.set k x) := by
  refine ⟨fun y hy => ?_, ?_⟩
  · rcases List.mem_or_eq_of_mem_set hy with hy | hy
    · exact h.1 y hy
    · rw [hy]; omega
  · rw [List.map_set]
    have hno : x.b ∉ K.map (·.b) := fun hm => by
      obtain ⟨y, hy, e⟩ := List.mem_map.1 hm
      have := hK y hy
      omega
    have hL := h.2
    generalize K.map (·.b) = L at hno hL
    clear h hK
    induction L generalizing k with
    | nil => simp
    | cons a L ih =>
      rw [List.nodup_cons] at hL
      cases k with
      | zero =>
        rw [List.set_cons_zero, List.nodup_cons]
        exact ⟨fun hm => hno (List.mem_cons_of_mem _ hm), hL.2⟩
      | succ k =>
        rw [List.set_cons_succ, List.nodup_cons]
        refine ⟨fun hm => ?_, ih (k := k) (fun hm => hno (List.mem_cons_of_mem _ hm)) hL.2⟩
        rcases List.mem_or_eq_of_mem_set hm with hm | hm
        · exact hL.1 hm
        · exact hno (by rw [← hm]; exact List.mem_cons_self ..)
theorem ResAt.step {w wl W W' : World} {lo p rb c rb2 c2 r cl k : Nat} {b : Cel} {H : List Hd} {x : Hd} (h : ResAt w wl lo p rb c rb2 c2 H r cl b k W) (hk : k < H.length) (hkr : k < r) (hb : Below W.heap.size W W') (hx : CRow W' W.heap.size (hdV x) x.R) (hxR : x.R = resizeM H[k].R (cl : Nat) b) (hw : w.heap.size ≤ W.heap.size) (hp : p ≠ rb2) (hrb : rb ≠ rb2) (hrows : ∀ y ∈ H, y.b ≠ rb2) : ResAt w wl lo p rb c rb2 c2 H r cl b (k + 1) (W'.setCell ⟨rb2, k, none⟩ (hdV x)) := by
  obtain ⟨h1, h2, ⟨K, h3, h4, h5, h6⟩, h7⟩ := h
  have bs := But.set W' rb2 k (hdV x)
  have g2 := h2.below hb
  refine ⟨by omega, ⟨g2.1, (bs.block p g2.lt.1 (fun e => hp (by injection e))).trans g2.2.1, g2.2.2.buts (S := (· = rb2)) (Buts.but bs rfl) hrb hrows⟩, ⟨K.set k x, by rw [List.length_set]; exact h3, ?_, ?_, ?_⟩, (h7.trans (Buts.of hb)).trans (Buts.but bs rfl)⟩
  · have := (h4.below hb).put h3.symm k (hx.lower hw)
    exact this
  · rw [List.map_set, h5, hxR]
    have e : H[k].R = (H.map (·.R))[k]'(by rw [List.length_map]; exact hk) := by simp
    rw [e]
    exact resG_step (by rw [List.length_map]; exact hk) hkr
  · exact h6.set (m := W.heap.size) (fun y hy => (h4.2.lt hy).2) (hx.lt x.b rfl).1 hw
theorem heap_set1 {w : World} {p : Nat} {u v : Value} {T : TypeId} (h : w.heap[p]? = some (.cells #[u] T (0, 0))) : (w.setCell ⟨p, 0, none⟩ v).heap[p]? = some (.cells #[v] T (0, 0)) := by
  have := heap_setCell_same w p 0 #[u] T v h
  rw [this]
  rfl
/-- The grid has other rows now. -/
theorem GAt.swap {w : World} {lo p rb c rb2 c2 r n : Nat} {H K : List Hd} (h : GAt w lo p rb c H) (g : GRow w n n (rV rb2 r c2) K) (hK : K.length = r) (hn : lo ≤ n) (hpn : p < n) (hrows : ∀ y ∈ K, n ≤ y.b) : GAt (w.setCell ⟨p, 0, none⟩ (rV rb2 r c2)) lo p rb2 c2 K := by
  subst hK
  have bs := But.set w p 0 (rV rb2 K.length c2)
  refine ⟨h.1, heap_set1 h.2.1, (g.buts (S := (· = p)) (Buts.but bs rfl) (by have := (g.1.lt rb2 rfl).1; omega) (fun y hy => by have := hrows y hy; omega)).lower hn hn⟩
set_option maxHeartbeats 4000000 in
set_option maxRecDepth 100000 in
theorem gresize_yes (w : World) (lo p rb c r cl : Nat) (H : List Hd) (b : Cel) (h : GAt w lo p rb c H) (hlo : lo ≤ w.heap.size) (h0 : 0 < H.length) (hl : H.length ≤ 600) (hc : canB (r : Nat) (cl : Nat) = true) (hR : ∀ x ∈ H, Wh x.R ∧ x.R.length ≤ 1000) :
    Calls Try.prog 34 #[gV p, .int .i64 (r : Nat), .int .i64 (cl : Nat), celV b] w fun e w' => e = .returned (.bool true) ∧ (∃ rb2 c2 K, GAt w' lo p rb2 c2 K ∧ w.heap.size ≤ rb2 ∧ K.map (·.R) = resG (H.map (·.R)) r cl b (min H.length r) ∧ Fr w.heap.size K) ∧ Buts (· = p) w w' := by
  have hcc : 1 ≤ r ∧ r ≤ 512 ∧ 1 ≤ cl ∧ cl ≤ 512 := by
    obtain ⟨n', m', e1, e2, _⟩ := canB_true hc
    omega
  obtain ⟨w0, hw0⟩ : ∃ x, x = ((w.alloc (.cells #[.int .i64 (r : Nat)] 3)).alloc (.cells #[.int .i64 (cl : Nat)] 3)).alloc (.cells #[.int .i32 b.ru, .int .i32 b.m0, .int .i32 b.m1, .int .u8 b.k, .int .u8 b.a.fg.k, .int .u8 b.a.fg.r, .int .u8 b.a.fg.g, .int .u8 b.a.fg.b, .int .u8 b.a.bg.k, .int .u8 b.a.bg.r, .int .u8 b.a.bg.g, .int .u8 b.a.bg.b, .int .u16 (b.a.fl : Nat), .int .u8 b.l] 42) := ⟨_, rfl⟩
  obtain ⟨b5, hb5⟩ : ∃ b, b = w.heap.size := ⟨_, rfl⟩
  obtain ⟨b6, hb6⟩ : ∃ b, b = w.heap.size + 1 := ⟨_, rfl⟩
  obtain ⟨b7, hb7⟩ : ∃ b, b = w.heap.size + 1 + 1 := ⟨_, rfl⟩
  have B0 : Below w.heap.size w w0 := by rw [hw0]; exact (((Below.refl _ _).alloc (Nat.le_refl _) _).alloc (by simp) _).alloc (by simp; omega) _
  have hs0 : w0.heap.size = w.heap.size + 3 := by rw [hw0]; simp
  have q5 : w0.cell? ⟨b5, 0, none⟩ = some (.int .i64 (r : Nat)) := by
    have h2 : Below (w.alloc (.cells #[.int .i64 (r : Nat)] 3)).heap.size (w.alloc (.cells #[.int .i64 (r : Nat)] 3)) w0 := by rw [hw0]; exact ((Below.refl _ _).alloc (Nat.le_refl _) _).alloc (by simp) _
    rw [hb5]
    exact (h2.cell (p := ⟨w.heap.size, 0, none⟩) (by simp)).trans (by simp)
  have q6 : w0.cell? ⟨b6, 0, none⟩ = some (.int .i64 (cl : Nat)) := by
    have h2 : Below ((w.alloc (.cells #[.int .i64 (r : Nat)] 3)).alloc (.cells #[.int .i64 (cl : Nat)] 3)).heap.size ((w.alloc (.cells #[.int .i64 (r : Nat)] 3)).alloc (.cells #[.int .i64 (cl : Nat)] 3)) w0 := by rw [hw0]; exact (Below.refl _ _).alloc (Nat.le_refl _) _
    rw [hb6]
    exact (h2.cell (p := ⟨w.heap.size + 1, 0, none⟩) (by simp)).trans (by simp)
  have HZ0 := Lib.hid (show BAt w0 b7 b by rw [hw0, hb7]; exact BAt.newAt _ _ (by simp) b _)
  have HG0 := Lib.hid (h.below B0)
  have HB0 := Lib.hid B0
  have HBB := Lib.hid (show b5 = w.heap.size ∧ b6 = w.heap.size + 1 ∧ b7 = w.heap.size + 2 ∧ w0.heap.size = w.heap.size + 3 ∧ p < w.heap.size ∧ rb < w.heap.size ∧ lo ≤ w.heap.size from ⟨hb5, hb6, by omega, hs0, h.lt.1, h.lt.2.1, hlo⟩)
  have Q5 := Lib.hid q5
  have Q6 := Lib.hid q6
  have HC := Lib.hid hc
  have HCL := Lib.hid hcc
  have HRR := Lib.hid hR
  have HYB := Lib.hid (show ∀ y ∈ H, y.b < w.heap.size from fun y hy => (h.2.2.2.lt hy).2)
  obtain ⟨n, hn⟩ : ∃ n, n = H.length := ⟨_, rfl⟩
  have HN := Lib.hid hn
  have hl' : n ≤ 1000 := by omega
  have HNZ := Lib.hid (show 0 < n by omega)
  have HNZ6 := Lib.hid (show n ≤ 600 by omega)
  have hnz : ((n : Int) == 0) = false := by simp; omega
  have HK := Lib.hid (kept_any w0 p _ (by rw [hn]; exact HG0.out.cell : w0.cell? ⟨p, 0, none⟩ = some (rV rb n c)))
  clear B0 h hlo hc hcc hR h0 hn hs0 hl
  refine (callsIn_wide (n := 0)).1 ?_
  refine callsIn_of_wp_marks Try.func34 rfl trivial ?_ rfl
  simp only [Try.ntmps34, List.size_toArray, List.length_cons, List.length_nil, Nat.reduceAdd, Nat.reduceSub, Array.replicate_succ, Array.replicate_zero, List.push_toArray, List.append_toArray, List.nil_append, List.cons_append]
  obtain ⟨_, ⟨z0, z1, z2, z3, z4, z5, z6, z7, z8, z9, z10, z11, z12, z13⟩, _⟩ := HZ0.out
  gi_wp2_with (first
    | (refine ⟨trivial, rfl, ?_⟩; gi_at_call 47; rw [← hw0, ← hb7, ← hb6, ← hb5]; clear hw0 hb7 hb6 hb5; refine (callsIn_wide.2 HK.out).mono ?_; rintro e w' ⟨rfl, rfl⟩)
    | (refine ⟨trivial, rfl, ?_⟩; gi_at_call 42; refine (callsIn_wide.2 (canBe_any w0 (r : Nat) (cl : Nat))).mono ?_; rintro e w' ⟨rfl, rfl⟩; rw [HC.out]))
  have HP1 := Lib.hid (show 0 < r by have := HCL.out; omega)
  refine ⟨trivial, rfl, ?_⟩
  refine (callsIn_wide.2 (blanks_any w0 r cl b (by have := HCL.out; omega) HCL.out.2.2.1 (by have := HCL.out; omega))).mono ?_
  rintro e w1 ⟨v1, F, rfl, own1, hF, hFr, b1⟩
  have hFl : F.length = r := by
    have := congrArg List.length hF
    rwa [List.length_map, List.length_replicate] at this
  obtain ⟨rb2, c2, e2, hrb2, hrb3⟩ := own1.here (by rw [hFl]; exact HP1.out)
  rw [hFl] at e2
  subst e2
  obtain ⟨b9, hb9⟩ : ∃ b, b = w1.heap.size := ⟨_, rfl⟩
  obtain ⟨w2, hw2⟩ : ∃ x, x = w1.alloc (.cells #[rV rb2 r c2] 27) := ⟨_, rfl⟩
  have B2 : Below w0.heap.size w0 w2 := by rw [hw2]; exact b1.alloc b1.size _
  have b12 : Below w1.heap.size w1 w2 := by rw [hw2]; exact (Below.refl _ _).alloc (Nat.le_refl _) _
  have hs2 : w2.heap.size = w1.heap.size + 1 := by rw [hw2]; simp
  have q9 : w2.cell? ⟨b9, 0, none⟩ = some (rV rb2 r c2) := by rw [hw2, hb9]; simp
  have HB2 := Lib.hid (HB0.out.trans (B2.mono HB0.out.size))
  have HNE := Lib.hid (show b6 < w2.heap.size ∧ b7 < w2.heap.size ∧ b5 < w2.heap.size ∧ b9 < w2.heap.size ∧ b5 ≠ rb2 ∧ b6 ≠ rb2 ∧ b7 ≠ rb2 ∧ b9 ≠ rb2 ∧ rb2 < w2.heap.size ∧ w.heap.size ≤ rb2 ∧ w.heap.size ≤ w2.heap.size ∧ p ≠ rb2 ∧ rb ≠ rb2 by have := HBB.out; have := b1.size; omega)
  have Q5' := Lib.hid (show w2.cell? ⟨b5, 0, none⟩ = some (.int .i64 (r : Nat)) from (B2.cell (p := ⟨b5, 0, none⟩) (by have := HBB.out; simp; omega)).trans Q5.out)
  have Q6' := Lib.hid (show w2.cell? ⟨b6, 0, none⟩ = some (.int .i64 (cl : Nat)) from (B2.cell (p := ⟨b6, 0, none⟩) (by have := HBB.out; simp; omega)).trans Q6.out)
  have Q9' := Lib.hid q9
  have HZ2 := Lib.hid (HZ0.out.below B2)
  have HG2 := Lib.hid (HG0.out.below B2)
  have HYR := Lib.hid (show ∀ y ∈ H, y.b ≠ rb2 from fun y hy => by have := HYB.out y hy; have := HNE.out; omega)
  have HST := Lib.hid (show ResAt w w2 lo p rb c rb2 c2 H r cl b 0 w2 from ⟨Nat.zero_le _, HG0.out.below B2, ⟨F, hFl, (own1.lower HB0.out.size HB0.out.size).below b12, by rw [hF]; unfold resG; simp, hFr.mono HB0.out.size⟩, Buts.refl _ _⟩)
  clear own1 hF hFr b1 B2 b12 hs2 q9 hFl hrb2 hrb3 q5 q6 z0 z1 z2 z3 z4 z5 z6 z7 z8 z9 z10 z11 z12 z13 hnz
  gi_wp2
  rw [← hw2, ← hb9]
  clear hw2 hb9
  have fin : ∀ (W : World) (D : Nat), w2.heap.size ≤ D → (∃ K, K.length = r ∧ GRow W w.heap.size w.heap.size (rV rb2 r c2) K ∧ K.map (·.R) = resG (H.map (·.R)) r cl b (min n r) ∧ Fr w.heap.size K) → GAt W lo p rb c H → Buts (· = rb2) w2 W → ∀ X, X = ((W.setCell ⟨p, 0, none⟩ (rV rb2 r c2)).putObj D (.deferred none)) → W.heap[D]? = some (.deferred (some [])) →
      (∃ rb2 c2 K, GAt X lo p rb2 c2 K ∧ w.heap.size ≤ rb2 ∧ K.map (·.R) = resG (H.map (·.R)) r cl b (min H.length r) ∧ Fr w.heap.size K) ∧ Buts (· = p) w X := by
    rintro W D hD ⟨K, k1, k2, k3, k4⟩ hg hb X rfl hK
    have g3 := hg.swap k2 k1 HBB.out.2.2.2.2.2.2 HBB.out.2.2.2.2.1 k4.1
    have hK' := (KeepsOthers.setCell W ⟨p, 0, none⟩ (rV rb2 r c2)).same D _ hK rfl
    have tg := grownBy_putObj' (W.setCell ⟨p, 0, none⟩ (rV rb2 r c2)) D (.deferred none)
    have tr : ∀ r', some D = some r' → D ≤ r' ∧ ∃ o : Obj, (W.setCell ⟨p, 0, none⟩ (rV rb2 r c2)).heap[r']? = some o ∧ o.isCells = false := fun r' e => by cases e; exact ⟨Nat.le_refl _, _, hK', rfl⟩
    refine ⟨⟨rb2, c2, K, g3.turn tg (fun r' e => (tr r' e).2), HNE.out.2.2.2.2.2.2.2.2.2.1, by rw [← HN.out]; exact k3, k4⟩, ?_⟩
    have bw : Buts (· = p) w W := by
      refine ⟨hb.os.trans HB2.out.os, hb.tape.trans HB2.out.tape, hb.output.trans HB2.out.output, Nat.le_trans HB2.out.size hb.size, fun j hj _ => ?_⟩
      rw [hb.block j (Nat.lt_of_lt_of_le hj HB2.out.size) (by have := HNE.out; omega), HB2.out.block j hj]
    exact (bw.trans (Buts.but (But.set W p 0 _) rfl)).turn tg (Nat.le_trans HB2.out.size hD) (fun r' e => ⟨by cases e; exact Nat.le_refl _, (tr r' e).2⟩)
  have HFIN := Lib.hid fin
  clear fin
  refine wp_range (gf := 49) (pre := #[gV p]) (post := #[]) rfl (enters_of Try.func49 (by kernel_rfl) rfl) (each_iter p rb c n H hl') (fun _ => rfl)
    (fun k W => k ≤ n ∧ ResAt w w2 lo p rb c rb2 c2 H r cl b k W) (fun cc W => cc = .exit 0 ∧ r ≤ n ∧ ResAt w w2 lo p rb c rb2 c2 H r cl b r W) ?hI ?hIx ?hH ?h0
    (fun k => { tmps := #[gV p, .int .i64 (r : Nat), .int .i64 (cl : Nat), celV b, undef, .pointer (some ⟨b5, 0, none⟩), .pointer (some ⟨b6, 0, none⟩), .pointer (some ⟨b7, 0, none⟩), .bool false, .pointer (some ⟨b9, 0, none⟩), .int .i64 (k : Nat), hdV (hdAt H k), gV p, rV rb n c, .int .i64 (n : Nat), .bool false, .bool false, .int .i64 (r : Nat), .int .i64 (cl : Nat), .bool true, .bool false, .bool false, .int .i64 (r : Nat), .int .i64 (cl : Nat), celV b, rV rb2 r c2, gV p, .func (.func 49) #[gV p] #[], .int .i64 (k : Nat), hdV (hdAt H k), undef, undef, undef, undef, undef, undef, undef, undef, undef, undef, undef, undef, undef, undef], defers := [] }) ?assign ?body ?done ?stop
  case hI => exact fun k W W' row hs hg hr => ⟨hs.1, hs.2.turn hg (Nat.le_refl _) hr⟩
  case hIx => exact fun k W W' row hs hg hr => ⟨hs.1, hs.2.1, hs.2.2.turn hg (Nat.le_refl _) hr⟩
  case hH =>
    rintro k W ⟨hk, hi⟩
    exact ⟨fun _ => by rw [HN.out]; exact hi.2.1.cell, fun hlt => hi.2.1.head (by rw [← HN.out]; exact hlt)⟩
  case h0 => exact ⟨Nat.zero_le _, HST.out⟩
  case assign =>
    intro ll k W K hK
    gi_wp2
    exact hK
  case body =>
    rintro ll k W1 hk ⟨hk', hi⟩
    have hkH : k < H.length := by rw [← HN.out]; exact hk
    have bt := hi.2.2.2
    have hw : w2.heap.size ≤ W1.heap.size := bt.size
    have HW := Lib.hid hw
    have x5 := Buts.cellK bt Q5'.out (by show b5 ≠ rb2; have := HNE.out; omega)
    have HHI := Lib.hid hi
    have HKN := Lib.hid hk
    obtain ⟨y, hy⟩ : ∃ y, y = hdAt H k := ⟨_, rfl⟩
    rw [← hy]
    have HY := Lib.hid hy
    have HKH := Lib.hid hkH
    by_cases hr : k = r
    · subst hr
      clear hk hk' hi hkH bt hw hy
      gi_wp2
      exact ⟨(KeepsOthers.refl _).from _, rfl, by have := HKN.out; omega, HHI.out⟩
    · have hkr : k < r := by have := hi.1; omega
      have HKR := Lib.hid hkr
      have e1 : ((k : Int) == (r : Int)) = false := by simp; omega
      have hyH : y ∈ H := by rw [hy, hdAt_eq hkH]; exact List.getElem_mem hkH
      obtain ⟨Kl, k1, k2, k3, k4⟩ := hi.2.2.1
      have HKK := Lib.hid (show ∀ j, W1.frozen? ⟨rb2, j, none⟩ = false from fun j => k2.frozen k1.symm j)
      have HCE := Lib.hid (show W1.cell? ⟨rb2, k, none⟩ = some (hdV (hdAt Kl k)) by rw [hdAt_eq (by rw [k1]; exact hkr)]; exact k2.at (by rw [k1]; exact hkr))
      have HFZ := Lib.hid HKK.out
      have LRB := Lib.hid (show rb2 < W1.heap.size by have := HNE.out; omega)
      have HROW := Lib.hid (show RowIn W1.drew (hdV y) y.R by rw [hy]; exact (hi.2.1.row hkH).row)
      have HWH := Lib.hid (HRR.out y hyH).1
      have HLEN := Lib.hid (HRR.out y hyH).2
      have HPOS := Lib.hid (show 0 < (resizeM y.R (cl : Nat) b).length by unfold resizeM; rw [len_res]; have := HCL.out; omega)
      have HSK := Lib.hid (show ∀ W5, Buts (· = rb2) W1 W5 → (fun wx => wx.cell? ⟨b9, 0, none⟩ = some (rV rb2 r c2) ∧ wx.cell? ⟨b6, 0, none⟩ = some (.int .i64 (cl : Nat)) ∧ wx.cell? ⟨b7, 0, none⟩ = some (.int .i32 b.ru) ∧ wx.cell? ⟨b7, 1, none⟩ = some (.int .i32 b.m0) ∧ wx.cell? ⟨b7, 2, none⟩ = some (.int .i32 b.m1) ∧ wx.cell? ⟨b7, 3, none⟩ = some (.int .u8 b.k) ∧ wx.cell? ⟨b7, 4, none⟩ = some (.int .u8 b.a.fg.k) ∧ wx.cell? ⟨b7, 5, none⟩ = some (.int .u8 b.a.fg.r) ∧ wx.cell? ⟨b7, 6, none⟩ = some (.int .u8 b.a.fg.g) ∧ wx.cell? ⟨b7, 7, none⟩ = some (.int .u8 b.a.fg.b) ∧ wx.cell? ⟨b7, 8, none⟩ = some (.int .u8 b.a.bg.k) ∧ wx.cell? ⟨b7, 9, none⟩ = some (.int .u8 b.a.bg.r) ∧ wx.cell? ⟨b7, 10, none⟩ = some (.int .u8 b.a.bg.g) ∧ wx.cell? ⟨b7, 11, none⟩ = some (.int .u8 b.a.bg.b) ∧ wx.cell? ⟨b7, 12, none⟩ = some (.int .u16 (b.a.fl : Nat)) ∧ wx.cell? ⟨b7, 13, none⟩ = some (.int .u8 b.l)) W5 from fun W5 k5 => by
        have kk := bt.trans k5
        obtain ⟨_, ⟨z0, z1, z2, z3, z4, z5, z6, z7, z8, z9, z10, z11, z12, z13⟩, _⟩ := HZ2.out
        have n7 : ¬ b7 = rb2 := by have := HNE.out; omega
        exact ⟨Buts.cellK kk Q9'.out (by show b9 ≠ rb2; have := HNE.out; omega), Buts.cellK kk Q6'.out (by show b6 ≠ rb2; have := HNE.out; omega), Buts.cellK kk z0 n7, Buts.cellK kk z1 n7, Buts.cellK kk z2 n7, Buts.cellK kk z3 n7, Buts.cellK kk z4 n7, Buts.cellK kk z5 n7, Buts.cellK kk z6 n7, Buts.cellK kk z7 n7, Buts.cellK kk z8 n7, Buts.cellK kk z9 n7, Buts.cellK kk z10 n7, Buts.cellK kk z11 n7, Buts.cellK kk z12 n7, Buts.cellK kk z13 n7⟩)
      clear hk hk' hi hkH bt hw hy hr hyH k1 k2 k3 k4
      gi_wp2
      refine region_round ll 0 (S := fun wx => wx.cell? ⟨b9, 0, none⟩ = some (rV rb2 r c2) ∧ wx.cell? ⟨b6, 0, none⟩ = some (.int .i64 (cl : Nat)) ∧ wx.cell? ⟨b7, 0, none⟩ = some (.int .i32 b.ru) ∧ wx.cell? ⟨b7, 1, none⟩ = some (.int .i32 b.m0) ∧ wx.cell? ⟨b7, 2, none⟩ = some (.int .i32 b.m1) ∧ wx.cell? ⟨b7, 3, none⟩ = some (.int .u8 b.k) ∧ wx.cell? ⟨b7, 4, none⟩ = some (.int .u8 b.a.fg.k) ∧ wx.cell? ⟨b7, 5, none⟩ = some (.int .u8 b.a.fg.r) ∧ wx.cell? ⟨b7, 6, none⟩ = some (.int .u8 b.a.fg.g) ∧ wx.cell? ⟨b7, 7, none⟩ = some (.int .u8 b.a.fg.b) ∧ wx.cell? ⟨b7, 8, none⟩ = some (.int .u8 b.a.bg.k) ∧ wx.cell? ⟨b7, 9, none⟩ = some (.int .u8 b.a.bg.r) ∧ wx.cell? ⟨b7, 10, none⟩ = some (.int .u8 b.a.bg.g) ∧ wx.cell? ⟨b7, 11, none⟩ = some (.int .u8 b.a.bg.b) ∧ wx.cell? ⟨b7, 12, none⟩ = some (.int .u16 (b.a.fl : Nat)) ∧ wx.cell? ⟨b7, 13, none⟩ = some (.int .u8 b.l)) (by kernel_rfl) (by kernel_rfl) (shut_block _ (roundEnd_shut _ _ _ _ _)) ?_ (fun hHeld => ?_)
      · exact HSK.out W1 (Buts.refl _ _)
      refine tk 0 rfl (fun w hSw => by (try dsimp only at hSw); go_simp; try with_reducible rfl) ?_
      go_frame
      refine tk 1 rfl (fun w hSw => by (try dsimp only at hSw); go_simp; try with_reducible rfl) ?_
      go_frame
      refine tk 2 rfl (fun w hSw => by (try dsimp only at hSw); go_simp; try with_reducible rfl) ?_
      go_frame
      refine tk 3 rfl (fun w hSw => by (try dsimp only at hSw); go_simp; try with_reducible rfl) ?_
      go_frame
      refine tk 4 rfl (fun w hSw => by (try dsimp only at hSw); go_simp; try with_reducible rfl) ?_
      go_frame
      refine do_at (i := 5) rfl (by kernel_rfl) (by kernel_rfl) (fun K hK => ?_)
      go_simp
      refine (resize_any W1.drew _ y.R (cl : Nat) b HROW.out HWH.out HLEN.out (by have := HCL.out; omega)).mono ?_
      rintro e w5 ⟨v5, rfl, own5, b5'⟩
      obtain ⟨x5, rfl, hx5, hb5, ow5⟩ := own5.hd HPOS.out
      have HOW := Lib.hid ow5
      have HX5 := Lib.hid hx5
      have HB5 := Lib.hid b5'
      have HXB := Lib.hid hb5
      clear own5 ow5 hx5 b5' hb5
      go_wp2_with fail
      refine hK.out _ _ ?_ (fun hHeld => ?_)
      · exact HSK.out w5 (Buts.of (Below.undrew HB5.out))
      clear hK K
      try go_frame
      refine tk 6 rfl (fun w hSw => by (try dsimp only at hSw); go_simp; try with_reducible rfl) ?_
      go_frame
      refine do_at (i := 7) rfl (by kernel_rfl) (by kernel_rfl) (fun K hK => ?_)
      have hfz : w5.frozen? ⟨rb2, k, none⟩ = false := (HB5.out.frozen (p := ⟨rb2, k, none⟩) LRB.out).trans (HFZ.out k)
      have hce : w5.cell? ⟨rb2, k, none⟩ = some (hdV (hdAt Kl k)) := (HB5.out.cell (p := ⟨rb2, k, none⟩) LRB.out).trans HCE.out
      go_simp
      go_wp2_with fail
      refine hK.out _ _ ?_ (fun hHeld => ?_)
      · exact HSK.out _ ((Buts.of (Below.undrew HB5.out)).trans (Buts.but (But.set w5 rb2 k _) rfl))
      clear hK K
      try go_frame
      refine wpAnyH_done (by kernel_rfl) ?_ _
      have hst := ResAt.step HHI.out HKH.out HKR.out (W' := w5) (Below.undrew HB5.out) HOW.out (by rw [HX5.out, HY.out, hdAt_eq HKH.out]) (by have := HNE.out; have := HW.out; omega) HNE.out.2.2.2.2.2.2.2.2.2.2.2.1 HNE.out.2.2.2.2.2.2.2.2.2.2.2.2 HYR.out
      exact ⟨((keeps_below (Below.undrew HB5.out)).trans (KeepsOthers.setCell _ _ _)).from _, by have := HKN.out; omega, hst⟩
  case done =>
    rintro D W hD ⟨_, hi⟩ hK
    have HF := Lib.hid (HFIN.out W D hD (by have := hi.2.2.1; rwa [Nat.min_eq_left hi.1]) hi.2.1 hi.2.2.2 _ rfl hK)
    have hK' := (KeepsOthers.setCell W ⟨p, 0, none⟩ (rV rb2 r c2)).same D _ hK rfl
    have HKD := Lib.hid hK'
    have x9 := Buts.cellK hi.2.2.2 Q9'.out (by show b9 ≠ rb2; have := HNE.out; omega)
    have xp := hi.2.1.cell
    have xf : W.frozen? ⟨p, 0, none⟩ = false := frozen_of_row W p 0 _ _ hi.2.1.2.1
    rw [← HN.out] at xp
    clear hi hK hK'
    gi_wp2
    refine ⟨by simp, .inl ⟨_, _, rfl, run_takeDeferred HKD.out, ?_⟩⟩
    exact ⟨_, results_tmp rfl _ _ _, rfl, HF.out⟩
  case stop =>
    rintro D cc W hD ⟨rfl, hrn, hi⟩ hK
    have HF := Lib.hid (HFIN.out W D hD (by have := hi.2.2.1; rwa [Nat.min_eq_right hrn]) hi.2.1 hi.2.2.2 _ rfl hK)
    have hK' := (KeepsOthers.setCell W ⟨p, 0, none⟩ (rV rb2 r c2)).same D _ hK rfl
    have HKD := Lib.hid hK'
    have x9 := Buts.cellK hi.2.2.2 Q9'.out (by show b9 ≠ rb2; have := HNE.out; omega)
    have xp := hi.2.1.cell
    have xf : W.frozen? ⟨p, 0, none⟩ = false := frozen_of_row W p 0 _ _ hi.2.1.2.1
    rw [← HN.out] at xp
    clear hi hK hK' hrn
    gi_wp2
    refine ⟨by simp, .inl ⟨_, _, rfl, run_takeDeferred HKD.out, ?_⟩⟩
    exact ⟨_, results_tmp rfl _ _ _, rfl, HF.out⟩
end Go.Proofs.Ytdeahnphcfcfpaa.Lab
