/- Grids as lists of rows: each of the project's acts, said of these. -/
import Derived.Test.YtdeahnphcfcfpaaGdEdit
import Derived.Test.YtdeahnphcfcfpaaGdDown
import Derived.Test.YtdeahnphcfcfpaaGdLevel
import Derived.Test.YtdeahnphcfcfpaaRpRes
import Derived.Test.YtdeahnphcfcfpaaGdText
namespace Go.Proofs.Ytdeahnphcfcfpaa.Lab
open Go Go.RowKit Go.Shelf
attribute [local go_sem] Oper.semAt_some

/-- A grid of these rows. -/
def Gg (w : World) (lo p rb c : Nat) (G : List Cls) : Prop := ∃ H, GAt w lo p rb c H ∧ H.map (·.R) = G
/-- Rows of these cells. -/
def Rl (w : World) (lo : Nat) (v : Value) (G : List Cls) : Prop := ∃ H, GRow w lo lo v H ∧ H.map (·.R) = G
structure Good (G : List Cls) (m : Nat) : Prop where
  row : ∀ R ∈ G, Wh R ∧ R.length = m ∧ Lv R
  n0 : 0 < G.length
  n1 : G.length ≤ 520
  m0 : 0 < m
  m1 : m ≤ 520
theorem Gg.below {w w' : World} {lo p rb c : Nat} {G : List Cls} (h : Gg w lo p rb c G) (k : Below w.heap.size w w') : Gg w' lo p rb c G := by
  obtain ⟨H, h1, h2⟩ := h
  exact ⟨H, h1.below k, h2⟩
theorem Gg.lower {w : World} {lo lo' p rb c : Nat} {G : List Cls} (h : Gg w lo p rb c G) (k : lo' ≤ lo) : Gg w lo' p rb c G := by
  obtain ⟨H, h1, h2⟩ := h
  exact ⟨H, ⟨Nat.le_trans k h1.1, h1.2.1, h1.2.2.lower k k⟩, h2⟩
theorem Gg.lt {w : World} {lo p rb c : Nat} {G : List Cls} (h : Gg w lo p rb c G) : p < w.heap.size ∧ rb < w.heap.size ∧ lo ≤ rb ∧ lo ≤ p := by
  obtain ⟨H, h1, _⟩ := h
  exact ⟨h1.lt.1, h1.lt.2.1, h1.lt.2.2, h1.1⟩
theorem Gg.drew {w : World} {lo p rb c : Nat} {G : List Cls} (h : Gg w lo p rb c G) : Gg w.drew lo p rb c G := h
theorem Rl.below {w w' : World} {lo : Nat} {v : Value} {G : List Cls} (h : Rl w lo v G) (k : Below w.heap.size w w') : Rl w' lo v G := by
  obtain ⟨H, h1, h2⟩ := h
  exact ⟨H, h1.below k, h2⟩
theorem Rl.lower {w : World} {lo lo' : Nat} {v : Value} {G : List Cls} (h : Rl w lo v G) (k : lo' ≤ lo) : Rl w lo' v G := by
  obtain ⟨H, h1, h2⟩ := h
  exact ⟨H, h1.lower k k, h2⟩
theorem Rl.nil (w : World) (lo : Nat) : Rl w lo (.slice none 0 0) [] := ⟨[], GRow.nil _ _ _, rfl⟩
theorem Rl.shape {w : World} {lo : Nat} {v : Value} {G : List Cls} (h : Rl w lo v G) : ∃ a c, v = .slice a G.length c := by
  obtain ⟨H, h1, h2⟩ := h
  have : G.length = H.length := by rw [← h2, List.length_map]
  rw [this]
  exact h1.shape
/-- Another grid's own blocks turn. -/
theorem Gg.other {w w' : World} {lo p rb c q sb d : Nat} {G K : List Cls} (h : Gg w lo p rb c G) (g : Gg w lo q sb d K) (k : Buts (fun j => j = q ∨ j = sb) w w') (hp : p ≠ q) (hr : rb ≠ sb) : Gg w' lo p rb c G := by
  obtain ⟨H, h1, h2⟩ := h
  obtain ⟨L, g1, g2⟩ := g
  have t1 := h1.2.1
  obtain ⟨cu, t2⟩ := h1.2.2.type
  have t3 := g1.2.1
  obtain ⟨cv, t4⟩ := g1.2.2.type
  refine ⟨H, h1.buts k (fun e => ?_) (fun e => ?_) (fun x hx e => ?_), h2⟩
  · rcases e with e | e
    · exact hp e
    · rw [e, t4] at t1
      injection t1 with t1
      injection t1 with _ t1
      exact absurd t1 (by decide)
  · rcases e with e | e
    · rw [e, t3] at t2
      injection t2 with t2
      injection t2 with _ t2
      exact absurd t2 (by decide)
    · exact hr e
  · obtain ⟨cx, t5⟩ := (h1.2.2.2 x hx).type
    rcases e with e | e
    · rw [e, t3] at t5
      injection t5 with t5
      injection t5 with _ t5
      exact absurd t5 (by decide)
    · rw [e, t4] at t5
      injection t5 with t5
      injection t5 with _ t5
      exact absurd t5 (by decide)
/-- Rows of rows that are no grid's own stay when a grid's blocks turn. -/
theorem Rl.other {w w' : World} {lo q sb d : Nat} {v : Value} {G K : List Cls} (h : Rl w lo v G) (g : Gg w lo q sb d K) (k : Buts (fun j => j = q ∨ j = sb) w w') (hv : v.ownBlock ≠ some sb) : Rl w' lo v G := by
  obtain ⟨H, h1, h2⟩ := h
  obtain ⟨L, g1, g2⟩ := g
  have t3 := g1.2.1
  obtain ⟨cv, t4⟩ := g1.2.2.type
  rcases h1.1.2 with ⟨rfl, h0⟩ | ⟨a, cap, cu, e, _, t2, _⟩
  · obtain rfl : H = [] := List.length_eq_zero_iff.1 h0
    exact ⟨[], GRow.nil _ _ _, h2⟩
  · subst e
    refine ⟨H, h1.buts k (fun e => ?_) (fun x hx e => ?_), h2⟩
    · rcases e with e | e
      · rw [e, t3] at t2
        injection t2 with t2
        injection t2 with _ t2
        exact absurd t2 (by decide)
      · exact hv (by rw [← e]; rfl)
    · obtain ⟨cx, t5⟩ := (h1.2 x hx).type
      rcases e with e | e
      · rw [e, t3] at t5
        injection t5 with t5
        injection t5 with _ t5
        exact absurd t5 (by decide)
      · rw [e, t4] at t5
        injection t5 with t5
        injection t5 with _ t5
        exact absurd t5 (by decide)
theorem Buts.two {w w' : World} {p rb : Nat} (h : Buts (· = rb) w w') : Buts (fun j => j = p ∨ j = rb) w w' := h.mono fun _ e => .inr e
theorem Buts.twoP {w w' : World} {p rb : Nat} (h : Buts (· = p) w w') : Buts (fun j => j = p ∨ j = rb) w w' := h.mono fun _ e => .inl e
/-! ### the model -/
def rowG (G : List Cls) (i : Nat) : Cls := G.getD i []
theorem rowG_hd {H : List Hd} {i : Nat} : (hdAt H i).R = rowG (H.map (·.R)) i := by
  unfold hdAt rowG
  rw [List.getD_eq_getElem?_getD, List.getD_eq_getElem?_getD, List.getElem?_map]
  cases H[i]? <;> rfl
theorem rowG_mem {G : List Cls} {i : Nat} (h : i < G.length) : rowG G i ∈ G := by
  unfold rowG
  rw [List.getD_eq_getElem?_getD, List.getElem?_eq_getElem h]
  exact List.getElem_mem h
/-- What is done to the row of a place. -/
def editG (G : List Cls) (m : Nat) (r c : Int) (f : Cls → Cls) : List Cls := if (isInB r G.length && isInB c m) = true then G.set r.toNat (f (rowG G r.toNat)) else G
def eraseG (G : List Cls) (r : Int) (f : Cls → Cls) : List Cls := if isInB r G.length = true then G.set r.toNat (f (rowG G r.toNat)) else G
theorem Gg.of_set {w : World} {lo p rb c k : Nat} {H : List Hd} {G : List Cls} {x : Hd} {R' : Cls} (h : GAt w lo p rb c (H.set k x)) (hG : H.map (·.R) = G) (hx : x.R = R') : Gg w lo p rb c (G.set k R') := ⟨_, h, by rw [List.map_set, hG, hx]⟩
theorem Good.len {G : List Cls} {m : Nat} (h : Good G m) {i : Nat} (hi : i < G.length) : Wh (rowG G i) ∧ (rowG G i).length = m ∧ Lv (rowG G i) := h.row _ (rowG_mem hi)
theorem SizeIs.gg {w : World} {lo p rb c m : Nat} {G : List Cls} (h : Gg w lo p rb c G) (g : Good G m) : SizeIs w (gV p) G.length m := by
  obtain ⟨H, h1, rfl⟩ := h
  have := SizeIs.of h1 (by have := g.n0; rwa [List.length_map] at this)
  rw [rowG_hd, (g.len g.n0).2.1] at this
  rwa [List.length_map]
theorem gsize (w : World) (lo p rb c m : Nat) (G : List Cls) (h : Gg w lo p rb c G) (g : Good G m) : Calls Try.prog 22 #[gV p] w fun e w' => e = .returned (.tuple #[.int .i64 (G.length : Nat), .int .i64 (m : Nat)]) ∧ Below w.heap.size w w' := SizeIs.gg h g w (Below.refl _ _)
theorem gput (w : World) (lo p rb c m : Nat) (G : List Cls) (r cl : Int) (x : Cel) (wide : Bool) (h : Gg w lo p rb c G) (g : Good G m) (hlo : lo ≤ w.heap.size) :
    Calls Try.prog 32 #[gV p, .agg #[.int .i64 r, .int .i64 cl], celV x, .bool wide] w fun e w' => e = .returned (.tuple #[]) ∧ Gg w' lo p rb c (editG G m r cl (fun R => putP R cl x wide)) ∧ Buts (· = rb) w w' := by
  cases hb : isInB r G.length && isInB cl m with
  | false =>
    refine (gput_no w (gV p) G.length m r cl x wide (SizeIs.gg h g) hb).mono ?_
    rintro e w' ⟨rfl, b⟩
    refine ⟨rfl, ?_, Buts.of b⟩
    unfold editG
    rw [hb, if_neg (by decide)]
    exact h.below b
  | true =>
    have hb' := hb
    rw [Bool.and_eq_true] at hb
    obtain ⟨i, rfl, hi⟩ := isInB_true hb.1
    obtain ⟨j, rfl, hj⟩ := isInB_true hb.2
    obtain ⟨H, h1, h2⟩ := h
    have hl : H.length = G.length := by rw [← h2, List.length_map]
    have e0 : (hdAt H 0).R.length = m := by rw [rowG_hd, h2]; exact (g.len g.n0).2.1
    have ei : (hdAt H i).R = rowG G i := by rw [rowG_hd, h2]
    refine (gput_yes w lo p rb c i j H x wide h1 hlo (by rw [hl]; exact hi) (by rw [e0]; exact hj) (by rw [e0, ei]; exact (g.len hi).2.1) (by rw [ei]; exact (g.len hi).1) (by rw [ei, (g.len hi).2.1]; have := g.m1; omega)).mono ?_
    rintro e w' ⟨rfl, ⟨y, y1, _, y3⟩, bt⟩
    refine ⟨rfl, ?_, bt⟩
    unfold editG
    rw [if_pos hb', Int.toNat_natCast]
    exact Gg.of_set y3 h2 (by rw [y1, ei])
theorem gmark (w : World) (lo p rb c m : Nat) (G : List Cls) (r cl mk l : Int) (h : Gg w lo p rb c G) (g : Good G m) (hlo : lo ≤ w.heap.size) (h01 : l = 0 ∨ l = 1) :
    Calls Try.prog 52 #[gV p, .agg #[.int .i64 r, .int .i64 cl], .int .i32 mk, .int .u8 l] w fun e w' => e = .returned (.tuple #[]) ∧ Gg w' lo p rb c (editG G m r cl (fun R => markM R cl mk l)) ∧ Buts (· = rb) w w' := by
  cases hb : isInB r G.length && isInB cl m with
  | false =>
    refine (gmark_no w (gV p) G.length m r cl mk l (SizeIs.gg h g) hb).mono ?_
    rintro e w' ⟨rfl, b⟩
    refine ⟨rfl, ?_, Buts.of b⟩
    unfold editG
    rw [hb, if_neg (by decide)]
    exact h.below b
  | true =>
    have hb' := hb
    rw [Bool.and_eq_true] at hb
    obtain ⟨i, rfl, hi⟩ := isInB_true hb.1
    obtain ⟨j, rfl, hj⟩ := isInB_true hb.2
    obtain ⟨H, h1, h2⟩ := h
    have hl : H.length = G.length := by rw [← h2, List.length_map]
    have e0 : (hdAt H 0).R.length = m := by rw [rowG_hd, h2]; exact (g.len g.n0).2.1
    have ei : (hdAt H i).R = rowG G i := by rw [rowG_hd, h2]
    refine (gmark_yes w lo p rb c i j H mk l h1 hlo (by rw [hl]; exact hi) (by rw [e0]; exact hj) (by rw [e0, ei]; exact (g.len hi).2.1) (by rw [ei]; exact (g.len hi).1) (by rw [ei]; exact (g.len hi).2.2) h01 (by rw [ei, (g.len hi).2.1]; have := g.m1; omega)).mono ?_
    rintro e w' ⟨rfl, ⟨y, y1, _, y3⟩, bt⟩
    refine ⟨rfl, ?_, bt⟩
    unfold editG
    rw [if_pos hb', Int.toNat_natCast]
    exact Gg.of_set y3 h2 (by rw [y1, ei])
theorem ginsert (w : World) (lo p rb c m : Nat) (G : List Cls) (r cl k : Int) (x : Cel) (h : Gg w lo p rb c G) (g : Good G m) (hlo : lo ≤ w.heap.size) :
    Calls Try.prog 53 #[gV p, .agg #[.int .i64 r, .int .i64 cl], .int .i64 k, celV x] w fun e w' => e = .returned (.tuple #[]) ∧ Gg w' lo p rb c (editG G m r cl (fun R => insertM R cl k x)) ∧ Buts (· = rb) w w' := by
  cases hb : isInB r G.length && isInB cl m with
  | false =>
    refine (ginsert_no w (gV p) G.length m r cl k x (SizeIs.gg h g) hb).mono ?_
    rintro e w' ⟨rfl, b⟩
    refine ⟨rfl, ?_, Buts.of b⟩
    unfold editG
    rw [hb, if_neg (by decide)]
    exact h.below b
  | true =>
    have hb' := hb
    rw [Bool.and_eq_true] at hb
    obtain ⟨i, rfl, hi⟩ := isInB_true hb.1
    obtain ⟨j, rfl, hj⟩ := isInB_true hb.2
    obtain ⟨H, h1, h2⟩ := h
    have hl : H.length = G.length := by rw [← h2, List.length_map]
    have e0 : (hdAt H 0).R.length = m := by rw [rowG_hd, h2]; exact (g.len g.n0).2.1
    have ei : (hdAt H i).R = rowG G i := by rw [rowG_hd, h2]
    refine (ginsert_yes w lo p rb c i j H k x h1 hlo (by rw [hl]; exact hi) (by rw [e0]; exact hj) (by rw [e0, ei]; exact (g.len hi).2.1) (by rw [ei]; exact (g.len hi).1) (by rw [ei, (g.len hi).2.1]; have := g.m1; omega)).mono ?_
    rintro e w' ⟨rfl, ⟨y, y1, _, y3⟩, bt⟩
    refine ⟨rfl, ?_, bt⟩
    unfold editG
    rw [if_pos hb', Int.toNat_natCast]
    exact Gg.of_set y3 h2 (by rw [y1, ei])
theorem gdelete (w : World) (lo p rb c m : Nat) (G : List Cls) (r cl k : Int) (x : Cel) (h : Gg w lo p rb c G) (g : Good G m) (hlo : lo ≤ w.heap.size) :
    Calls Try.prog 54 #[gV p, .agg #[.int .i64 r, .int .i64 cl], .int .i64 k, celV x] w fun e w' => e = .returned (.tuple #[]) ∧ Gg w' lo p rb c (editG G m r cl (fun R => deleteM R cl k x)) ∧ Buts (· = rb) w w' := by
  cases hb : isInB r G.length && isInB cl m with
  | false =>
    refine (gdelete_no w (gV p) G.length m r cl k x (SizeIs.gg h g) hb).mono ?_
    rintro e w' ⟨rfl, b⟩
    refine ⟨rfl, ?_, Buts.of b⟩
    unfold editG
    rw [hb, if_neg (by decide)]
    exact h.below b
  | true =>
    have hb' := hb
    rw [Bool.and_eq_true] at hb
    obtain ⟨i, rfl, hi⟩ := isInB_true hb.1
    obtain ⟨j, rfl, hj⟩ := isInB_true hb.2
    obtain ⟨H, h1, h2⟩ := h
    have hl : H.length = G.length := by rw [← h2, List.length_map]
    have e0 : (hdAt H 0).R.length = m := by rw [rowG_hd, h2]; exact (g.len g.n0).2.1
    have ei : (hdAt H i).R = rowG G i := by rw [rowG_hd, h2]
    refine (gdelete_yes w lo p rb c i j H k x h1 hlo (by rw [hl]; exact hi) (by rw [e0]; exact hj) (by rw [e0, ei]; exact (g.len hi).2.1) (by rw [ei]; exact (g.len hi).1) (by rw [ei, (g.len hi).2.1]; have := g.m1; omega)).mono ?_
    rintro e w' ⟨rfl, ⟨y, y1, _, y3⟩, bt⟩
    refine ⟨rfl, ?_, bt⟩
    unfold editG
    rw [if_pos hb', Int.toNat_natCast]
    exact Gg.of_set y3 h2 (by rw [y1, ei])
theorem gerase (w : World) (lo p rb c m : Nat) (G : List Cls) (r s u : Int) (x : Cel) (h : Gg w lo p rb c G) (g : Good G m) (hlo : lo ≤ w.heap.size) :
    Calls Try.prog 36 #[gV p, .int .i64 r, .int .i64 s, .int .i64 u, celV x] w fun e w' => e = .returned (.tuple #[]) ∧ Gg w' lo p rb c (eraseG G r (fun R => erasePM R s u x)) ∧ Buts (· = rb) w w' := by
  obtain ⟨H, h1, h2⟩ := h
  have hl : H.length = G.length := by rw [← h2, List.length_map]
  cases hb : isInB r G.length with
  | false =>
    refine (gerase_no w (gV p) H.length c (some ⟨rb, 0, none⟩) r s u x (fun w' b => kept_any w' p _ (h1.below b).cell) (by rw [hl]; exact hb)).mono ?_
    rintro e w' ⟨rfl, b⟩
    refine ⟨rfl, ?_, Buts.of b⟩
    unfold eraseG
    rw [hb, if_neg (by decide)]
    exact ⟨H, h1.below b, h2⟩
  | true =>
    have hb' := hb
    obtain ⟨i, rfl, hi⟩ := isInB_true hb
    have ei : (hdAt H i).R = rowG G i := by rw [rowG_hd, h2]
    refine (gerase_yes w lo p rb c i H s u x h1 hlo (by rw [hl]; exact hi) (by rw [ei, (g.len hi).2.1]; exact g.m0) (by rw [ei]; exact (g.len hi).1) (by rw [ei, (g.len hi).2.1]; have := g.m1; omega)).mono ?_
    rintro e w' ⟨rfl, ⟨y, y1, _, y3⟩, bt⟩
    refine ⟨rfl, ?_, bt⟩
    unfold eraseG
    rw [if_pos hb', Int.toNat_natCast]
    exact Gg.of_set y3 h2 (by rw [y1, ei])
/-! ### scrolls -/
def upG (G : List Cls) (m : Nat) (t b n : Int) (x : Cel) : List Cls := if regB G.length t b = true then upM G t.toNat b.toNat (min n.toNat (b.toNat + 1 - t.toNat)) (newM m x) else G
def downG (G : List Cls) (m : Nat) (t b n : Int) (x : Cel) : List Cls := if regB G.length t b = true then downM G t.toNat b.toNat (min n.toNat (b.toNat + 1 - t.toNat)) (newM m x) else G
def wentU (G : List Cls) (t b n : Int) : List Cls := if regB G.length t b = true then wentUp G t.toNat b.toNat (min n.toNat (b.toNat + 1 - t.toNat)) else []
def wentD (G : List Cls) (t b n : Int) : List Cls := if regB G.length t b = true then wentDown G t.toNat b.toNat (min n.toNat (b.toNat + 1 - t.toNat)) else []
theorem regs {w : World} {lo p rb c : Nat} {H : List Hd} (h : GAt w lo p rb c H) (t b : Int) : (regB H.length t b = true → ∃ i j : Nat, t = (i : Int) ∧ b = (j : Int) ∧ i ≤ j ∧ j < H.length ∧ RegIs w p t b (some ⟨rb, i, none⟩) (j + 1 - i)) ∧ (regB H.length t b = false → RegIs w p t b none 0) := by
  obtain ⟨a', c', e', k1, k2, _⟩ := h.2.2.src
  injection e' with _ _ e3
  constructor
  · intro hr
    obtain ⟨i, j, rfl, rfl, hij, hj⟩ := regB_true hr
    exact ⟨i, j, rfl, rfl, hij, hj, fun w' bb => region_yes w' p rb H.length c i j (h.below bb).cell hij hj (by rw [e3]; exact k1) (by rw [e3]; exact k2)⟩
  · intro hr w' bb
    exact region_no w' p H.length c (some ⟨rb, 0, none⟩) t b (h.below bb).cell hr
theorem gup (w : World) (lo p rb c m : Nat) (G : List Cls) (t b n : Int) (x : Cel) (h : Gg w lo p rb c G) (g : Good G m) (hlo : lo ≤ w.heap.size) :
    Calls Try.prog 28 #[gV p, .int .i64 t, .int .i64 b, .int .i64 n, celV x] w fun e w' => ∃ v, e = .returned v ∧ Rl w' lo v (wentU G t b n) ∧ (∀ k, v.ownBlock = some k → w.heap.size ≤ k) ∧ Gg w' lo p rb c (upG G m t b n x) ∧ Buts (· = rb) w w' := by
  obtain ⟨H, h1, h2⟩ := h
  have hl : H.length = G.length := by rw [← h2, List.length_map]
  have hR : ∀ y ∈ H, y.R.length = m := fun y hy => (g.row y.R (by rw [← h2]; exact List.mem_map_of_mem hy)).2.1
  have n1 := g.n1
  have m1 := g.m1
  obtain ⟨r1, r2⟩ := regs h1 t b
  cases hb : regB G.length t b with
  | false =>
    refine (gup_any w lo p rb c 0 0 m none H t b n x h1 hlo (r2 (by rw [hl]; exact hb)) (fun h => absurd h (by decide)) (fun _ => rfl) (by omega) (by omega) hR g.m0 (by omega)).mono ?_
    rintro e w' ⟨v, F, rfl, hv, hF, _, _, hg, bt⟩
    obtain rfl : F = [] := List.length_eq_zero_iff.1 (by rw [hF]; omega)
    unfold wentU upG
    rw [hb, if_neg (by decide), if_neg (by decide)]
    refine ⟨v, rfl, ⟨[], (by simpa using hv.lower (Nat.le_refl _) hlo), rfl⟩, fun k hk => (hv.1.lt k hk).1, ⟨H, ?_, h2⟩, bt⟩
    unfold upH at hg
    simpa using hg
  | true =>
    obtain ⟨i, j, rfl, rfl, hij, hj, hreg⟩ := r1 (by rw [hl]; exact hb)
    refine (gup_any w lo p rb c i (j + 1 - i) m (some ⟨rb, i, none⟩) H (i : Nat) (j : Nat) n x h1 hlo hreg (fun _ => rfl) (fun h => by omega) (by omega) (by omega) hR g.m0 (by omega)).mono ?_
    rintro e w' ⟨v, F, rfl, hv, hF, hFm, _, hg, bt⟩
    unfold wentU upG
    rw [if_pos hb, if_pos hb, Int.toNat_natCast, Int.toNat_natCast]
    refine ⟨v, rfl, ⟨_, hv.lower (Nat.le_refl _) hlo, by unfold wentUp; rw [List.map_take, List.map_take, List.map_drop, h2]⟩, fun k hk => (hv.1.lt k hk).1, ⟨_, hg, ?_⟩, bt⟩
    unfold upH upM
    rw [List.map_append, List.map_append, List.map_append, List.map_take, List.map_drop, List.map_take, List.map_drop, List.map_drop, h2, hFm, show i + (j + 1 - i) = j + 1 by omega]
theorem gdown (w : World) (lo p rb c m : Nat) (G : List Cls) (t b n : Int) (x : Cel) (h : Gg w lo p rb c G) (g : Good G m) (hlo : lo ≤ w.heap.size) :
    Calls Try.prog 31 #[gV p, .int .i64 t, .int .i64 b, .int .i64 n, celV x] w fun e w' => ∃ v, e = .returned v ∧ Rl w' lo v (wentD G t b n) ∧ (∀ k, v.ownBlock = some k → w.heap.size ≤ k) ∧ Gg w' lo p rb c (downG G m t b n x) ∧ Buts (· = rb) w w' := by
  obtain ⟨H, h1, h2⟩ := h
  have hl : H.length = G.length := by rw [← h2, List.length_map]
  have hR : ∀ y ∈ H, y.R.length = m := fun y hy => (g.row y.R (by rw [← h2]; exact List.mem_map_of_mem hy)).2.1
  have n1 := g.n1
  have m1 := g.m1
  obtain ⟨r1, r2⟩ := regs h1 t b
  cases hb : regB G.length t b with
  | false =>
    refine (gdown_any w lo p rb c 0 0 m none H t b n x h1 hlo (r2 (by rw [hl]; exact hb)) (fun h => absurd h (by decide)) (fun _ => rfl) (by omega) (by omega) hR g.m0 (by omega)).mono ?_
    rintro e w' ⟨v, F, rfl, hv, hF, _, _, hg, bt⟩
    obtain rfl : F = [] := List.length_eq_zero_iff.1 (by rw [hF]; omega)
    unfold wentD downG
    rw [hb, if_neg (by decide), if_neg (by decide)]
    refine ⟨v, rfl, ⟨[], (by simpa using hv.lower (Nat.le_refl _) hlo), rfl⟩, fun k hk => (hv.1.lt k hk).1, ⟨H, ?_, h2⟩, bt⟩
    unfold downH at hg
    simpa using hg
  | true =>
    obtain ⟨i, j, rfl, rfl, hij, hj, hreg⟩ := r1 (by rw [hl]; exact hb)
    refine (gdown_any w lo p rb c i (j + 1 - i) m (some ⟨rb, i, none⟩) H (i : Nat) (j : Nat) n x h1 hlo hreg (fun _ => rfl) (fun h => by omega) (by omega) (by omega) hR g.m0 (by omega)).mono ?_
    rintro e w' ⟨v, F, rfl, hv, hF, hFm, _, hg, bt⟩
    unfold wentD downG
    rw [if_pos hb, if_pos hb, Int.toNat_natCast, Int.toNat_natCast]
    refine ⟨v, rfl, ⟨_, hv.lower (Nat.le_refl _) hlo, by unfold wentDown; rw [List.map_drop, List.map_take, List.map_drop, h2]⟩, fun k hk => (hv.1.lt k hk).1, ⟨_, hg, ?_⟩, bt⟩
    unfold downH downM
    rw [List.map_append, List.map_append, List.map_append, List.map_take, List.map_take, List.map_take, List.map_drop, List.map_drop, h2, hFm, show i + (j + 1 - i) = j + 1 by omega]
/-! ### the rest -/
theorem graise (w : World) (lo p rb c m : Nat) (G : List Cls) (l : Int) (h : Gg w lo p rb c G) (g : Good G m) (hlo : lo ≤ w.heap.size) (h01 : l = 0 ∨ l = 1) :
    Calls Try.prog 35 #[gV p, .int .u8 l] w fun e w' => e = .returned (.tuple #[]) ∧ Gg w' lo p rb c (G.map fun R => raiseM R l) ∧ Buts (· = rb) w w' := by
  obtain ⟨H, h1, h2⟩ := h
  have hl : H.length = G.length := by rw [← h2, List.length_map]
  have n1 := g.n1
  have m1 := g.m1
  refine (graise_any w lo p rb c H l h1 hlo (by omega) (fun y hy => by obtain ⟨_, k2, k3⟩ := g.row y.R (by rw [← h2]; exact List.mem_map_of_mem hy); exact ⟨by rw [k2]; exact g.m0, by omega, k3⟩) h01).mono ?_
  rintro e w' ⟨rfl, ⟨K, k1, k2, _⟩, bt⟩
  exact ⟨rfl, ⟨K, k1, by rw [k2, ← h2, List.map_map]; rfl⟩, bt⟩
theorem glevel (w : World) (lo p rb c m : Nat) (G : List Cls) (h : Gg w lo p rb c G) (g : Good G m) :
    Calls Try.prog 37 #[gV p] w fun e w' => e = .returned (.int .u8 (levG G)) ∧ Below w.heap.size w w' := by
  obtain ⟨H, h1, h2⟩ := h
  have hl : H.length = G.length := by rw [← h2, List.length_map]
  have n1 := g.n1
  have m1 := g.m1
  have := glevel_any w lo p rb c H h1 (by omega) (fun y hy => by obtain ⟨_, k2, k3⟩ := g.row y.R (by rw [← h2]; exact List.mem_map_of_mem hy); exact ⟨by omega, k3⟩)
  rwa [h2] at this
theorem gresize (w : World) (lo p rb c m r cl : Nat) (G : List Cls) (x : Cel) (h : Gg w lo p rb c G) (g : Good G m) (hlo : lo ≤ w.heap.size) (hc : canB (r : Nat) (cl : Nat) = true) :
    Calls Try.prog 34 #[gV p, .int .i64 (r : Nat), .int .i64 (cl : Nat), celV x] w fun e w' => e = .returned (.bool true) ∧ (∃ rb2 c2, Gg w' lo p rb2 c2 (resG G r cl x (min G.length r)) ∧ w.heap.size ≤ rb2) ∧ Buts (· = p) w w' := by
  obtain ⟨H, h1, h2⟩ := h
  have hl : H.length = G.length := by rw [← h2, List.length_map]
  have n1 := g.n1
  have m1 := g.m1
  have n0 := g.n0
  refine (gresize_yes w lo p rb c r cl H x h1 hlo (by omega) (by omega) hc (fun y hy => by obtain ⟨k1, k2, k3⟩ := g.row y.R (by rw [← h2]; exact List.mem_map_of_mem hy); exact ⟨k1, by omega⟩)).mono ?_
  rintro e w' ⟨rfl, ⟨rb2, c2, K, k1, k2, k3, _⟩, bt⟩
  exact ⟨rfl, ⟨rb2, c2, ⟨K, k1, by rw [k3, h2, hl]⟩, k2⟩, bt⟩
set_option maxHeartbeats 4000000 in
theorem gresize_no (w : World) (pv : Value) (n cc : Nat) (a : Option Addr) (r cl : Int) (x : Cel) (hk : ∀ w', Below w.heap.size w w' → Calls Try.prog 47 #[pv] w' fun e w'' => e = .returned (.slice a n cc) ∧ w' = w'') (hno : n = 0 ∨ canB r cl = false) :
    Calls Try.prog 34 #[pv, .int .i64 r, .int .i64 cl, celV x] w fun e w' => e = .returned (.bool false) ∧ Below w.heap.size w w' := by
  obtain ⟨w0, hw0⟩ : ∃ W0, W0 = ((w.alloc (.cells #[.int .i64 r] 3)).alloc (.cells #[.int .i64 cl] 3)).alloc (.cells #[.int .i32 x.ru, .int .i32 x.m0, .int .i32 x.m1, .int .u8 x.k, .int .u8 x.a.fg.k, .int .u8 x.a.fg.r, .int .u8 x.a.fg.g, .int .u8 x.a.fg.b, .int .u8 x.a.bg.k, .int .u8 x.a.bg.r, .int .u8 x.a.bg.g, .int .u8 x.a.bg.b, .int .u16 (x.a.fl : Nat), .int .u8 x.l] 42) := ⟨_, rfl⟩
  obtain ⟨b5, hb5⟩ : ∃ b, b = w.heap.size := ⟨_, rfl⟩
  obtain ⟨b6, hb6⟩ : ∃ b, b = w.heap.size + 1 := ⟨_, rfl⟩
  obtain ⟨b7, hb7⟩ : ∃ b, b = w.heap.size + 1 + 1 := ⟨_, rfl⟩
  have B0 : Below w.heap.size w w0 := by rw [hw0]; exact (((Below.refl _ _).alloc (Nat.le_refl _) _).alloc (by simp) _).alloc (by simp; omega) _
  have h5 : Lie w0 b5 [.int .i64 r] := by rw [hw0]; exact ((Lie.new w _ _ b5 hb5).below ((Below.refl _ _).alloc (Nat.le_refl _) _)).below ((Below.refl _ _).alloc (Nat.le_refl _) _)
  have h6 : Lie w0 b6 [.int .i64 cl] := by rw [hw0]; exact (Lie.new _ _ _ b6 (by rw [hb6]; simp)).below ((Below.refl _ _).alloc (Nat.le_refl _) _)
  have q5 := h5.at 0 rfl
  have q6 := h6.at 0 rfl
  have HB0 := Lib.hid B0
  have HK := Lib.hid (hk w0 B0)
  have HNO := Lib.hid hno
  clear B0 h5 h6 hk hno
  refine (callsIn_wide (n := 0)).1 ?_
  refine callsIn_of_wp_marks Try.func34 rfl trivial ?_ rfl
  simp only [Try.ntmps34, List.size_toArray, List.length_cons, List.length_nil, Nat.reduceAdd, Nat.reduceSub, Array.replicate_succ, Array.replicate_zero, List.push_toArray, List.append_toArray, List.nil_append, List.cons_append]
  by_cases h0 : n = 0
  · subst h0
    gi_wp2_with (refine ⟨trivial, rfl, ?_⟩; gi_at_call 47; rw [← hw0, ← hb7, ← hb6, ← hb5]; clear hw0 hb7 hb6 hb5; refine (callsIn_wide.2 HK.out).mono ?_; rintro e w' ⟨rfl, rfl⟩)
    refine ⟨trivial, ?_⟩
    go_at_K
    gi_wp2
    exact ⟨_, results_tmp rfl _ _ _, rfl, HB0.out⟩
  · have hnz : ((n : Int) == 0) = false := by simp; omega
    have HC := Lib.hid (show canB r cl = false by rcases HNO.out with h | h; exact absurd h h0; exact h)
    gi_wp2_with (first
      | (refine ⟨trivial, rfl, ?_⟩; gi_at_call 47; rw [← hw0, ← hb7, ← hb6, ← hb5]; clear hw0 hb7 hb6 hb5; refine (callsIn_wide.2 HK.out).mono ?_; rintro e w' ⟨rfl, rfl⟩)
      | (refine ⟨trivial, rfl, ?_⟩; gi_at_call 42; refine (callsIn_wide.2 (canBe_any w0 r cl)).mono ?_; rintro e w' ⟨rfl, rfl⟩; rw [HC.out]))
    exact ⟨_, results_tmp rfl _ _ _, rfl, HB0.out⟩
end Go.Proofs.Ytdeahnphcfcfpaa.Lab
