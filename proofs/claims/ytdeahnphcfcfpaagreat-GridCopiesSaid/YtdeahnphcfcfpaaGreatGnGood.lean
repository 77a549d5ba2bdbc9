/- Grids whose rows lie apart from each other: each of the project's acts, said of these. -/
import Derived.Test.YtdeahnphcfcfpaaGreatGgGood
namespace Go.Proofs.YtdeahnphcfcfpaaGreat.Lab
open Go Go.RowKit Go.Shelf

abbrev bs (H : List Hd) : List Nat := H.map (·.b)
/-- A grid of these rows; no two of them lie in one block, and each block is one of X. -/
def Gn (w : World) (lo p rb c : Nat) (G : List Cls) (X : Nat → Prop) : Prop := ∃ H, GAt w lo p rb c H ∧ H.map (·.R) = G ∧ (bs H).Nodup ∧ ∀ x ∈ H, X x.b
/-- Rows that went, and the grid that they went from: they lie apart. -/
def GWn (w : World) (lo : Nat) (v : Value) (A : List Cls) (p rb c : Nat) (G : List Cls) (X : Nat → Prop) : Prop :=
  ∃ K H, GRow w lo lo v K ∧ K.map (·.R) = A ∧ GAt w lo p rb c H ∧ H.map (·.R) = G ∧ (bs H).Nodup ∧ (∀ x ∈ H, X x.b) ∧ (bs K).Nodup ∧ ∀ x ∈ K, X x.b ∧ x.b ∉ bs H
theorem Gn.gg {w : World} {lo p rb c : Nat} {G : List Cls} {X : Nat → Prop} (h : Gn w lo p rb c G X) : Gg w lo p rb c G := by
  obtain ⟨H, h1, h2, _⟩ := h
  exact ⟨H, h1, h2⟩
theorem Gn.below {w w' : World} {lo p rb c : Nat} {G : List Cls} {X : Nat → Prop} (h : Gn w lo p rb c G X) (k : Below w.heap.size w w') : Gn w' lo p rb c G X := by
  obtain ⟨H, h1, h2⟩ := h
  exact ⟨H, h1.below k, h2⟩
theorem Gn.lower {w : World} {lo lo' p rb c : Nat} {G : List Cls} {X : Nat → Prop} (h : Gn w lo p rb c G X) (k : lo' ≤ lo) : Gn w lo' p rb c G X := by
  obtain ⟨H, h1, h2⟩ := h
  exact ⟨H, ⟨Nat.le_trans k h1.1, h1.2.1, h1.2.2.lower k k⟩, h2⟩
theorem Gn.lt {w : World} {lo p rb c : Nat} {G : List Cls} {X : Nat → Prop} (h : Gn w lo p rb c G X) : p < w.heap.size ∧ rb < w.heap.size ∧ lo ≤ rb ∧ lo ≤ p := h.gg.lt
/-- Other blocks are what its rows may lie in, if they lie in some of these. -/
theorem Gn.now {w : World} {lo p rb c : Nat} {G : List Cls} {X Y : Nat → Prop} (h : Gn w lo p rb c G X) (k : ∀ j, j < w.heap.size → X j → Y j) : Gn w lo p rb c G Y := by
  obtain ⟨H, h1, h2, h3, h4⟩ := h
  exact ⟨H, h1, h2, h3, fun x hx => k _ (h1.2.2.2.lt hx).2 (h4 x hx)⟩
theorem GWn.gn {w : World} {lo : Nat} {v : Value} {A : List Cls} {p rb c : Nat} {G : List Cls} {X : Nat → Prop} (h : GWn w lo v A p rb c G X) : Gn w lo p rb c G X := by
  obtain ⟨K, H, _, _, h1, h2, h3, h4, _⟩ := h
  exact ⟨H, h1, h2, h3, h4⟩
theorem GWn.nil {w : World} {lo p rb c : Nat} {G : List Cls} {X : Nat → Prop} (h : Gn w lo p rb c G X) : GWn w lo (.slice none 0 0) [] p rb c G X := by
  obtain ⟨H, h1, h2, h3, h4⟩ := h
  exact ⟨[], H, GRow.nil _ _ _, rfl, h1, h2, h3, h4, List.nodup_nil, fun x hx => by cases hx⟩
theorem nodup_set {H : List Hd} {k : Nat} {x : Hd} (hn : (bs H).Nodup) (hx : x.b ∉ bs H) : (bs (H.set k x)).Nodup := by
  unfold bs
  rw [List.map_set]
  by_cases hk : k < (H.map (·.b)).length
  · rw [List.set_eq_take_append_cons_drop, if_pos hk]
    have e : H.map (·.b) = (H.map (·.b)).take k ++ ((H.map (·.b))[k] :: (H.map (·.b)).drop (k + 1)) := by
      rw [List.getElem_cons_drop, List.take_append_drop]
    replace hn : (H.map (·.b)).Nodup := hn
    rw [e] at hn
    rw [List.nodup_append] at hn ⊢
    obtain ⟨n1, n2, n3⟩ := hn
    rw [List.nodup_cons] at n2 ⊢
    refine ⟨n1, ⟨fun h => hx (List.mem_of_mem_drop h), n2.2⟩, fun a ha b hb => ?_⟩
    rcases List.mem_cons.1 hb with rfl | hb
    · exact fun e => hx (e ▸ List.mem_of_mem_take ha)
    · exact n3 a ha b (List.mem_cons_of_mem _ hb)
  · rw [List.set_eq_of_length_le (by omega)]
    exact hn
theorem Gn.of_set {w : World} {lo p rb c k s : Nat} {H : List Hd} {G : List Cls} {x : Hd} {R' : Cls} {X : Nat → Prop} (h : GAt w lo p rb c (H.set k x)) (hG : H.map (·.R) = G) (hx : x.R = R')
    (hn : (bs H).Nodup) (hX : ∀ y ∈ H, X y.b) (hlt : ∀ {y}, y ∈ H → y.b < s) (hb : s ≤ x.b) (hXs : ∀ j, s ≤ j → X j) : Gn w lo p rb c (G.set k R') X := by
  refine ⟨_, h, by rw [List.map_set, hG, hx], nodup_set hn (fun hm => ?_), fun y hy => ?_⟩
  · obtain ⟨y, hy, e⟩ := List.mem_map.1 hm
    have := hlt hy
    omega
  · rcases List.mem_or_eq_of_mem_set hy with q | q
    · exact hX y q
    · rw [q]; exact hXs _ hb
theorem nput (X : Nat → Prop) (w : World) (lo p rb c m : Nat) (G : List Cls) (r cl : Int) (x : Cel) (wide : Bool) (h : Gn w lo p rb c G X) (g : Good G m) (hlo : lo ≤ w.heap.size) (hX : ∀ j, w.heap.size ≤ j → X j) :
    Calls Tryz.prog 33 #[gV p, .agg #[.int .i64 r, .int .i64 cl], celV x, .bool wide] w fun e w' => e = .returned (.tuple #[]) ∧ Gn w' lo p rb c (editG G m r cl (fun R => putP R cl x wide)) X ∧ Buts (· = rb) w w' := by
  cases hb : isInB r G.length && isInB cl m with
  | false =>
    refine (gput_no w (gV p) G.length m r cl x wide (SizeIs.gg h.gg g) hb).mono ?_
    rintro e w' ⟨rfl, b⟩
    refine ⟨rfl, ?_, Buts.of b⟩
    unfold editG
    rw [hb, if_neg (by decide)]
    exact h.below b
  | true =>
    have hb' := hb
    rw [Bool.and_eq_true] at hb
    obtain ⟨i, rfl, hi⟩ := isInB_true hb.1
    obtain ⟨j, rfl, hj⟩ := isInB_true hb.2
    obtain ⟨H, h1, h2, hn, hx⟩ := h
    have hl : H.length = G.length := by rw [← h2, List.length_map]
    have e0 : (hdAt H 0).R.length = m := by rw [rowG_hd, h2]; exact (g.len g.n0).2.1
    have ei : (hdAt H i).R = rowG G i := by rw [rowG_hd, h2]
    refine (gput_yes w lo p rb c i j H x wide h1 hlo (by rw [hl]; exact hi) (by rw [e0]; exact hj) (by rw [e0, ei]; exact (g.len hi).2.1) (by rw [ei]; exact (g.len hi).1) (by rw [ei, (g.len hi).2.1]; have := g.m1; omega)).mono ?_
    rintro e w' ⟨rfl, ⟨y, y1, yb, y3⟩, bt⟩
    refine ⟨rfl, ?_, bt⟩
    unfold editG
    rw [if_pos hb', Int.toNat_natCast]
    exact Gn.of_set y3 h2 (by rw [y1, ei]) hn hx (fun hz => (h1.2.2.2.lt hz).2) yb hX
theorem nmark (X : Nat → Prop) (w : World) (lo p rb c m : Nat) (G : List Cls) (r cl mk l : Int) (h : Gn w lo p rb c G X) (g : Good G m) (hlo : lo ≤ w.heap.size) (hX : ∀ j, w.heap.size ≤ j → X j) (h01 : l = 0 ∨ l = 1) :
    Calls Tryz.prog 34 #[gV p, .agg #[.int .i64 r, .int .i64 cl], .int .i32 mk, .int .u8 l] w fun e w' => e = .returned (.tuple #[]) ∧ Gn w' lo p rb c (editG G m r cl (fun R => markM R cl mk l)) X ∧ Buts (· = rb) w w' := by
  cases hb : isInB r G.length && isInB cl m with
  | false =>
    refine (gmark_no w (gV p) G.length m r cl mk l (SizeIs.gg h.gg g) hb).mono ?_
    rintro e w' ⟨rfl, b⟩
    refine ⟨rfl, ?_, Buts.of b⟩
    unfold editG
    rw [hb, if_neg (by decide)]
    exact h.below b
  | true =>
    have hb' := hb
    rw [Bool.and_eq_true] at hb
    obtain ⟨i, rfl, hi⟩ := isInB_true hb.1
    obtain ⟨j, rfl, hj⟩ := isInB_true hb.2
    obtain ⟨H, h1, h2, hn, hx⟩ := h
    have hl : H.length = G.length := by rw [← h2, List.length_map]
    have e0 : (hdAt H 0).R.length = m := by rw [rowG_hd, h2]; exact (g.len g.n0).2.1
    have ei : (hdAt H i).R = rowG G i := by rw [rowG_hd, h2]
    refine (gmark_yes w lo p rb c i j H mk l h1 hlo (by rw [hl]; exact hi) (by rw [e0]; exact hj) (by rw [e0, ei]; exact (g.len hi).2.1) (by rw [ei]; exact (g.len hi).1) (by rw [ei]; exact (g.len hi).2.2) h01 (by rw [ei, (g.len hi).2.1]; have := g.m1; omega)).mono ?_
    rintro e w' ⟨rfl, ⟨y, y1, yb, y3⟩, bt⟩
    refine ⟨rfl, ?_, bt⟩
    unfold editG
    rw [if_pos hb', Int.toNat_natCast]
    exact Gn.of_set y3 h2 (by rw [y1, ei]) hn hx (fun hz => (h1.2.2.2.lt hz).2) yb hX
theorem ninsert (X : Nat → Prop) (w : World) (lo p rb c m : Nat) (G : List Cls) (r cl k : Int) (x : Cel) (h : Gn w lo p rb c G X) (g : Good G m) (hlo : lo ≤ w.heap.size) (hX : ∀ j, w.heap.size ≤ j → X j) :
    Calls Tryz.prog 35 #[gV p, .agg #[.int .i64 r, .int .i64 cl], .int .i64 k, celV x] w fun e w' => e = .returned (.tuple #[]) ∧ Gn w' lo p rb c (editG G m r cl (fun R => insertM R cl k x)) X ∧ Buts (· = rb) w w' := by
  cases hb : isInB r G.length && isInB cl m with
  | false =>
    refine (ginsert_no w (gV p) G.length m r cl k x (SizeIs.gg h.gg g) hb).mono ?_
    rintro e w' ⟨rfl, b⟩
    refine ⟨rfl, ?_, Buts.of b⟩
    unfold editG
    rw [hb, if_neg (by decide)]
    exact h.below b
  | true =>
    have hb' := hb
    rw [Bool.and_eq_true] at hb
    obtain ⟨i, rfl, hi⟩ := isInB_true hb.1
    obtain ⟨j, rfl, hj⟩ := isInB_true hb.2
    obtain ⟨H, h1, h2, hn, hx⟩ := h
    have hl : H.length = G.length := by rw [← h2, List.length_map]
    have e0 : (hdAt H 0).R.length = m := by rw [rowG_hd, h2]; exact (g.len g.n0).2.1
    have ei : (hdAt H i).R = rowG G i := by rw [rowG_hd, h2]
    refine (ginsert_yes w lo p rb c i j H k x h1 hlo (by rw [hl]; exact hi) (by rw [e0]; exact hj) (by rw [e0, ei]; exact (g.len hi).2.1) (by rw [ei]; exact (g.len hi).1) (by rw [ei, (g.len hi).2.1]; have := g.m1; omega)).mono ?_
    rintro e w' ⟨rfl, ⟨y, y1, yb, y3⟩, bt⟩
    refine ⟨rfl, ?_, bt⟩
    unfold editG
    rw [if_pos hb', Int.toNat_natCast]
    exact Gn.of_set y3 h2 (by rw [y1, ei]) hn hx (fun hz => (h1.2.2.2.lt hz).2) yb hX
theorem ndelete (X : Nat → Prop) (w : World) (lo p rb c m : Nat) (G : List Cls) (r cl k : Int) (x : Cel) (h : Gn w lo p rb c G X) (g : Good G m) (hlo : lo ≤ w.heap.size) (hX : ∀ j, w.heap.size ≤ j → X j) :
    Calls Tryz.prog 36 #[gV p, .agg #[.int .i64 r, .int .i64 cl], .int .i64 k, celV x] w fun e w' => e = .returned (.tuple #[]) ∧ Gn w' lo p rb c (editG G m r cl (fun R => deleteM R cl k x)) X ∧ Buts (· = rb) w w' := by
  cases hb : isInB r G.length && isInB cl m with
  | false =>
    refine (gdelete_no w (gV p) G.length m r cl k x (SizeIs.gg h.gg g) hb).mono ?_
    rintro e w' ⟨rfl, b⟩
    refine ⟨rfl, ?_, Buts.of b⟩
    unfold editG
    rw [hb, if_neg (by decide)]
    exact h.below b
  | true =>
    have hb' := hb
    rw [Bool.and_eq_true] at hb
    obtain ⟨i, rfl, hi⟩ := isInB_true hb.1
    obtain ⟨j, rfl, hj⟩ := isInB_true hb.2
    obtain ⟨H, h1, h2, hn, hx⟩ := h
    have hl : H.length = G.length := by rw [← h2, List.length_map]
    have e0 : (hdAt H 0).R.length = m := by rw [rowG_hd, h2]; exact (g.len g.n0).2.1
    have ei : (hdAt H i).R = rowG G i := by rw [rowG_hd, h2]
    refine (gdelete_yes w lo p rb c i j H k x h1 hlo (by rw [hl]; exact hi) (by rw [e0]; exact hj) (by rw [e0, ei]; exact (g.len hi).2.1) (by rw [ei]; exact (g.len hi).1) (by rw [ei, (g.len hi).2.1]; have := g.m1; omega)).mono ?_
    rintro e w' ⟨rfl, ⟨y, y1, yb, y3⟩, bt⟩
    refine ⟨rfl, ?_, bt⟩
    unfold editG
    rw [if_pos hb', Int.toNat_natCast]
    exact Gn.of_set y3 h2 (by rw [y1, ei]) hn hx (fun hz => (h1.2.2.2.lt hz).2) yb hX
theorem nerase (X : Nat → Prop) (w : World) (lo p rb c m : Nat) (G : List Cls) (r s u : Int) (x : Cel) (h : Gn w lo p rb c G X) (g : Good G m) (hlo : lo ≤ w.heap.size) (hX : ∀ j, w.heap.size ≤ j → X j) :
    Calls Tryz.prog 37 #[gV p, .int .i64 r, .int .i64 s, .int .i64 u, celV x] w fun e w' => e = .returned (.tuple #[]) ∧ Gn w' lo p rb c (eraseG G r (fun R => erasePM R s u x)) X ∧ Buts (· = rb) w w' := by
  obtain ⟨H, h1, h2, hn, hx⟩ := h
  have hl : H.length = G.length := by rw [← h2, List.length_map]
  cases hb : isInB r G.length with
  | false =>
    refine (gerase_no w (gV p) H.length c (some ⟨rb, 0, none⟩) r s u x (fun w' b => kept_any w' p _ (h1.below b).cell) (by rw [hl]; exact hb)).mono ?_
    rintro e w' ⟨rfl, b⟩
    refine ⟨rfl, ?_, Buts.of b⟩
    unfold eraseG
    rw [hb, if_neg (by decide)]
    exact ⟨H, h1.below b, h2, hn, hx⟩
  | true =>
    have hb' := hb
    obtain ⟨i, rfl, hi⟩ := isInB_true hb
    have ei : (hdAt H i).R = rowG G i := by rw [rowG_hd, h2]
    refine (gerase_yes w lo p rb c i H s u x h1 hlo (by rw [hl]; exact hi) (by rw [ei, (g.len hi).2.1]; exact g.m0) (by rw [ei]; exact (g.len hi).1) (by rw [ei, (g.len hi).2.1]; have := g.m1; omega)).mono ?_
    rintro e w' ⟨rfl, ⟨y, y1, yb, y3⟩, bt⟩
    refine ⟨rfl, ?_, bt⟩
    unfold eraseG
    rw [if_pos hb', Int.toNat_natCast]
    exact Gn.of_set y3 h2 (by rw [y1, ei]) hn hx (fun hz => (h1.2.2.2.lt hz).2) yb hX
theorem nodup_parts {a q d z f : List Nat} (h : (a ++ ((q ++ d) ++ z)).Nodup) (hf : f.Nodup) (hd : ∀ x ∈ f, x ∉ a ++ ((q ++ d) ++ z)) :
    ((a ++ (d ++ f) ++ z).Nodup ∧ ∀ x ∈ q, x ∉ a ++ (d ++ f) ++ z) ∧ ((a ++ (f ++ q) ++ z).Nodup ∧ ∀ x ∈ d, x ∉ a ++ (f ++ q) ++ z) := by
  simp only [List.nodup_append, List.mem_append] at h hd ⊢
  obtain ⟨na, ⟨⟨nq, nd, dqd⟩, nz, dz⟩, da⟩ := h
  refine ⟨⟨⟨⟨na, ⟨nd, hf, fun x hx y hy e => hd y hy (.inr (.inl (.inr (e ▸ hx))))⟩, fun x hx y hy e => ?_⟩, nz, fun x hx y hy e => ?_⟩, fun x hx hm => ?_⟩,
    ⟨⟨na, ⟨hf, nq, fun x hx y hy e => hd x hx (.inr (.inl (.inl (e ▸ hy))))⟩, fun x hx y hy e => ?_⟩, nz, fun x hx y hy e => ?_⟩, fun x hx hm => ?_⟩
  · rcases hy with hy | hy
    · exact da x hx y (.inl (.inr hy)) e
    · exact hd y hy (.inl (e ▸ hx))
  · rcases hx with hx | hx | hx
    · exact da x hx y (.inr hy) e
    · exact dz x (.inr hx) y hy e
    · exact hd x hx (.inr (.inr (e ▸ hy)))
  · rcases hm with (hm | hm | hm) | hm
    · exact da x hm x (.inl (.inl hx)) rfl
    · exact dqd x hx x hm rfl
    · exact hd x hm (.inr (.inl (.inl hx)))
    · exact dz x (.inl hx) x hm rfl
  · rcases hy with hy | hy
    · exact hd y hy (.inl (e ▸ hx))
    · exact da x hx y (.inl (.inl hy)) e
  · rcases hx with hx | hx | hx
    · exact da x hx y (.inr hy) e
    · exact hd x hx (.inr (.inr (e ▸ hy)))
    · exact dz x (.inl hx) y hy e
  · rcases hm with (hm | hm | hm) | hm
    · exact da x hm x (.inl (.inr hx)) rfl
    · exact hd x hm (.inr (.inl (.inr hx)))
    · exact dqd x hm x hx rfl
    · exact dz x (.inr hx) x hm rfl
theorem nup (X : Nat → Prop) (w : World) (lo p rb c m : Nat) (G : List Cls) (t b n : Int) (x : Cel) (h : Gn w lo p rb c G X) (g : Good G m) (hlo : lo ≤ w.heap.size) (hX : ∀ j, w.heap.size ≤ j → X j) :
    Calls Tryz.prog 18 #[gV p, .int .i64 t, .int .i64 b, .int .i64 n, celV x] w fun e w' => ∃ v, e = .returned v ∧ GWn w' lo v (wentU G t b n) p rb c (upG G m t b n x) X ∧ (∀ k, v.ownBlock = some k → w.heap.size ≤ k) ∧ Buts (· = rb) w w' := by
  obtain ⟨H, h1, h2, hn, hx⟩ := h
  have hl : H.length = G.length := by rw [← h2, List.length_map]
  have hR : ∀ y ∈ H, y.R.length = m := fun y hy => (g.row y.R (by rw [← h2]; exact List.mem_map_of_mem hy)).2.1
  have hlt : ∀ y ∈ H, y.b < w.heap.size := fun y hy => (h1.2.2.2.lt hy).2
  have n1 := g.n1
  have m1 := g.m1
  obtain ⟨r1, r2⟩ := regs h1 t b
  cases hb : regB G.length t b with
  | false =>
    refine (gup_any w lo p rb c 0 0 m none H t b n x h1 hlo (r2 (by rw [hl]; exact hb)) (fun h => absurd h (by decide)) (fun _ => rfl) (by omega) (by omega) hR g.m0 (by omega)).mono ?_
    rintro e w' ⟨v, F, rfl, hv, hF, _, _, hg, bt⟩
    obtain rfl : F = [] := List.length_eq_zero_iff.1 (by rw [hF]; omega)
    unfold wentU upG
    rw [hb, if_neg (by decide), if_neg (by decide)]
    refine ⟨v, rfl, ⟨[], H, (by simpa using hv.lower (Nat.le_refl _) hlo), rfl, ?_, h2, hn, hx, List.nodup_nil, fun x hx => (by cases hx)⟩, fun k hk => (hv.1.lt k hk).1, bt⟩
    unfold upH at hg
    simpa using hg
  | true =>
    obtain ⟨i, j, rfl, rfl, hij, hj, hreg⟩ := r1 (by rw [hl]; exact hb)
    refine (gup_any w lo p rb c i (j + 1 - i) m (some ⟨rb, i, none⟩) H (i : Nat) (j : Nat) n x h1 hlo hreg (fun _ => rfl) (fun h => by omega) (by omega) (by omega) hR g.m0 (by omega)).mono ?_
    rintro e w' ⟨v, F, rfl, hv, hF, hFm, hFr, hg, bt⟩
    obtain ⟨q, hq⟩ : ∃ q, q = min n.toNat (j + 1 - i) := ⟨_, rfl⟩
    rw [← hq] at hv hg hF hFm
    have hH : H = H.take i ++ ((((H.drop i).take (j + 1 - i)).take q ++ ((H.drop i).take (j + 1 - i)).drop q) ++ H.drop (i + (j + 1 - i))) := by
      rw [List.take_append_drop, ← List.drop_drop, List.take_append_drop, List.take_append_drop]
    have hB := hn
    unfold bs at hB
    rw [hH] at hB
    simp only [List.map_append] at hB
    have hfd : ∀ y ∈ F.map (·.b), y ∉ (H.take i).map (·.b) ++ (((((H.drop i).take (j + 1 - i)).take q).map (·.b) ++ (((H.drop i).take (j + 1 - i)).drop q).map (·.b)) ++ (H.drop (i + (j + 1 - i))).map (·.b)) := fun y hy hm => by
      rw [← List.map_append, ← List.map_append, ← List.map_append, ← hH] at hm
      obtain ⟨z, hz, rfl⟩ := List.mem_map.1 hm
      obtain ⟨f, hf, e⟩ := List.mem_map.1 hy
      have := hFr.1 f hf
      have := hlt z hz
      omega
    obtain ⟨⟨d1, d2⟩, _⟩ := nodup_parts hB hFr.2 hfd
    have hbu : bs (upH H i (j + 1 - i) q F) = (H.take i).map (·.b) ++ ((((H.drop i).take (j + 1 - i)).drop q).map (·.b) ++ F.map (·.b)) ++ (H.drop (i + (j + 1 - i))).map (·.b) := by
      unfold bs upH
      simp only [List.map_append]
    have hsub : ∀ y ∈ upH H i (j + 1 - i) q F, y ∈ H ∨ y ∈ F := fun y hy => by
      unfold upH at hy
      simp only [List.mem_append] at hy
      rcases hy with (hy | hy | hy) | hy
      · exact .inl (List.mem_of_mem_take hy)
      · exact .inl (List.mem_of_mem_drop (List.mem_of_mem_take (List.mem_of_mem_drop hy)))
      · exact .inr hy
      · exact .inl (List.mem_of_mem_drop hy)
    unfold wentU upG
    rw [if_pos hb, if_pos hb, Int.toNat_natCast, Int.toNat_natCast, ← hq]
    refine ⟨v, rfl, ⟨_, _, hv.lower (Nat.le_refl _) hlo, by unfold wentUp; rw [List.map_take, List.map_take, List.map_drop, h2], hg, ?_, by rw [hbu]; exact d1, fun y hy => ?_, ?_, fun y hy => ⟨?_, ?_⟩⟩, fun k hk => (hv.1.lt k hk).1, bt⟩
    · unfold upH upM
      rw [List.map_append, List.map_append, List.map_append, List.map_take, List.map_drop, List.map_take, List.map_drop, List.map_drop, h2, hFm, show i + (j + 1 - i) = j + 1 by omega]
    · rcases hsub y hy with h | h
      · exact hx y h
      · exact hX _ (hFr.1 y h)
    · unfold bs
      exact List.Nodup.sublist ((((List.take_sublist _ _).trans (List.take_sublist _ _)).trans (List.drop_sublist _ _)).map _) hn
    · exact hx y (List.mem_of_mem_drop (List.mem_of_mem_take (List.mem_of_mem_take hy)))
    · rw [hbu]
      exact d2 _ (List.mem_map_of_mem hy)
theorem ndown (X : Nat → Prop) (w : World) (lo p rb c m : Nat) (G : List Cls) (t b n : Int) (x : Cel) (h : Gn w lo p rb c G X) (g : Good G m) (hlo : lo ≤ w.heap.size) (hX : ∀ j, w.heap.size ≤ j → X j) :
    Calls Tryz.prog 19 #[gV p, .int .i64 t, .int .i64 b, .int .i64 n, celV x] w fun e w' => ∃ v, e = .returned v ∧ GWn w' lo v (wentD G t b n) p rb c (downG G m t b n x) X ∧ (∀ k, v.ownBlock = some k → w.heap.size ≤ k) ∧ Buts (· = rb) w w' := by
  obtain ⟨H, h1, h2, hn, hx⟩ := h
  have hl : H.length = G.length := by rw [← h2, List.length_map]
  have hR : ∀ y ∈ H, y.R.length = m := fun y hy => (g.row y.R (by rw [← h2]; exact List.mem_map_of_mem hy)).2.1
  have hlt : ∀ y ∈ H, y.b < w.heap.size := fun y hy => (h1.2.2.2.lt hy).2
  have n1 := g.n1
  have m1 := g.m1
  obtain ⟨r1, r2⟩ := regs h1 t b
  cases hb : regB G.length t b with
  | false =>
    refine (gdown_any w lo p rb c 0 0 m none H t b n x h1 hlo (r2 (by rw [hl]; exact hb)) (fun h => absurd h (by decide)) (fun _ => rfl) (by omega) (by omega) hR g.m0 (by omega)).mono ?_
    rintro e w' ⟨v, F, rfl, hv, hF, _, _, hg, bt⟩
    obtain rfl : F = [] := List.length_eq_zero_iff.1 (by rw [hF]; omega)
    unfold wentD downG
    rw [hb, if_neg (by decide), if_neg (by decide)]
    refine ⟨v, rfl, ⟨[], H, (by simpa using hv.lower (Nat.le_refl _) hlo), rfl, ?_, h2, hn, hx, List.nodup_nil, fun x hx => (by cases hx)⟩, fun k hk => (hv.1.lt k hk).1, bt⟩
    unfold downH at hg
    simpa using hg
  | true =>
    obtain ⟨i, j, rfl, rfl, hij, hj, hreg⟩ := r1 (by rw [hl]; exact hb)
    refine (gdown_any w lo p rb c i (j + 1 - i) m (some ⟨rb, i, none⟩) H (i : Nat) (j : Nat) n x h1 hlo hreg (fun _ => rfl) (fun h => by omega) (by omega) (by omega) hR g.m0 (by omega)).mono ?_
    rintro e w' ⟨v, F, rfl, hv, hF, hFm, hFr, hg, bt⟩
    obtain ⟨q, hq⟩ : ∃ q, q = min n.toNat (j + 1 - i) := ⟨_, rfl⟩
    rw [← hq] at hv hg hF hFm
    obtain ⟨s, hs⟩ : ∃ s, s = j + 1 - i - q := ⟨_, rfl⟩
    rw [← hs] at hv
    have hH : H = H.take i ++ ((((H.drop i).take (j + 1 - i)).take s ++ ((H.drop i).take (j + 1 - i)).drop s) ++ H.drop (i + (j + 1 - i))) := by
      rw [List.take_append_drop, ← List.drop_drop, List.take_append_drop, List.take_append_drop]
    have hB := hn
    unfold bs at hB
    rw [hH] at hB
    simp only [List.map_append] at hB
    have hfd : ∀ y ∈ F.map (·.b), y ∉ (H.take i).map (·.b) ++ (((((H.drop i).take (j + 1 - i)).take s).map (·.b) ++ (((H.drop i).take (j + 1 - i)).drop s).map (·.b)) ++ (H.drop (i + (j + 1 - i))).map (·.b)) := fun y hy hm => by
      rw [← List.map_append, ← List.map_append, ← List.map_append, ← hH] at hm
      obtain ⟨z, hz, rfl⟩ := List.mem_map.1 hm
      obtain ⟨f, hf, e⟩ := List.mem_map.1 hy
      have := hFr.1 f hf
      have := hlt z hz
      omega
    obtain ⟨_, ⟨d1, d2⟩⟩ := nodup_parts hB hFr.2 hfd
    have hbu : bs (downH H i (j + 1 - i) q F) = (H.take i).map (·.b) ++ (F.map (·.b) ++ (((H.drop i).take (j + 1 - i)).take s).map (·.b)) ++ (H.drop (i + (j + 1 - i))).map (·.b) := by
      unfold bs downH
      rw [← hs]
      simp only [List.map_append]
    have hsub : ∀ y ∈ downH H i (j + 1 - i) q F, y ∈ H ∨ y ∈ F := fun y hy => by
      unfold downH at hy
      simp only [List.mem_append] at hy
      rcases hy with (hy | hy | hy) | hy
      · exact .inl (List.mem_of_mem_take hy)
      · exact .inr hy
      · exact .inl (List.mem_of_mem_drop (List.mem_of_mem_take (List.mem_of_mem_take hy)))
      · exact .inl (List.mem_of_mem_drop hy)
    unfold wentD downG
    rw [if_pos hb, if_pos hb, Int.toNat_natCast, Int.toNat_natCast, ← hq]
    refine ⟨v, rfl, ⟨_, _, hv.lower (Nat.le_refl _) hlo, by unfold wentDown; rw [← hs, List.map_drop, List.map_take, List.map_drop, h2], hg, ?_, by rw [hbu]; exact d1, fun y hy => ?_, ?_, fun y hy => ⟨?_, ?_⟩⟩, fun k hk => (hv.1.lt k hk).1, bt⟩
    · unfold downH downM
      rw [List.map_append, List.map_append, List.map_append, List.map_take, List.map_take, List.map_take, List.map_drop, List.map_drop, h2, hFm, show i + (j + 1 - i) = j + 1 by omega]
    · rcases hsub y hy with h | h
      · exact hx y h
      · exact hX _ (hFr.1 y h)
    · unfold bs
      exact List.Nodup.sublist ((((List.drop_sublist _ _).trans (List.take_sublist _ _)).trans (List.drop_sublist _ _)).map _) hn
    · exact hx y (List.mem_of_mem_drop (List.mem_of_mem_take (List.mem_of_mem_drop hy)))
    · rw [hbu]
      exact d2 _ (List.mem_map_of_mem hy)
theorem nraise (X : Nat → Prop) (w : World) (lo p rb c m : Nat) (G : List Cls) (l : Int) (h : Gn w lo p rb c G X) (g : Good G m) (hlo : lo ≤ w.heap.size) (hX : ∀ j, w.heap.size ≤ j → X j) (h01 : l = 0 ∨ l = 1) :
    Calls Tryz.prog 31 #[gV p, .int .u8 l] w fun e w' => e = .returned (.tuple #[]) ∧ Gn w' lo p rb c (G.map fun R => raiseM R l) X ∧ Buts (· = rb) w w' := by
  obtain ⟨H, h1, h2, _⟩ := h
  have hl : H.length = G.length := by rw [← h2, List.length_map]
  have n1 := g.n1
  have m1 := g.m1
  refine (graise_any w lo p rb c H l h1 hlo (by omega) (fun y hy => by obtain ⟨_, k2, k3⟩ := g.row y.R (by rw [← h2]; exact List.mem_map_of_mem hy); exact ⟨by rw [k2]; exact g.m0, by omega, k3⟩) h01).mono ?_
  rintro e w' ⟨rfl, ⟨K, k1, k2, k3⟩, bt⟩
  exact ⟨rfl, ⟨K, k1, by rw [k2, ← h2, List.map_map]; rfl, k3.2, fun x hx => hX _ (k3.1 x hx)⟩, bt⟩
theorem nresize (X : Nat → Prop) (w : World) (lo p rb c m r cl : Nat) (G : List Cls) (x : Cel) (h : Gn w lo p rb c G X) (g : Good G m) (hlo : lo ≤ w.heap.size) (hX : ∀ j, w.heap.size ≤ j → X j) (hc : canB (r : Nat) (cl : Nat) = true) :
    Calls Tryz.prog 22 #[gV p, .int .i64 (r : Nat), .int .i64 (cl : Nat), celV x] w fun e w' => e = .returned (.bool true) ∧ (∃ rb2 c2, Gn w' lo p rb2 c2 (resG G r cl x (min G.length r)) X ∧ w.heap.size ≤ rb2) ∧ Buts (· = p) w w' := by
  obtain ⟨H, h1, h2, _⟩ := h
  have hl : H.length = G.length := by rw [← h2, List.length_map]
  have n1 := g.n1
  have m1 := g.m1
  have n0 := g.n0
  refine (gresize_yes w lo p rb c r cl H x h1 hlo (by omega) (by omega) hc (fun y hy => by obtain ⟨k1, k2, k3⟩ := g.row y.R (by rw [← h2]; exact List.mem_map_of_mem hy); exact ⟨k1, by omega⟩)).mono ?_
  rintro e w' ⟨rfl, ⟨rb2, c2, K, k1, k2, k3, k4⟩, bt⟩
  exact ⟨rfl, ⟨rb2, c2, ⟨K, k1, by rw [k3, h2, hl], k4.2, fun x hx => hX _ (k4.1 x hx)⟩, k2⟩, bt⟩
end Go.Proofs.YtdeahnphcfcfpaaGreat.Lab
