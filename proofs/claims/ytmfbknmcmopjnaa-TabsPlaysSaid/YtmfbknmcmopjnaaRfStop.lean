/- A range over a function whose rounds may lay blocks, draw, and end it. -/
import Derived.Test.YtmfbknmcmopjnaaRfTake
set_option linter.unusedVariables false
namespace Go.Proofs.Ytmfbknmcmopjnaa.Lab
open Go Go.RowKit Go.Shelf

/-- An iterator that may lay blocks, and draw, between its rounds, and leaves off as soon as a round says so. -/
def IterS (P : Program) (gf : Nat) (pre post : Array Value) (N : Nat) (encs : Nat → Array Value) (Hr : Nat → World → Prop) : Prop :=
  ∀ (l : Nat) (J : Nat → World → Prop) (Jx : World → Prop) (W : World), (∀ k W, J k W → Hr k W) → (∀ k W W', J k W → W.grownBy W' none → J k W') → (∀ W W', Jx W → W.grownBy W' none → Jx W') →
    (∀ k W, k < N → J k W → YieldAt Fence.wide 0 P l (encs k) W fun e W' => (e = .returned (.bool true) ∧ J (k + 1) W') ∨ (e = .returned (.bool false) ∧ Jx W')) →
    J 0 W → CallsIn Fence.wide 0 P gf (pre ++ #[.func (.yield l) #[] #[]] ++ post) W fun e W' => (∃ v, e = .returned v) ∧ (J N W' ∨ Jx W')
theorem YieldAt.mono {F : Fence} {n : Nat} {P : Program} {l : Nat} {args : Array Value} {W : World} {R R' : Ending → World → Prop} (h : YieldAt F n P l args W R) (k : ∀ e W', R e W' → R' e W') : YieldAt F n P l args W R' := by
  obtain ⟨fn, tmps, assign, body, hy, hR⟩ := h
  exact ⟨fn, tmps, assign, body, hy, RoundIn.mono hR k⟩
/-- One that may be ended goes on to its end where no round ends it. -/
theorem IterS.all {P : Program} {gf : Nat} {pre post : Array Value} {N : Nat} {encs : Nat → Array Value} {Hr : Nat → World → Prop} (h : IterS P gf pre post N encs Hr) : IterA P gf pre post N encs Hr := by
  intro l J W hH hg hY h0
  refine CallsIn.mono (h l J (fun _ => False) W hH hg (fun _ _ h _ => h) (fun k W hk hJ => (hY k W hk hJ).mono fun e W' q => .inl q) h0) ?_
  rintro e W' ⟨q, h | h⟩
  · exact ⟨q, h⟩
  · exact h.elim
def endS (B : Nat) (I : Nat → World → Prop) (Ix : Code → World → Prop) (k : Nat) (W : World) : Exit → Act → World → Prop
  | .normal, _, W' => KeepsFrom B W W' ∧ I (k + 1) W'
  | .ret, _, W' => KeepsFrom B W W' ∧ Ix .ret W'
  | .exit id, _, W' => KeepsFrom B W W' ∧ Ix (.exit id) W'
  | _, _, _ => False
theorem endS_shut (B : Nat) (I : Nat → World → Prop) (Ix : Code → World → Prop) (k : Nat) (W : World) : ¬ LetsOut (endS B I Ix k W) := fun ⟨_, _, h⟩ => h
theorem wp_rangeS {P : Program} {g : Operand} {ps : Array Tmp} {assign body : Code} {Q : Exit → Act → World → Prop} {a : Act} {w : World} {gf : Nat} {pre post : Array Value} {N : Nat} {encs : Nat → Array Value} {Hr : Nat → World → Prop}
    (hg : a.eval g = .func (.func gf) pre post) (eg : ∀ args w, (callFunc gf args).run P w = .ok (.enter gf args) w) (hit : IterS P gf pre post N encs Hr) (hps : ∀ k, (encs k).size = ps.size)
    (I : Nat → World → Prop) (Ix : Code → World → Prop) (A : Nat → Act → World → Prop) (hI : OwnFrom w.heap.size I) (hIx : OwnFrom w.heap.size Ix) (hA : ∀ k a', OwnFrom w.heap.size (fun (_ : Unit) W => A k a' W)) (hH : ∀ k W, I k W → Hr k W) (h0 : I 0 w)
    (hassign : ∀ (l k : Nat) (W : World) (K : Act → World → Prop), k < N → w.heap.size ≤ W.heap.size → I k W → (∀ a' W', KeepsFrom w.heap.size W W' → A k a' W' → K a' W') → assign.wpIn (WR l) 0 P (Exit.then K (fun _ _ _ => False)) { tmps := (ps.zip (encs k)).foldl (fun t (p, v) => t.setIfInBounds p v) a.tmps, defers := [] } W)
    (hbody : ∀ (l k : Nat) (a' : Act) (W : World), k < N → w.heap.size ≤ W.heap.size → A k a' W → body.wpIn (WR l) 0 P (endS w.heap.size I Ix k W) a' W)
    (hdone : ∀ (D : Nat) (W : World), w.heap.size ≤ D → I N W → W.heap[D]? = some (.deferred (some [])) → Q .normal { a with defers := { target := .collected D, args := #[] } :: a.defers } W)
    (hstop : ∀ (D : Nat) (c : Code) (W : World), w.heap.size ≤ D → Ix c W → W.heap[D]? = some (.deferred (some [])) → c.wpIn Fence.wide 0 P Q { a with defers := { target := .collected D, args := #[] } :: a.defers } W) :
    (Code.rangeFunc g ps assign body).wpIn Fence.wide 0 P Q a w := by
  refine wpIn_rangeFunc fun fn hfn => ?_
  obtain ⟨B, hB⟩ : ∃ B, B = w.heap.size := ⟨_, rfl⟩
  obtain ⟨rec, hrec⟩ : ∃ rec : LoopState → Option Code → Loop, rec = fun st pe => { state := st, pending := pe, fn, tmps := a.tmps, params := ps, assign, body, defers := B } := ⟨_, rfl⟩
  obtain ⟨W1, hW1⟩ : ∃ W1, W1 = (w.alloc (.deferred (some []))).alloc (.loop (rec .ready none)) := ⟨_, rfl⟩
  have hK1 : W1.heap[B]? = some (.deferred (some [])) := by
    rw [hW1, hB, Below.heap_alloc _ _ _ (by simp)]
    exact World.alloc_heap_new w _
  have hL1 : W1.heap[B + 1]? = some (.loop (rec .ready none)) := by
    have := World.alloc_heap_new (w.alloc (.deferred (some []))) (.loop (rec .ready none))
    rw [World.size_alloc] at this
    rw [hW1, hB]
    exact this
  rw [← hB] at hI hIx hA hassign hbody hdone hstop
  have hI1 : I 0 W1 := by rw [hW1]; exact hI.alloc _ (hI.alloc _ h0)
  refine ⟨B + 1, [{ target := .collected B, args := #[] }], W1, { target := .fn (.func gf) post, args := pre ++ #[.func (.yield (B + 1)) #[] #[]] }, W1, gf, pre ++ #[.func (.yield (B + 1)) #[] #[]] ++ post, W1, ?_, ?_, fun _ _ => trivial, ?_, (fun h => by cases h), ?_⟩
  · rw [hW1, hrec, hB]
    exact run_enterLoop_outer _ _ _ _ _
  · simp only [resolve, hg]
    simp [go_sem]
  · simp [invoke, go_sem, eg]
  refine (hit (B + 1) (fun k W => I k W ∧ W.heap[B + 1]? = some (.loop (rec .ready none)) ∧ W.heap[B]? = some (.deferred (some [])))
    (fun W => ∃ c, Ix c W ∧ W.heap[B + 1]? = some (.loop (rec .done (some c))) ∧ W.heap[B]? = some (.deferred (some []))) W1 (fun k W h => hH k W h.1) ?grow ?growx ?round ⟨hI1, hL1, hK1⟩).mono ?behind
  case grow =>
    rintro k W W' ⟨h1, h2, h3⟩ hg'
    exact ⟨hI k W W' none h1 hg' (fun _ e => by cases e), (hg'.block _ (Array.getElem?_eq_some_iff.1 h2).1 (fun e => by cases e)).trans h2, (hg'.block _ (Array.getElem?_eq_some_iff.1 h3).1 (fun e => by cases e)).trans h3⟩
  case growx =>
    rintro W W' ⟨c, h1, h2, h3⟩ hg'
    exact ⟨c, hIx c W W' none h1 hg' (fun _ e => by cases e), (hg'.block _ (Array.getElem?_eq_some_iff.1 h2).1 (fun e => by cases e)).trans h2, (hg'.block _ (Array.getElem?_eq_some_iff.1 h3).1 (fun e => by cases e)).trans h3⟩
  case round =>
    rintro k W hk ⟨hi, hl, hd⟩
    have hlt : B + 1 < W.heap.size := (Array.getElem?_eq_some_iff.1 hl).1
    have hy := run_yield (P := P) (args := encs k) hl (by rw [hrec]; exact hps k)
    rw [hrec] at hy
    refine ⟨fn, _, assign, body, hy, roundIn_of_wpIn hfn (hassign _ k W _ hk (by omega) hi fun a' X hX hAX => ?_)⟩
    have hlX := hX.same (B + 1) _ (by omega) hl rfl
    have hdX := hX.same B _ (Nat.le_refl _) hd rfl
    have hltX : B + 1 < X.heap.size := (Array.getElem?_eq_some_iff.1 hlX).1
    refine ⟨_, run_beginRound hlX (by rw [hrec]), ?_⟩
    obtain ⟨V, hV⟩ : ∃ V, V = X.putObj (B + 1) (.loop { rec .ready none with state := .busy }) := ⟨_, rfl⟩
    rw [← hV]
    have hl2 : V.heap[B + 1]? = some (.loop { rec .ready none with state := .busy }) := by rw [hV]; exact World.putObj_heap_same hltX
    have hd2 : V.heap[B]? = some (.deferred (some [])) := by rw [hV, World.putObj_heap_other (by omega)]; exact hdX
    have hi2 : A k a' V := by rw [hV]; exact (hA k a').putObj (s := ()) _ hAX (by omega) hlX rfl
    have hsV : B ≤ V.heap.size := by have := (Array.getElem?_eq_some_iff.1 hl2).1; omega
    have fin : ∀ (jump : Option Code) (X : World), KeepsFrom B V X →
        X.heap[B + 1]? = some (.loop { rec .ready none with state := .busy }) ∧ (Instr.endRound (B + 1) jump).run P X = .ok (.bool jump.isNone) (X.putObj (B + 1) (.loop (rec (if jump.isNone then .ready else .done) jump))) ∧
        (X.putObj (B + 1) (.loop (rec (if jump.isNone then .ready else .done) jump))).heap[B + 1]? = some (.loop (rec (if jump.isNone then .ready else .done) jump)) ∧ (X.putObj (B + 1) (.loop (rec (if jump.isNone then .ready else .done) jump))).heap[B]? = some (.deferred (some [])) := by
      intro jump X hX
      have hx := hX.same (B + 1) _ (by omega) hl2 rfl
      have hr := run_endRound (P := P) jump hx
      rw [hrec] at hr ⊢
      rw [hrec] at hx
      exact ⟨hx, hr, World.putObj_heap_same (Array.getElem?_eq_some_iff.1 hx).1, (World.putObj_heap_other (by omega)).trans (hX.same B _ (Nat.le_refl _) hd2 rfl)⟩
    refine wpIn_mono (hbody _ k a' V hk hsV hi2) ?_
    rintro e a3 X hp
    cases e with
    | normal =>
      obtain ⟨h1, h2⟩ := hp
      obtain ⟨hx, hr, q1, q2⟩ := fin none X h1
      exact ⟨_, _, hr, .inl ⟨rfl, hI.putObj _ h2 (by omega) hx rfl, q1, q2⟩⟩
    | ret =>
      obtain ⟨h1, h2⟩ := hp
      obtain ⟨hx, hr, q1, q2⟩ := fin (some .ret) X h1
      exact ⟨_, _, hr, .inr ⟨rfl, .ret, hIx.putObj _ h2 (by omega) hx rfl, q1, q2⟩⟩
    | exit id =>
      obtain ⟨h1, h2⟩ := hp
      obtain ⟨hx, hr, q1, q2⟩ := fin (some (.exit id)) X h1
      exact ⟨_, _, hr, .inr ⟨rfl, .exit id, hIx.putObj _ h2 (by omega) hx rfl, q1, q2⟩⟩
    | goto t => exact hp.elim
    | panic c => exact hp.elim
    | outgrown => exact hp.elim
  case behind =>
    rintro e X ⟨⟨v, rfl⟩, ⟨hi, hl, hd⟩ | ⟨c, hi, hl, hd⟩⟩
    · have hr := run_endLoop (P := P) hl (by rw [hrec]; simp)
      rw [hrec] at hr
      exact ⟨none, _, hr, hdone B _ (Nat.le_refl _) (hI.putObj _ hi (by omega) hl rfl) ((World.putObj_heap_other (by omega)).trans hd)⟩
    · have hr := run_endLoop (P := P) hl (by rw [hrec]; simp)
      rw [hrec] at hr
      exact ⟨some c, _, hr, hstop B c _ (Nat.le_refl _) (hIx.putObj _ hi (by omega) hl rfl) ((World.putObj_heap_other (by omega)).trans hd)⟩
section
variable {n : Nat} {P : Program} {L : List Oper} {Q : Exit → Act → World → Prop} {md : Region.Mode} {S : World → Prop}
/-- Two operations may come up; neither is x. -/
theorem th2 (i j : Nat) {x : Nat} {oi oj : Oper} {fuel : Nat} {listed : Array Bool} {a : Act} {w : World} (hi : opAtL L i = some oi) (hj : opAtL L j = some oj) (hr : Region.ready md L.toArray listed = [i, j]) (hix : i ≠ x) (hjx : j ≠ x)
    (hw : Region.wanted oi (yielded L.toArray a.tmps) = true) (hw2 : Region.wanted oj (yielded L.toArray a.tmps) = true)
    (h : ∀ K' : Act → World → Prop, Shut (∀ a w, S w → (S w → heldX Fence.wide 0 P md L.toArray Q S x fuel (listed.setIfInBounds i true) a w) → K' a w) → Oper.wp P oi a w K' Q)
    (h2 : ∀ K' : Act → World → Prop, Shut (∀ a w, S w → (S w → heldX Fence.wide 0 P md L.toArray Q S x fuel (listed.setIfInBounds j true) a w) → K' a w) → Oper.wp P oj a w K' Q) :
    heldX Fence.wide 0 P md L.toArray Q S x (fuel + 1) listed a w := by
  refine ⟨fun e => absurd (hr.symm.trans e) (by simp), fun m hm => ?_⟩
  rw [hr] at hm
  rcases List.mem_cons.1 hm with rfl | hm
  · refine wpOpIn_step ((opAtL_eq L m).trans hi) fun K hK => ?_
    rw [if_pos hw]
    exact op_wide 0 (h K (show Shut _ from fun a w hs q => hK a w (by rw [if_neg hix]; exact ⟨hs, q hs⟩)))
  · obtain rfl := List.mem_singleton.1 hm
    refine wpOpIn_step ((opAtL_eq L m).trans hj) fun K hK => ?_
    rw [if_pos hw2]
    exact op_wide 0 (h2 K (show Shut _ from fun a w hs q => hK a w (by rw [if_neg hjx]; exact ⟨hs, q hs⟩)))
/-- An operation that its guard leaves out. -/
theorem ts (i : Nat) {x : Nat} {oi : Oper} {fuel : Nat} {listed : Array Bool} {a : Act} {w : World} (hi : opAtL L i = some oi)
    (h : heldX Fence.wide 0 P md L.toArray Q S x fuel (listed.setIfInBounds i true) (a.put oi.dst undef) w)
    (hab : ∀ w, oi.about P w a.eval = none := by intro; rfl) (hix : i ≠ x := by decide)
    (hcl : closedB md L listed = true := by kernel_rfl) (hwt : waitsL md L L.length x i = true := by kernel_rfl)
    (hs : Region.noSelect L.toArray = true := by kernel_rfl) (hf : Region.free md L.toArray listed i = true := by kernel_rfl) (hr : (Region.ready md L.toArray listed).contains i = true := by kernel_rfl)
    (hw : Region.wanted oi (yielded L.toArray a.tmps) = false := by kernel_rfl) (hS : S w := by assumption)
    (hQ : ∀ c a w, Q (.panic c) (a.put oi.dst undef) w → Q (.panic c) a w := by exact fun _ _ _ h => h) : heldX Fence.wide 0 P md L.toArray Q S x (fuel + 1) listed a w :=
  heldX.first rfl ((opAtL_eq L i).trans hi) hix ⟨L.length, (waits_eq md L _ _ _).trans hwt⟩ (Region.noSelect_spec hs) hQ fuel listed a w (Region.free_spec ((opAtL_eq L i).trans hi) hf) (closed_of hcl) (by simpa using hr) ⟨Or.inr ⟨hw, rfl⟩, hab⟩ hS h
end
end Go.Proofs.Ytmfbknmcmopjnaa.Lab
