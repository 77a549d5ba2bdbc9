/- The Go law CharsetPlaces: its walk. -/
import Derived.Test.YtdphccjeikiciaaChPlayed
import Derived.Maps.OwnOps
import Derived.Maps.OwnSet
import Derived.Deep.DeepCutAuto
import Derived.Deep.CutBlock
namespace Go.Proofs.Ytdphccjeikiciaa.Lab
open Go Go.RowKit Go.ChangeShapes Go.WideShapes Go.ChangeAt Go.Deep Go.Joins Go.ChangeMaps

theorem eqv_lit (a b c d l s a' b' c' d' l' s' : Int) (q : Bool) (h : eqC ⟨a, b, c, d, l, s⟩ ⟨a', b', c', d', l', s'⟩ = q) (w : World) :
    (Op.equalIn 10000 25 (.agg #[.int .i64 a, .int .i64 b, .int .i64 c, .int .i64 d, .int .i64 l, .int .i64 s]) (.agg #[.int .i64 a', .int .i64 b', .int .i64 c', .int .i64 d', .int .i64 l', .int .i64 s'])).run Try.prog w = .ok q w := by
  subst h
  exact eqVal ⟨a, b, c, d, l, s⟩ ⟨a', b', c', d', l', s'⟩ w
theorem Lies.tail {w0 w : World} {p : Nat × Ch} {L : List (Nat × Ch)} (H : Lies w0 w (p :: L)) : Lies w0 w L :=
  ⟨H.1, (List.pairwise_cons.1 H.2.1).2, fun q hq => H.2.2 q (List.mem_cons_of_mem _ hq)⟩
theorem eqC_self (k : Ch) : eqC k k = true := (eqC_iff k k).2 rfl
theorem eqSets_self (a b c d : Int) (w : World) : (Op.equalIn 10000 23 (.agg #[.int .i64 a, .int .i64 b, .int .i64 c, .int .i64 d]) (.agg #[.int .i64 a, .int .i64 b, .int .i64 c, .int .i64 d])).run Try.prog w = .ok true w := by
  have := eqSets ⟨a, b, c, d, 0, 0⟩ ⟨a, b, c, d, 0, 0⟩ w
  simpa using this
theorem idx_sets (a b c d : Int) (k : Nat) (hk : k < 4) (x : Int) (hx : (#[.int .i64 a, .int .i64 b, .int .i64 c, .int .i64 d] : Array Value)[k]? = some (.int .i64 x)) (i : Int) (hi : i = k) (w : World) :
    (Instr.index 23 (.agg #[.int .i64 a, .int .i64 b, .int .i64 c, .int .i64 d]) (.int .i64 i)).run Try.prog w = .ok (.int .i64 x) w :=
  idx_arr 23 3 4 Try.underlying23 Try.isAgg3 Try.sizeOf3 _ k hk _ hx .i64 i hi w
theorem played_lit (ap : Option Addr) (len cap : Nat) (T : Nat → ActV) (ka kb kc kd kl ks : Int) (hk : playedN T (min len 40) = ⟨ka, kb, kc, kd, kl, ks⟩) {w w' : World} (hT : IsActs w ap len cap T) (hb : Below w.heap.size w w') :
    Calls Try.prog 23 #[.slice ap len cap] w' fun e w'' => e = .returned (.agg #[.int .i64 ka, .int .i64 kb, .int .i64 kc, .int .i64 kd, .int .i64 kl, .int .i64 ks]) ∧ Below w'.heap.size w' w'' := by
  have := played_any ap len cap T w' (hT.below hb)
  rw [hk] at this
  exact this
theorem sets_at (k : Ch) (m : Nat) (hm : m < 4) : (#[.int .i64 k.a, .int .i64 k.b, .int .i64 k.c, .int .i64 k.d] : Array Value)[m]? = some (.int .i64 (k.at m)) := by
  obtain rfl | rfl | rfl | rfl : m = 0 ∨ m = 1 ∨ m = 2 ∨ m = 3 := by omega
  all_goals rfl
theorem des_facts {k k' : Ch} {p f : Int} {q : Bool} (h : k.des p f = (k', q)) : (q = true ∧ isSet f = true ∧ 0 ≤ p ∧ p ≤ 3 ∧ k' = k.put p (setOf f)) ∨ (q = false ∧ k' = k ∧ (isSet f = false ∨ (isSet f = true ∧ p < 0) ∨ (isSet f = true ∧ 0 ≤ p ∧ 3 < p))) := by
  unfold Ch.des at h
  split at h
  · rename_i c
    obtain ⟨rfl, rfl⟩ := Prod.mk.inj h
    exact .inl ⟨rfl, c.1, c.2.1, c.2.2, rfl⟩
  · rename_i c
    obtain ⟨rfl, rfl⟩ := Prod.mk.inj h
    refine .inr ⟨rfl, rfl, ?_⟩
    cases hs : isSet f
    · exact .inl rfl
    · right
      rw [hs] at c
      by_cases h0 : p < 0
      · exact .inl ⟨rfl, h0⟩
      · exact .inr ⟨rfl, by omega, by have : ¬ (0 ≤ p ∧ p ≤ 3) := fun e => c ⟨rfl, e⟩; omega⟩
theorem put_now (k : Ch) (p v : Int) : (k.put p v).now = k.now := by
  unfold Ch.put
  repeat' split
  all_goals rfl
theorem put_put (k : Ch) (p v : Int) : (k.put p v).put p v = k.put p v := by
  unfold Ch.put
  repeat' split
  all_goals rfl
theorem put_at (k : Ch) (p v : Int) (m : Nat) (h0 : 0 ≤ p) (h3 : p ≤ 3) (hm : m < 4) : (k.put p v).at m = if (m : Int) = p then v else k.at m := by
  obtain rfl | rfl | rfl | rfl : p = 0 ∨ p = 1 ∨ p = 2 ∨ p = 3 := by omega
  all_goals
    obtain rfl | rfl | rfl | rfl : m = 0 ∨ m = 1 ∨ m = 2 ∨ m = 3 := by omega
    all_goals rfl
theorem des_again {k k' : Ch} {p f : Int} {q : Bool} (h : k.des p f = (k', q)) : k'.des p f = (k', q) := by
  rcases des_facts h with ⟨rfl, h1, h2, h3, rfl⟩ | ⟨rfl, rfl, _⟩
  · unfold Ch.des
    rw [if_pos ⟨h1, h2, h3⟩, put_put]
  · exact h

theorem wpList_insert_own {H : Type} {P : Program} (w : World) {ops : Array Oper} {rest : List Oper} {o : Oper} {a : Act} {Q : Exit → Act → World → Prop}
    (hg : o.guard = none) (m x v : Operand) (t : TypeId) (hop : o.op = Op.insert t m x v)
    (k e : TypeId) (K : Maps.Keyed P k) (ht : P.underlying t = some (.map k e)) (R : Value → Option (DataW H × List MemPlace)) (b n : Nat) (D : DataW H)
    (hm : a.eval m = .map (some b)) (hown : w.ownsMap P k R b n D) (hn : n < maxLen) (key val : Value) (kl : Lit) (hx : a.eval x = key) (hv : a.eval v = val) (hkey : keyOf P k key = some kl)
    (d : DataW H) (ps : List MemPlace) (hval : R val = some (d, ps))
    (hK : ∀ w', w'.ownsMap P k R b (n + 1) (D.put kl d) → w.grownBy w' (some b) → wpList P ops Q rest (a.put o.dst undef) w') :
    wpList P ops Q (o :: rest) a w := by
  refine wpList_plain hg fun K' hK' => ?_
  obtain ⟨w', hrun, r1, r2⟩ := hown.update K ht hn hkey hval
  unfold Oper.wp
  simp [execOp, hop, hm, hx, hv, hrun, Result.andThen]
  exact hK' _ _ (hK w' r1 r2)

theorem keyed8 : Maps.Keyed Try.prog 5 := Maps.int_keyed Try.underlying5
abbrev lit64 (n : Int) : DataW Unit := .lit (.int .i64 n)
theorem lit64_inj {c d : Int} (h : lit64 c = lit64 d) : c = d := by
  injection h with h
  injection h
abbrev key8 (n : Int) : Lit := .int .u8 n
abbrev D1 : DataW Unit := (DataW.map [] : DataW Unit).put (key8 66) (lit64 0)
abbrev D2 : DataW Unit := D1.put (key8 48) (lit64 1)
abbrev D3 : DataW Unit := D2.put (key8 65) (lit64 2)
theorem d3_at (f : Int) : D3.atKey (key8 f) (lit64 0) = lit64 (setOf f) ∧ Maps.has D3 (key8 f) = isSet f := by
  by_cases h1 : f = 66
  · subst h1
    exact ⟨by rfl, by rfl⟩
  · by_cases h2 : f = 48
    · subst h2
      exact ⟨by rfl, by rfl⟩
    · by_cases h3 : f = 65
      · subst h3
        exact ⟨by rfl, by rfl⟩
      · have n1 : key8 f ≠ key8 66 := fun e => by injection e with _ e; exact h1 e
        have n2 : key8 f ≠ key8 48 := fun e => by injection e with _ e; exact h2 e
        have n3 : key8 f ≠ key8 65 := fun e => by injection e with _ e; exact h3 e
        refine ⟨?_, ?_⟩
        · rw [Maps.atKey_put_other n3, Maps.atKey_put_other n2, Maps.atKey_put_other n1]
          simp [setOf, h2, h3]
          rfl
        · rw [Maps.has_put_other n3, Maps.has_put_other n2, Maps.has_put_other n1]
          simp [isSet, h1, h2, h3]
          rfl

theorem V6.block {w w' : World} {b : Nat} {k : Ch} (h : V6 w b k) (hs : w.heap.size ≤ w'.heap.size) (e : w'.heap[b]? = w.heap[b]?) : V6 w' b k := by
  have c : ∀ i, w'.cell? ⟨b, i, none⟩ = w.cell? ⟨b, i, none⟩ := fun i => World.cell?_of_block e
  have f : ∀ i, w'.frozen? ⟨b, i, none⟩ = w.frozen? ⟨b, i, none⟩ := fun i => World.frozen?_of_block e
  obtain ⟨h0, ⟨h1, h2, h3, h4, h5, h6⟩, h7⟩ := h
  exact ⟨Nat.lt_of_lt_of_le h0 hs, ⟨(c 0).trans h1, (c 1).trans h2, (c 2).trans h3, (c 3).trans h4, (c 4).trans h5, (c 5).trans h6⟩, fun i => (f i).trans (h7 i)⟩

/-- Choices, and a map, each in a block of its own. -/
def LM (w0 w : World) (L : List (Nat × Ch)) (B n : Nat) (D : DataW Unit) : Prop :=
  Lies w0 w L ∧ w.ownsMap Try.prog 5 (plainElem (H := Unit) Try.prog 3) B n D ∧ w0.heap.size ≤ B ∧ ∀ q ∈ L, q.1 ≠ B
theorem LM.start {w0 w : World} {L : List (Nat × Ch)} (H : Lies w0 w L) : LM w0 (w.alloc (.map #[] 0)) L w.heap.size 0 (.map []) :=
  ⟨H.past _, World.ownsMap_made w _ _ _, H.1.size, fun q hq => by have := (H.2.2 q hq).2.1; omega⟩
theorem LM.step {w0 w w' : World} {L : List (Nat × Ch)} {B n : Nat} {D D' : DataW Unit} (h : LM w0 w L B n D)
    (o : w'.ownsMap Try.prog 5 (plainElem (H := Unit) Try.prog 3) B (n + 1) D') (g : w.grownBy w' (some B)) : LM w0 w' L B (n + 1) D' := by
  obtain ⟨h1, _, h3, h4⟩ := h
  refine ⟨⟨Below.grown h1.1 g h1.1.size (by intro m hm; cases hm; exact h3), h1.2.1, fun q hq => ⟨(h1.2.2 q hq).1, ?_⟩⟩, o, h3, h4⟩
  exact (h1.2.2 q hq).2.block g.size (g.block _ (h1.2.2 q hq).2.1 (by intro e; cases e; exact h4 q hq rfl))

set_option maxRecDepth 100000 in
set_option maxHeartbeats 16000000 in
theorem charsetPlaces_any (ap : Option Addr) (len cap : Nat) (T : Nat → ActV) (p f : Int) (p0 : -128 ≤ p) (p1 : p ≤ 127) (f0 : 0 ≤ f) (f1 : f ≤ 255) (w : World) (hT : IsActs w ap len cap T) :
    Calls Try.prog 7 #[.slice ap len cap, .int .i8 p, .int .u8 f] w fun e w' => e = .returned (.bool true) ∧ Below w.heap.size w w' := by
  obtain ⟨⟨ka, kb, kc, kd, kl, ks⟩, hk⟩ : ∃ k, playedN T (min len 40) = k := ⟨_, rfl⟩
  have PL := Lib.hid (fun (w' : World) (hb : Below w.heap.size w w') => played_lit ap len cap T ka kb kc kd kl ks hk hT hb)
  obtain ⟨⟨a', b', c', d', l', s'⟩, q, hd⟩ : ∃ (k' : Ch) (q : Bool), Ch.des ⟨ka, kb, kc, kd, kl, ks⟩ p f = (k', q) := ⟨_, _, rfl⟩
  have HF := Lib.hid (des_facts hd)
  have C1 := Lib.hid (fun w => des_lit ka kb kc kd kl ks p f a' b' c' d' l' s' q hd w)
  have C2 := Lib.hid (fun w => des_lit a' b' c' d' l' s' p f a' b' c' d' l' s' q (des_again hd) w)
  have HV : Hid (setOf f = setOf f) := Lib.hid rfl
  have HK : Hid (keyOf Try.prog 5 (.int .u8 f) = some (key8 f)) := Lib.hid (Maps.keyOf_int_mk Try.underlying5 (by
    have m1 : IntKind.u8.min = 0 := by decide
    have m2 : IntKind.u8.max = 255 := by decide
    simp only [Lit.wf, Bool.and_eq_true, decide_eq_true_eq]
    omega))
  have HD := Lib.hid (d3_at f)
  have wp1 : IntKind.i64.wrap p = p := by rw [IntKind.wrap_i64]; omega
  clear hT hk hd HV
  have H0 := Lib.hid (Lies.start w)
  go_enter Try.func7, Try.ntmps7
  go_wp2_with fail
  refine (works_any _).mono ?_
  rintro e w1 ⟨rfl, hb⟩
  have H1 := Lib.hid (H0.out.on hb)
  clear hb H0
  have C := fun (wx : World) (hx : wx = w1) => (by rw [hx]; exact PL.out w1 H1.out.1 : Calls Try.prog 23 #[.slice ap len cap] wx fun e w'' => e = .returned (.agg #[.int .i64 ka, .int .i64 kb, .int .i64 kc, .int .i64 kd, .int .i64 kl, .int .i64 ks]) ∧ Below wx.heap.size wx w'')
  go_wp2_with fail
  refine (C _ rfl).mono ?_
  rintro e w2 ⟨rfl, hb⟩
  have H2 := Lib.hid (H1.out.on hb)
  clear hb H1 C PL
  go_wp2_with fail
  refine (C1.out _).mono ?_
  rintro e w3 ⟨rfl, hb⟩
  have H3 := Lib.hid ((H2.out.new ka kb kc kd kl ks 25).on hb)
  clear hb H2
  clear C1
  go_upto_region 5 with (fail)
  have H4 := Lib.hid (H3.out.new a' b' c' d' l' s' 25)
  obtain ⟨w4, hw4⟩ : ∃ wx : World, wx = w3.alloc (.cells #[.int .i64 a', .int .i64 b', .int .i64 c', .int .i64 d', .int .i64 l', .int .i64 s'] 25) := ⟨_, rfl⟩
  rw [← hw4] at H4 ⊢
  clear hw4 H3
  generalize w2.heap.size = n7 at *
  generalize w3.heap.size = n8 at *
  have T0 := Lib.hid (LM.start H4.out)
  have hmm := @run_makeMap Try.prog
  go_wp2_with (first
    | (refine wpList_insert_own _ rfl (.tmp 29) (.const (.int .u8 66)) (.const (.int .i64 0)) 55 rfl 5 3 keyed8 Try.underlying55 (plainElem (H := Unit) Try.prog 3) w4.heap.size 0 (.map []) (by simp [Act.eval]) T0.out.2.1 (by unfold maxLen; omega) (.int .u8 66) (.int .i64 0) (key8 66) (by simp [Act.eval]) (by simp [Act.eval]) (Maps.keyOf_int_mk Try.underlying5 (by decide)) (lit64 0) [] (plainElem_int Try.underlying3 (by decide)) ?_; intro w5 o5 g5; have T1 := Lib.hid (T0.out.step o5 g5); clear o5 g5 T0; (try simp only [Act.put]))
    | (refine wpList_insert_own _ rfl (.tmp 29) (.const (.int .u8 48)) (.const (.int .i64 1)) 55 rfl 5 3 keyed8 Try.underlying55 (plainElem (H := Unit) Try.prog 3) w4.heap.size 1 D1 (by simp [Act.eval]) T1.out.2.1 (by unfold maxLen; omega) (.int .u8 48) (.int .i64 1) (key8 48) (by simp [Act.eval]) (by simp [Act.eval]) (Maps.keyOf_int_mk Try.underlying5 (by decide)) (lit64 1) [] (plainElem_int Try.underlying3 (by decide)) ?_; intro w5 o5 g5; have T2 := Lib.hid (T1.out.step o5 g5); clear o5 g5 T1; (try simp only [Act.put]))
    | (refine wpList_insert_own _ rfl (.tmp 29) (.const (.int .u8 65)) (.const (.int .i64 2)) 55 rfl 5 3 keyed8 Try.underlying55 (plainElem (H := Unit) Try.prog 3) w4.heap.size 2 D2 (by simp [Act.eval]) T2.out.2.1 (by unfold maxLen; omega) (.int .u8 65) (.int .i64 2) (key8 65) (by simp [Act.eval]) (by simp [Act.eval]) (Maps.keyOf_int_mk Try.underlying5 (by decide)) (lit64 2) [] (plainElem_int Try.underlying3 (by decide)) ?_; intro w5 o5 g5; have T3 := Lib.hid (T2.out.step o5 g5); clear o5 g5 T2; (try simp only [Act.put]))
    | (at_lookup; refine wpList_lookup_own_ok_int _ rfl (.tmp 32) (.tmp 33) 55 rfl 5 3 .i64 keyed8 Try.underlying55 Try.underlying3 (by kernel_rfl) w4.heap.size 3 D3 (by simp [Act.eval]) T3.out.2.1 (.int .u8 f) (key8 f) (by simp [Act.eval]) HK.out ?_; intro c hat hwc; obtain rfl : c = setOf f := lit64_inj (hat.symm.trans HD.out.1); rw [HD.out.2]; clear hat hwc))
  have H5 := Lib.hid T3.out.1
  clear T3 HK hmm H4 HD
  have HB : Hid (q = true → ∀ m : Nat, m < 4 → Ch.at ⟨a', b', c', d', l', s'⟩ m = if (m : Int) = p then setOf f else Ch.at ⟨ka, kb, kc, kd, kl, ks⟩ m) := Lib.hid (by
    rcases HF.out with ⟨_, _, h2, h3, e⟩ | ⟨e, _⟩
    · intro _ m hm
      rw [e]
      exact put_at _ _ _ _ h2 h3 hm
    · intro h
      rw [e] at h
      cases h)
  have HN : Hid (Ch.now ⟨a', b', c', d', l', s'⟩ = Ch.now ⟨ka, kb, kc, kd, kl, ks⟩) := Lib.hid (by
    rcases HF.out with ⟨_, _, _, _, e⟩ | ⟨_, e, _⟩
    · rw [e]
      exact put_now _ _ _
    · rw [e])
  have HC : Hid ((q = true ∧ isSet f = true ∧ 0 ≤ p ∧ p ≤ 3) ∨ (q = false ∧ eqC ⟨a', b', c', d', l', s'⟩ ⟨ka, kb, kc, kd, kl, ks⟩ = true ∧ (isSet f = false ∨ (isSet f = true ∧ p < 0) ∨ (isSet f = true ∧ 0 ≤ p ∧ 3 < p)))) := Lib.hid (by
    rcases HF.out with ⟨h0, h1, h2, h3, _⟩ | ⟨h0, e, h⟩
    · exact .inl ⟨h0, h1, h2, h3⟩
    · exact .inr ⟨h0, (eqC_iff _ _).2 e, h⟩)
  obtain ⟨nv, hnv⟩ : ∃ nv, Ch.now ⟨ka, kb, kc, kd, kl, ks⟩ = nv := ⟨_, rfl⟩
  have N1 := fun w => now_lit a' b' c' d' l' s' nv (HN.out.trans hnv) w
  have N2 := fun w => now_lit ka kb kc kd kl ks nv hnv w
  clear HF HN hnv
  generalize setOf f = v at *
  generalize isSet f = kn at *
  go_cut [66] (fun x wc => x = .bool false ∧ Hid (Lies w wc [(n8, ⟨a', b', c', d', l', s'⟩), (n7, ⟨ka, kb, kc, kd, kl, ks⟩)]))
  case first =>
    clear C2 HB
    rcases HC.out with ⟨rfl, rfl, h0, h3⟩ | ⟨rfl, he, hc⟩
    · clear HC
      have H := H5.out.drew
      clear H5
      refine wp_region_held_drew (S := fun w' => (w'.cell? ⟨n8, 0, none⟩ = some (.int .i64 a') ∧ w'.cell? ⟨n8, 1, none⟩ = some (.int .i64 b') ∧ w'.cell? ⟨n8, 2, none⟩ = some (.int .i64 c') ∧ w'.cell? ⟨n8, 3, none⟩ = some (.int .i64 d') ∧ w'.cell? ⟨n8, 4, none⟩ = some (.int .i64 l') ∧ w'.cell? ⟨n8, 5, none⟩ = some (.int .i64 s')) ∧ (w'.cell? ⟨n7, 0, none⟩ = some (.int .i64 ka) ∧ w'.cell? ⟨n7, 1, none⟩ = some (.int .i64 kb) ∧ w'.cell? ⟨n7, 2, none⟩ = some (.int .i64 kc) ∧ w'.cell? ⟨n7, 3, none⟩ = some (.int .i64 kd) ∧ w'.cell? ⟨n7, 4, none⟩ = some (.int .i64 kl) ∧ w'.cell? ⟨n7, 5, none⟩ = some (.int .i64 ks))) (by kernel_rfl) ?_ (fun hHeld => ?_)
      · exact ⟨(H.get 0 rfl).1, (H.get 1 rfl).1⟩
      refine take_at (i := 0) (v := ?_) rfl (by kernel_rfl) (by kernel_rfl) (by kernel_rfl) (fun _ _ _ h => h) (by kernel_rfl) (by assumption) ?_ ?_
      rotate_left
      · (intro w hSw; (try dsimp only at hSw); go_simp; try with_reducible rfl)
      simp only [Act.put, List.setIfInBounds_toArray, List.set_cons_zero, List.set_cons_succ]
      refine take_at (i := 1) (v := ?_) rfl (by kernel_rfl) (by kernel_rfl) (by kernel_rfl) (fun _ _ _ h => h) (by kernel_rfl) (by assumption) ?_ ?_
      rotate_left
      · (intro w hSw; (try dsimp only at hSw); go_simp; try with_reducible rfl)
      simp only [Act.put, List.setIfInBounds_toArray, List.set_cons_zero, List.set_cons_succ]
      refine take_at (i := 2) (v := ?_) rfl (by kernel_rfl) (by kernel_rfl) (by kernel_rfl) (fun _ _ _ h => h) (by kernel_rfl) (by assumption) ?_ ?_
      rotate_left
      · (intro w hSw; (try dsimp only at hSw); go_simp; try with_reducible rfl)
      simp only [Act.put, List.setIfInBounds_toArray, List.set_cons_zero, List.set_cons_succ]
      refine take_at (i := 3) (v := ?_) rfl (by kernel_rfl) (by kernel_rfl) (by kernel_rfl) (fun _ _ _ h => h) (by kernel_rfl) (by assumption) ?_ ?_
      rotate_left
      · (intro w hSw; (try dsimp only at hSw); go_simp; try with_reducible rfl)
      simp only [Act.put, List.setIfInBounds_toArray, List.set_cons_zero, List.set_cons_succ]
      refine take_at (i := 4) (v := ?_) rfl (by kernel_rfl) (by kernel_rfl) (by kernel_rfl) (fun _ _ _ h => h) (by kernel_rfl) (by assumption) ?_ ?_
      rotate_left
      · (intro w hSw; (try dsimp only at hSw); go_simp; try with_reducible rfl)
      simp only [Act.put, List.setIfInBounds_toArray, List.set_cons_zero, List.set_cons_succ]
      refine take_at (i := 5) (v := ?_) rfl (by kernel_rfl) (by kernel_rfl) (by kernel_rfl) (fun _ _ _ h => h) (by kernel_rfl) (by assumption) ?_ ?_
      rotate_left
      · (intro w hSw; (try dsimp only at hSw); go_simp; try with_reducible rfl)
      simp only [Act.put, List.setIfInBounds_toArray, List.set_cons_zero, List.set_cons_succ]
      refine take_at (i := 6) (v := ?_) rfl (by kernel_rfl) (by kernel_rfl) (by kernel_rfl) (fun _ _ _ h => h) (by kernel_rfl) (by assumption) ?_ ?_
      rotate_left
      · (intro w hSw; (try dsimp only at hSw); go_simp; try with_reducible rfl)
      simp only [Act.put, List.setIfInBounds_toArray, List.set_cons_zero, List.set_cons_succ]
      refine take_at (i := 7) (v := ?_) rfl (by kernel_rfl) (by kernel_rfl) (by kernel_rfl) (fun _ _ _ h => h) (by kernel_rfl) (by assumption) ?_ ?_
      rotate_left
      · (intro w hSw; (try dsimp only at hSw); go_simp; try with_reducible rfl)
      simp only [Act.put, List.setIfInBounds_toArray, List.set_cons_zero, List.set_cons_succ]
      refine take_at (i := 8) (v := ?_) rfl (by kernel_rfl) (by kernel_rfl) (by kernel_rfl) (fun _ _ _ h => h) (by kernel_rfl) (by assumption) ?_ ?_
      rotate_left
      · (intro w hSw; (try dsimp only at hSw); go_simp; try with_reducible rfl)
      simp only [Act.put, List.setIfInBounds_toArray, List.set_cons_zero, List.set_cons_succ]
      refine take_at (i := 9) (v := ?_) rfl (by kernel_rfl) (by kernel_rfl) (by kernel_rfl) (fun _ _ _ h => h) (by kernel_rfl) (by assumption) ?_ ?_
      rotate_left
      · (intro w hSw; (try dsimp only at hSw); go_simp; try with_reducible rfl)
      simp only [Act.put, List.setIfInBounds_toArray, List.set_cons_zero, List.set_cons_succ]
      refine take_at (i := 10) (v := ?_) rfl (by kernel_rfl) (by kernel_rfl) (by kernel_rfl) (fun _ _ _ h => h) (by kernel_rfl) (by assumption) ?_ ?_
      rotate_left
      · (intro w hSw; (try dsimp only at hSw); go_simp; try with_reducible rfl)
      simp only [Act.put, List.setIfInBounds_toArray, List.set_cons_zero, List.set_cons_succ]
      refine take_at (i := 11) (v := ?_) rfl (by kernel_rfl) (by kernel_rfl) (by kernel_rfl) (fun _ _ _ h => h) (by kernel_rfl) (by assumption) ?_ ?_
      rotate_left
      · (intro w hSw; (try dsimp only at hSw); go_simp; try with_reducible rfl)
      simp only [Act.put, List.setIfInBounds_toArray, List.set_cons_zero, List.set_cons_succ]
      refine take_at (i := 12) (v := ?_) rfl (by kernel_rfl) (by kernel_rfl) (by kernel_rfl) (fun _ _ _ h => h) (by kernel_rfl) (by assumption) ?_ ?_
      rotate_left
      · (intro w hSw; (try dsimp only at hSw); go_simp; try with_reducible rfl)
      simp only [Act.put, List.setIfInBounds_toArray, List.set_cons_zero, List.set_cons_succ]
      refine take_at (i := 13) (v := ?_) rfl (by kernel_rfl) (by kernel_rfl) (by kernel_rfl) (fun _ _ _ h => h) (by kernel_rfl) (by assumption) ?_ ?_
      rotate_left
      · (intro w hSw; (try dsimp only at hSw); go_simp; try with_reducible rfl)
      simp only [Act.put, List.setIfInBounds_toArray, List.set_cons_zero, List.set_cons_succ]
      refine take_at (i := 14) (v := ?_) rfl (by kernel_rfl) (by kernel_rfl) (by kernel_rfl) (fun _ _ _ h => h) (by kernel_rfl) (by assumption) ?_ ?_
      rotate_left
      · (intro w hSw; (try dsimp only at hSw); go_simp; try with_reducible rfl)
      simp only [Act.put, List.setIfInBounds_toArray, List.set_cons_zero, List.set_cons_succ]
      refine skip_at (i := 15) rfl (by kernel_rfl) (by kernel_rfl) (by kernel_rfl) (fun _ _ _ h => h) (by kernel_rfl) (by assumption) ?_
      simp only [Act.put, List.setIfInBounds_toArray, List.set_cons_zero, List.set_cons_succ]
      refine skip_at (i := 16) rfl (by kernel_rfl) (by kernel_rfl) (by kernel_rfl) (fun _ _ _ h => h) (by kernel_rfl) (by assumption) ?_
      simp only [Act.put, List.setIfInBounds_toArray, List.set_cons_zero, List.set_cons_succ]
      refine skip_at (i := 17) rfl (by kernel_rfl) (by kernel_rfl) (by kernel_rfl) (fun _ _ _ h => h) (by kernel_rfl) (by assumption) ?_
      simp only [Act.put, List.setIfInBounds_toArray, List.set_cons_zero, List.set_cons_succ]
      refine take_at (i := 18) (v := ?_) rfl (by kernel_rfl) (by kernel_rfl) (by kernel_rfl) (fun _ _ _ h => h) (by kernel_rfl) (by assumption) ?_ ?_
      rotate_left
      · (intro w hSw; (try dsimp only at hSw); go_simp; try with_reducible rfl)
      simp only [Act.put, List.setIfInBounds_toArray, List.set_cons_zero, List.set_cons_succ]
      refine take_at (i := 19) (v := ?_) rfl (by kernel_rfl) (by kernel_rfl) (by kernel_rfl) (fun _ _ _ h => h) (by kernel_rfl) (by assumption) ?_ ?_
      rotate_left
      · (intro w hSw; (try dsimp only at hSw); go_simp; try with_reducible rfl)
      simp only [Act.put, List.setIfInBounds_toArray, List.set_cons_zero, List.set_cons_succ]
      refine take_at (i := 20) (v := ?_) rfl (by kernel_rfl) (by kernel_rfl) (by kernel_rfl) (fun _ _ _ h => h) (by kernel_rfl) (by assumption) ?_ ?_
      rotate_left
      · (intro w hSw; (try dsimp only at hSw); go_simp; try with_reducible rfl)
      simp only [Act.put, List.setIfInBounds_toArray, List.set_cons_zero, List.set_cons_succ]
      refine take_at (i := 21) (v := ?_) rfl (by kernel_rfl) (by kernel_rfl) (by kernel_rfl) (fun _ _ _ h => h) (by kernel_rfl) (by assumption) ?_ ?_
      rotate_left
      · (intro w hSw; (try dsimp only at hSw); go_simp; try with_reducible rfl)
      simp only [Act.put, List.setIfInBounds_toArray, List.set_cons_zero, List.set_cons_succ]
      refine take_at (i := 22) (v := ?_) rfl (by kernel_rfl) (by kernel_rfl) (by kernel_rfl) (fun _ _ _ h => h) (by kernel_rfl) (by assumption) ?_ ?_
      rotate_left
      · (intro w hSw; (try dsimp only at hSw); go_simp; try with_reducible rfl)
      simp only [Act.put, List.setIfInBounds_toArray, List.set_cons_zero, List.set_cons_succ]
      refine take_at (i := 23) (v := ?_) rfl (by kernel_rfl) (by kernel_rfl) (by kernel_rfl) (fun _ _ _ h => h) (by kernel_rfl) (by assumption) ?_ ?_
      rotate_left
      · (intro w hSw; (try dsimp only at hSw); go_simp; try with_reducible rfl)
      simp only [Act.put, List.setIfInBounds_toArray, List.set_cons_zero, List.set_cons_succ]
      refine take_at (i := 25) (v := ?_) rfl (by kernel_rfl) (by kernel_rfl) (by kernel_rfl) (fun _ _ _ h => h) (by kernel_rfl) (by assumption) ?_ ?_
      rotate_left
      · (intro w hSw; (try dsimp only at hSw); go_simp; try with_reducible rfl)
      simp only [Act.put, List.setIfInBounds_toArray, List.set_cons_zero, List.set_cons_succ]
      refine do_at (i := 24) rfl (by kernel_rfl) (by kernel_rfl) (fun K hK => ?_)
      go_simp
      refine (N1 _).mono ?_
      rintro e w6 ⟨rfl, hb⟩
      have H' := H.on hb
      clear H hb hHeld
      have H := H'
      clear H'
      go_wp2_with fail
      refine hK.out _ _ ?_ (fun hHeld => ?_)
      · exact ⟨(H.get 0 rfl).1, (H.get 1 rfl).1⟩
      clear hK K
      try simp only [Act.put, List.setIfInBounds_toArray, List.set_cons_zero, List.set_cons_succ]
      refine do_at (i := 26) rfl (by kernel_rfl) (by kernel_rfl) (fun K hK => ?_)
      go_simp
      refine (N2 _).mono ?_
      rintro e w6 ⟨rfl, hb⟩
      have H' := H.on hb
      clear H hb hHeld
      have H := H'
      clear H'
      go_wp2_with fail
      refine hK.out _ _ ?_ (fun hHeld => ?_)
      · exact ⟨(H.get 0 rfl).1, (H.get 1 rfl).1⟩
      clear hK K
      try simp only [Act.put, List.setIfInBounds_toArray, List.set_cons_zero, List.set_cons_succ]
      refine take_at (i := 27) (v := ?_) rfl (by kernel_rfl) (by kernel_rfl) (by kernel_rfl) (fun _ _ _ h => h) (by kernel_rfl) (by assumption) ?_ ?_
      rotate_left
      · (intro w hSw; (try dsimp only at hSw); go_simp; try with_reducible rfl)
      simp only [Act.put, List.setIfInBounds_toArray, List.set_cons_zero, List.set_cons_succ]
      refine take_at (i := 28) (v := ?_) rfl (by kernel_rfl) (by kernel_rfl) (by kernel_rfl) (fun _ _ _ h => h) (by kernel_rfl) (by assumption) ?_ ?_
      rotate_left
      · (intro w hSw; (try dsimp only at hSw); go_simp; try with_reducible rfl)
      simp only [Act.put, List.setIfInBounds_toArray, List.set_cons_zero, List.set_cons_succ]
      refine take_at (i := 29) (v := ?_) rfl (by kernel_rfl) (by kernel_rfl) (by kernel_rfl) (fun _ _ _ h => h) (by kernel_rfl) (by assumption) ?_ ?_
      rotate_left
      · (intro w hSw; (try dsimp only at hSw); go_simp; try with_reducible rfl)
      simp only [Act.put, List.setIfInBounds_toArray, List.set_cons_zero, List.set_cons_succ]
      refine wpAnyH_done (by kernel_rfl) ?_ _
      go_wp2_with fail
      go_meet
      case rel => exact ⟨rfl, Lib.hid H⟩
    · have hq := fun w => eqv_lit a' b' c' d' l' s' ka kb kc kd kl ks true he w
      clear he
      rcases hc with rfl | ⟨rfl, h0⟩ | ⟨rfl, h0, h3⟩
      · clear HC
        have H := H5.out.drew
        clear H5
        refine wp_region_held_drew (S := fun w' => (w'.cell? ⟨n8, 0, none⟩ = some (.int .i64 a') ∧ w'.cell? ⟨n8, 1, none⟩ = some (.int .i64 b') ∧ w'.cell? ⟨n8, 2, none⟩ = some (.int .i64 c') ∧ w'.cell? ⟨n8, 3, none⟩ = some (.int .i64 d') ∧ w'.cell? ⟨n8, 4, none⟩ = some (.int .i64 l') ∧ w'.cell? ⟨n8, 5, none⟩ = some (.int .i64 s')) ∧ (w'.cell? ⟨n7, 0, none⟩ = some (.int .i64 ka) ∧ w'.cell? ⟨n7, 1, none⟩ = some (.int .i64 kb) ∧ w'.cell? ⟨n7, 2, none⟩ = some (.int .i64 kc) ∧ w'.cell? ⟨n7, 3, none⟩ = some (.int .i64 kd) ∧ w'.cell? ⟨n7, 4, none⟩ = some (.int .i64 kl) ∧ w'.cell? ⟨n7, 5, none⟩ = some (.int .i64 ks))) (by kernel_rfl) ?_ (fun hHeld => ?_)
        · exact ⟨(H.get 0 rfl).1, (H.get 1 rfl).1⟩
        refine take_at (i := 0) (v := ?_) rfl (by kernel_rfl) (by kernel_rfl) (by kernel_rfl) (fun _ _ _ h => h) (by kernel_rfl) (by assumption) ?_ ?_
        rotate_left
        · (intro w hSw; (try dsimp only at hSw); go_simp; try with_reducible rfl)
        simp only [Act.put, List.setIfInBounds_toArray, List.set_cons_zero, List.set_cons_succ]
        refine take_at (i := 1) (v := ?_) rfl (by kernel_rfl) (by kernel_rfl) (by kernel_rfl) (fun _ _ _ h => h) (by kernel_rfl) (by assumption) ?_ ?_
        rotate_left
        · (intro w hSw; (try dsimp only at hSw); go_simp; try with_reducible rfl)
        simp only [Act.put, List.setIfInBounds_toArray, List.set_cons_zero, List.set_cons_succ]
        refine take_at (i := 2) (v := ?_) rfl (by kernel_rfl) (by kernel_rfl) (by kernel_rfl) (fun _ _ _ h => h) (by kernel_rfl) (by assumption) ?_ ?_
        rotate_left
        · (intro w hSw; (try dsimp only at hSw); go_simp; try with_reducible rfl)
        simp only [Act.put, List.setIfInBounds_toArray, List.set_cons_zero, List.set_cons_succ]
        refine skip_at (i := 3) rfl (by kernel_rfl) (by kernel_rfl) (by kernel_rfl) (fun _ _ _ h => h) (by kernel_rfl) (by assumption) ?_
        simp only [Act.put, List.setIfInBounds_toArray, List.set_cons_zero, List.set_cons_succ]
        refine skip_at (i := 4) rfl (by kernel_rfl) (by kernel_rfl) (by kernel_rfl) (fun _ _ _ h => h) (by kernel_rfl) (by assumption) ?_
        simp only [Act.put, List.setIfInBounds_toArray, List.set_cons_zero, List.set_cons_succ]
        refine take_at (i := 5) (v := ?_) rfl (by kernel_rfl) (by kernel_rfl) (by kernel_rfl) (fun _ _ _ h => h) (by kernel_rfl) (by assumption) ?_ ?_
        rotate_left
        · (intro w hSw; (try dsimp only at hSw); go_simp; try with_reducible rfl)
        simp only [Act.put, List.setIfInBounds_toArray, List.set_cons_zero, List.set_cons_succ]
        refine take_at (i := 6) (v := ?_) rfl (by kernel_rfl) (by kernel_rfl) (by kernel_rfl) (fun _ _ _ h => h) (by kernel_rfl) (by assumption) ?_ ?_
        rotate_left
        · (intro w hSw; (try dsimp only at hSw); go_simp; try with_reducible rfl)
        simp only [Act.put, List.setIfInBounds_toArray, List.set_cons_zero, List.set_cons_succ]
        refine skip_at (i := 7) rfl (by kernel_rfl) (by kernel_rfl) (by kernel_rfl) (fun _ _ _ h => h) (by kernel_rfl) (by assumption) ?_
        simp only [Act.put, List.setIfInBounds_toArray, List.set_cons_zero, List.set_cons_succ]
        refine skip_at (i := 8) rfl (by kernel_rfl) (by kernel_rfl) (by kernel_rfl) (fun _ _ _ h => h) (by kernel_rfl) (by assumption) ?_
        simp only [Act.put, List.setIfInBounds_toArray, List.set_cons_zero, List.set_cons_succ]
        refine take_at (i := 9) (v := ?_) rfl (by kernel_rfl) (by kernel_rfl) (by kernel_rfl) (fun _ _ _ h => h) (by kernel_rfl) (by assumption) ?_ ?_
        rotate_left
        · (intro w hSw; (try dsimp only at hSw); go_simp; try with_reducible rfl)
        simp only [Act.put, List.setIfInBounds_toArray, List.set_cons_zero, List.set_cons_succ]
        refine take_at (i := 10) (v := ?_) rfl (by kernel_rfl) (by kernel_rfl) (by kernel_rfl) (fun _ _ _ h => h) (by kernel_rfl) (by assumption) ?_ ?_
        rotate_left
        · (intro w hSw; (try dsimp only at hSw); go_simp; try with_reducible rfl)
        simp only [Act.put, List.setIfInBounds_toArray, List.set_cons_zero, List.set_cons_succ]
        refine take_at (i := 11) (v := ?_) rfl (by kernel_rfl) (by kernel_rfl) (by kernel_rfl) (fun _ _ _ h => h) (by kernel_rfl) (by assumption) ?_ ?_
        rotate_left
        · (intro w hSw; (try dsimp only at hSw); go_simp; try with_reducible rfl)
        simp only [Act.put, List.setIfInBounds_toArray, List.set_cons_zero, List.set_cons_succ]
        refine take_at (i := 12) (v := ?_) rfl (by kernel_rfl) (by kernel_rfl) (by kernel_rfl) (fun _ _ _ h => h) (by kernel_rfl) (by assumption) ?_ ?_
        rotate_left
        · (intro w hSw; (try dsimp only at hSw); go_simp; try with_reducible rfl)
        simp only [Act.put, List.setIfInBounds_toArray, List.set_cons_zero, List.set_cons_succ]
        refine take_at (i := 13) (v := ?_) rfl (by kernel_rfl) (by kernel_rfl) (by kernel_rfl) (fun _ _ _ h => h) (by kernel_rfl) (by assumption) ?_ ?_
        rotate_left
        · (intro w hSw; (try dsimp only at hSw); go_simp; try with_reducible rfl)
        simp only [Act.put, List.setIfInBounds_toArray, List.set_cons_zero, List.set_cons_succ]
        refine take_at (i := 14) (v := ?_) rfl (by kernel_rfl) (by kernel_rfl) (by kernel_rfl) (fun _ _ _ h => h) (by kernel_rfl) (by assumption) ?_ ?_
        rotate_left
        · (intro w hSw; (try dsimp only at hSw); go_simp; try with_reducible rfl)
        simp only [Act.put, List.setIfInBounds_toArray, List.set_cons_zero, List.set_cons_succ]
        refine take_at (i := 15) (v := ?_) rfl (by kernel_rfl) (by kernel_rfl) (by kernel_rfl) (fun _ _ _ h => h) (by kernel_rfl) (by assumption) ?_ ?_
        rotate_left
        · (intro w hSw; (try dsimp only at hSw); go_simp; try with_reducible rfl)
        simp only [Act.put, List.setIfInBounds_toArray, List.set_cons_zero, List.set_cons_succ]
        refine take_at (i := 16) (v := ?_) rfl (by kernel_rfl) (by kernel_rfl) (by kernel_rfl) (fun _ _ _ h => h) (by kernel_rfl) (by assumption) ?_ ?_
        rotate_left
        · (intro w hSw; (try dsimp only at hSw); go_simp; try with_reducible rfl)
        simp only [Act.put, List.setIfInBounds_toArray, List.set_cons_zero, List.set_cons_succ]
        refine take_at (i := 17) (v := ?_) rfl (by kernel_rfl) (by kernel_rfl) (by kernel_rfl) (fun _ _ _ h => h) (by kernel_rfl) (by assumption) ?_ ?_
        rotate_left
        · (intro w hSw; (try dsimp only at hSw); go_simp; try with_reducible rfl)
        simp only [Act.put, List.setIfInBounds_toArray, List.set_cons_zero, List.set_cons_succ]
        refine take_at (i := 18) (v := ?_) rfl (by kernel_rfl) (by kernel_rfl) (by kernel_rfl) (fun _ _ _ h => h) (by kernel_rfl) (by assumption) ?_ ?_
        rotate_left
        · (intro w hSw; (try dsimp only at hSw); go_simp; try with_reducible rfl)
        simp only [Act.put, List.setIfInBounds_toArray, List.set_cons_zero, List.set_cons_succ]
        refine take_at (i := 19) (v := ?_) rfl (by kernel_rfl) (by kernel_rfl) (by kernel_rfl) (fun _ _ _ h => h) (by kernel_rfl) (by assumption) ?_ ?_
        rotate_left
        · (intro w hSw; (try dsimp only at hSw); go_simp; try with_reducible rfl)
        simp only [Act.put, List.setIfInBounds_toArray, List.set_cons_zero, List.set_cons_succ]
        refine take_at (i := 20) (v := ?_) rfl (by kernel_rfl) (by kernel_rfl) (by kernel_rfl) (fun _ _ _ h => h) (by kernel_rfl) (by assumption) ?_ ?_
        rotate_left
        · (intro w hSw; (try dsimp only at hSw); go_simp; try with_reducible rfl)
        simp only [Act.put, List.setIfInBounds_toArray, List.set_cons_zero, List.set_cons_succ]
        refine take_at (i := 21) (v := ?_) rfl (by kernel_rfl) (by kernel_rfl) (by kernel_rfl) (fun _ _ _ h => h) (by kernel_rfl) (by assumption) ?_ ?_
        rotate_left
        · (intro w hSw; (try dsimp only at hSw); go_simp; try with_reducible rfl)
        simp only [Act.put, List.setIfInBounds_toArray, List.set_cons_zero, List.set_cons_succ]
        refine take_at (i := 22) (v := ?_) rfl (by kernel_rfl) (by kernel_rfl) (by kernel_rfl) (fun _ _ _ h => h) (by kernel_rfl) (by assumption) ?_ ?_
        rotate_left
        · (intro w hSw; (try dsimp only at hSw); go_simp; try with_reducible rfl)
        simp only [Act.put, List.setIfInBounds_toArray, List.set_cons_zero, List.set_cons_succ]
        refine skip_at (i := 23) rfl (by kernel_rfl) (by kernel_rfl) (by kernel_rfl) (fun _ _ _ h => h) (by kernel_rfl) (by assumption) ?_
        simp only [Act.put, List.setIfInBounds_toArray, List.set_cons_zero, List.set_cons_succ]
        refine skip_at (i := 24) rfl (by kernel_rfl) (by kernel_rfl) (by kernel_rfl) (fun _ _ _ h => h) (by kernel_rfl) (by assumption) ?_
        simp only [Act.put, List.setIfInBounds_toArray, List.set_cons_zero, List.set_cons_succ]
        refine skip_at (i := 25) rfl (by kernel_rfl) (by kernel_rfl) (by kernel_rfl) (fun _ _ _ h => h) (by kernel_rfl) (by assumption) ?_
        simp only [Act.put, List.setIfInBounds_toArray, List.set_cons_zero, List.set_cons_succ]
        refine skip_at (i := 26) rfl (by kernel_rfl) (by kernel_rfl) (by kernel_rfl) (fun _ _ _ h => h) (by kernel_rfl) (by assumption) ?_
        simp only [Act.put, List.setIfInBounds_toArray, List.set_cons_zero, List.set_cons_succ]
        refine skip_at (i := 27) rfl (by kernel_rfl) (by kernel_rfl) (by kernel_rfl) (fun _ _ _ h => h) (by kernel_rfl) (by assumption) ?_
        simp only [Act.put, List.setIfInBounds_toArray, List.set_cons_zero, List.set_cons_succ]
        refine take_at (i := 28) (v := ?_) rfl (by kernel_rfl) (by kernel_rfl) (by kernel_rfl) (fun _ _ _ h => h) (by kernel_rfl) (by assumption) ?_ ?_
        rotate_left
        · (intro w hSw; (try dsimp only at hSw); go_simp; try with_reducible rfl)
        simp only [Act.put, List.setIfInBounds_toArray, List.set_cons_zero, List.set_cons_succ]
        refine take_at (i := 29) (v := ?_) rfl (by kernel_rfl) (by kernel_rfl) (by kernel_rfl) (fun _ _ _ h => h) (by kernel_rfl) (by assumption) ?_ ?_
        rotate_left
        · (intro w hSw; (try dsimp only at hSw); go_simp; try with_reducible rfl)
        simp only [Act.put, List.setIfInBounds_toArray, List.set_cons_zero, List.set_cons_succ]
        refine wpAnyH_done (by kernel_rfl) ?_ _
        go_wp2_with fail
        go_meet
        case rel => exact ⟨rfl, Lib.hid H⟩
      · have hn : ¬ 0 ≤ p := by omega
        clear HC
        have H := H5.out.drew
        clear H5
        refine wp_region_held_drew (S := fun w' => (w'.cell? ⟨n8, 0, none⟩ = some (.int .i64 a') ∧ w'.cell? ⟨n8, 1, none⟩ = some (.int .i64 b') ∧ w'.cell? ⟨n8, 2, none⟩ = some (.int .i64 c') ∧ w'.cell? ⟨n8, 3, none⟩ = some (.int .i64 d') ∧ w'.cell? ⟨n8, 4, none⟩ = some (.int .i64 l') ∧ w'.cell? ⟨n8, 5, none⟩ = some (.int .i64 s')) ∧ (w'.cell? ⟨n7, 0, none⟩ = some (.int .i64 ka) ∧ w'.cell? ⟨n7, 1, none⟩ = some (.int .i64 kb) ∧ w'.cell? ⟨n7, 2, none⟩ = some (.int .i64 kc) ∧ w'.cell? ⟨n7, 3, none⟩ = some (.int .i64 kd) ∧ w'.cell? ⟨n7, 4, none⟩ = some (.int .i64 kl) ∧ w'.cell? ⟨n7, 5, none⟩ = some (.int .i64 ks))) (by kernel_rfl) ?_ (fun hHeld => ?_)
        · exact ⟨(H.get 0 rfl).1, (H.get 1 rfl).1⟩
        refine take_at (i := 0) (v := ?_) rfl (by kernel_rfl) (by kernel_rfl) (by kernel_rfl) (fun _ _ _ h => h) (by kernel_rfl) (by assumption) ?_ ?_
        rotate_left
        · (intro w hSw; (try dsimp only at hSw); go_simp; try with_reducible rfl)
        simp only [Act.put, List.setIfInBounds_toArray, List.set_cons_zero, List.set_cons_succ]
        refine take_at (i := 1) (v := ?_) rfl (by kernel_rfl) (by kernel_rfl) (by kernel_rfl) (fun _ _ _ h => h) (by kernel_rfl) (by assumption) ?_ ?_
        rotate_left
        · (intro w hSw; (try dsimp only at hSw); go_simp; try with_reducible rfl)
        simp only [Act.put, List.setIfInBounds_toArray, List.set_cons_zero, List.set_cons_succ]
        refine take_at (i := 2) (v := ?_) rfl (by kernel_rfl) (by kernel_rfl) (by kernel_rfl) (fun _ _ _ h => h) (by kernel_rfl) (by assumption) ?_ ?_
        rotate_left
        · (intro w hSw; (try dsimp only at hSw); go_simp; try with_reducible rfl)
        simp only [Act.put, List.setIfInBounds_toArray, List.set_cons_zero, List.set_cons_succ]
        refine take_at (i := 3) (v := ?_) rfl (by kernel_rfl) (by kernel_rfl) (by kernel_rfl) (fun _ _ _ h => h) (by kernel_rfl) (by assumption) ?_ ?_
        rotate_left
        · (intro w hSw; (try dsimp only at hSw); go_simp; try with_reducible rfl)
        simp only [Act.put, List.setIfInBounds_toArray, List.set_cons_zero, List.set_cons_succ]
        refine take_at (i := 4) (v := ?_) rfl (by kernel_rfl) (by kernel_rfl) (by kernel_rfl) (fun _ _ _ h => h) (by kernel_rfl) (by assumption) ?_ ?_
        rotate_left
        · (intro w hSw; (try dsimp only at hSw); go_simp; try with_reducible rfl)
        simp only [Act.put, List.setIfInBounds_toArray, List.set_cons_zero, List.set_cons_succ]
        refine take_at (i := 5) (v := ?_) rfl (by kernel_rfl) (by kernel_rfl) (by kernel_rfl) (fun _ _ _ h => h) (by kernel_rfl) (by assumption) ?_ ?_
        rotate_left
        · (intro w hSw; (try dsimp only at hSw); go_simp; try with_reducible rfl)
        simp only [Act.put, List.setIfInBounds_toArray, List.set_cons_zero, List.set_cons_succ]
        refine take_at (i := 6) (v := ?_) rfl (by kernel_rfl) (by kernel_rfl) (by kernel_rfl) (fun _ _ _ h => h) (by kernel_rfl) (by assumption) ?_ ?_
        rotate_left
        · (intro w hSw; (try dsimp only at hSw); go_simp; try with_reducible rfl)
        simp only [Act.put, List.setIfInBounds_toArray, List.set_cons_zero, List.set_cons_succ]
        refine skip_at (i := 7) rfl (by kernel_rfl) (by kernel_rfl) (by kernel_rfl) (fun _ _ _ h => h) (by kernel_rfl) (by assumption) ?_
        simp only [Act.put, List.setIfInBounds_toArray, List.set_cons_zero, List.set_cons_succ]
        refine skip_at (i := 8) rfl (by kernel_rfl) (by kernel_rfl) (by kernel_rfl) (fun _ _ _ h => h) (by kernel_rfl) (by assumption) ?_
        simp only [Act.put, List.setIfInBounds_toArray, List.set_cons_zero, List.set_cons_succ]
        refine take_at (i := 9) (v := ?_) rfl (by kernel_rfl) (by kernel_rfl) (by kernel_rfl) (fun _ _ _ h => h) (by kernel_rfl) (by assumption) ?_ ?_
        rotate_left
        · (intro w hSw; (try dsimp only at hSw); go_simp; try with_reducible rfl)
        simp only [Act.put, List.setIfInBounds_toArray, List.set_cons_zero, List.set_cons_succ]
        refine take_at (i := 10) (v := ?_) rfl (by kernel_rfl) (by kernel_rfl) (by kernel_rfl) (fun _ _ _ h => h) (by kernel_rfl) (by assumption) ?_ ?_
        rotate_left
        · (intro w hSw; (try dsimp only at hSw); go_simp; try with_reducible rfl)
        simp only [Act.put, List.setIfInBounds_toArray, List.set_cons_zero, List.set_cons_succ]
        refine take_at (i := 11) (v := ?_) rfl (by kernel_rfl) (by kernel_rfl) (by kernel_rfl) (fun _ _ _ h => h) (by kernel_rfl) (by assumption) ?_ ?_
        rotate_left
        · (intro w hSw; (try dsimp only at hSw); go_simp; try with_reducible rfl)
        simp only [Act.put, List.setIfInBounds_toArray, List.set_cons_zero, List.set_cons_succ]
        refine take_at (i := 12) (v := ?_) rfl (by kernel_rfl) (by kernel_rfl) (by kernel_rfl) (fun _ _ _ h => h) (by kernel_rfl) (by assumption) ?_ ?_
        rotate_left
        · (intro w hSw; (try dsimp only at hSw); go_simp; try with_reducible rfl)
        simp only [Act.put, List.setIfInBounds_toArray, List.set_cons_zero, List.set_cons_succ]
        refine take_at (i := 13) (v := ?_) rfl (by kernel_rfl) (by kernel_rfl) (by kernel_rfl) (fun _ _ _ h => h) (by kernel_rfl) (by assumption) ?_ ?_
        rotate_left
        · (intro w hSw; (try dsimp only at hSw); go_simp; try with_reducible rfl)
        simp only [Act.put, List.setIfInBounds_toArray, List.set_cons_zero, List.set_cons_succ]
        refine take_at (i := 14) (v := ?_) rfl (by kernel_rfl) (by kernel_rfl) (by kernel_rfl) (fun _ _ _ h => h) (by kernel_rfl) (by assumption) ?_ ?_
        rotate_left
        · (intro w hSw; (try dsimp only at hSw); go_simp; try with_reducible rfl)
        simp only [Act.put, List.setIfInBounds_toArray, List.set_cons_zero, List.set_cons_succ]
        refine take_at (i := 15) (v := ?_) rfl (by kernel_rfl) (by kernel_rfl) (by kernel_rfl) (fun _ _ _ h => h) (by kernel_rfl) (by assumption) ?_ ?_
        rotate_left
        · (intro w hSw; (try dsimp only at hSw); go_simp; try with_reducible rfl)
        simp only [Act.put, List.setIfInBounds_toArray, List.set_cons_zero, List.set_cons_succ]
        refine take_at (i := 16) (v := ?_) rfl (by kernel_rfl) (by kernel_rfl) (by kernel_rfl) (fun _ _ _ h => h) (by kernel_rfl) (by assumption) ?_ ?_
        rotate_left
        · (intro w hSw; (try dsimp only at hSw); go_simp; try with_reducible rfl)
        simp only [Act.put, List.setIfInBounds_toArray, List.set_cons_zero, List.set_cons_succ]
        refine take_at (i := 17) (v := ?_) rfl (by kernel_rfl) (by kernel_rfl) (by kernel_rfl) (fun _ _ _ h => h) (by kernel_rfl) (by assumption) ?_ ?_
        rotate_left
        · (intro w hSw; (try dsimp only at hSw); go_simp; try with_reducible rfl)
        simp only [Act.put, List.setIfInBounds_toArray, List.set_cons_zero, List.set_cons_succ]
        refine take_at (i := 18) (v := ?_) rfl (by kernel_rfl) (by kernel_rfl) (by kernel_rfl) (fun _ _ _ h => h) (by kernel_rfl) (by assumption) ?_ ?_
        rotate_left
        · (intro w hSw; (try dsimp only at hSw); go_simp; try with_reducible rfl)
        simp only [Act.put, List.setIfInBounds_toArray, List.set_cons_zero, List.set_cons_succ]
        refine take_at (i := 19) (v := ?_) rfl (by kernel_rfl) (by kernel_rfl) (by kernel_rfl) (fun _ _ _ h => h) (by kernel_rfl) (by assumption) ?_ ?_
        rotate_left
        · (intro w hSw; (try dsimp only at hSw); go_simp; try with_reducible rfl)
        simp only [Act.put, List.setIfInBounds_toArray, List.set_cons_zero, List.set_cons_succ]
        refine take_at (i := 20) (v := ?_) rfl (by kernel_rfl) (by kernel_rfl) (by kernel_rfl) (fun _ _ _ h => h) (by kernel_rfl) (by assumption) ?_ ?_
        rotate_left
        · (intro w hSw; (try dsimp only at hSw); go_simp; try with_reducible rfl)
        simp only [Act.put, List.setIfInBounds_toArray, List.set_cons_zero, List.set_cons_succ]
        refine take_at (i := 21) (v := ?_) rfl (by kernel_rfl) (by kernel_rfl) (by kernel_rfl) (fun _ _ _ h => h) (by kernel_rfl) (by assumption) ?_ ?_
        rotate_left
        · (intro w hSw; (try dsimp only at hSw); go_simp; try with_reducible rfl)
        simp only [Act.put, List.setIfInBounds_toArray, List.set_cons_zero, List.set_cons_succ]
        refine take_at (i := 22) (v := ?_) rfl (by kernel_rfl) (by kernel_rfl) (by kernel_rfl) (fun _ _ _ h => h) (by kernel_rfl) (by assumption) ?_ ?_
        rotate_left
        · (intro w hSw; (try dsimp only at hSw); go_simp; try with_reducible rfl)
        simp only [Act.put, List.setIfInBounds_toArray, List.set_cons_zero, List.set_cons_succ]
        refine skip_at (i := 23) rfl (by kernel_rfl) (by kernel_rfl) (by kernel_rfl) (fun _ _ _ h => h) (by kernel_rfl) (by assumption) ?_
        simp only [Act.put, List.setIfInBounds_toArray, List.set_cons_zero, List.set_cons_succ]
        refine skip_at (i := 24) rfl (by kernel_rfl) (by kernel_rfl) (by kernel_rfl) (fun _ _ _ h => h) (by kernel_rfl) (by assumption) ?_
        simp only [Act.put, List.setIfInBounds_toArray, List.set_cons_zero, List.set_cons_succ]
        refine skip_at (i := 25) rfl (by kernel_rfl) (by kernel_rfl) (by kernel_rfl) (fun _ _ _ h => h) (by kernel_rfl) (by assumption) ?_
        simp only [Act.put, List.setIfInBounds_toArray, List.set_cons_zero, List.set_cons_succ]
        refine skip_at (i := 26) rfl (by kernel_rfl) (by kernel_rfl) (by kernel_rfl) (fun _ _ _ h => h) (by kernel_rfl) (by assumption) ?_
        simp only [Act.put, List.setIfInBounds_toArray, List.set_cons_zero, List.set_cons_succ]
        refine skip_at (i := 27) rfl (by kernel_rfl) (by kernel_rfl) (by kernel_rfl) (fun _ _ _ h => h) (by kernel_rfl) (by assumption) ?_
        simp only [Act.put, List.setIfInBounds_toArray, List.set_cons_zero, List.set_cons_succ]
        refine take_at (i := 28) (v := ?_) rfl (by kernel_rfl) (by kernel_rfl) (by kernel_rfl) (fun _ _ _ h => h) (by kernel_rfl) (by assumption) ?_ ?_
        rotate_left
        · (intro w hSw; (try dsimp only at hSw); go_simp; try with_reducible rfl)
        simp only [Act.put, List.setIfInBounds_toArray, List.set_cons_zero, List.set_cons_succ]
        refine take_at (i := 29) (v := ?_) rfl (by kernel_rfl) (by kernel_rfl) (by kernel_rfl) (fun _ _ _ h => h) (by kernel_rfl) (by assumption) ?_ ?_
        rotate_left
        · (intro w hSw; (try dsimp only at hSw); go_simp; try with_reducible rfl)
        simp only [Act.put, List.setIfInBounds_toArray, List.set_cons_zero, List.set_cons_succ]
        refine wpAnyH_done (by kernel_rfl) ?_ _
        go_wp2_with fail
        go_meet
        case rel => exact ⟨rfl, Lib.hid H⟩
      · have hn : ¬ p ≤ 3 := by omega
        clear HC
        have H := H5.out.drew
        clear H5
        refine wp_region_held_drew (S := fun w' => (w'.cell? ⟨n8, 0, none⟩ = some (.int .i64 a') ∧ w'.cell? ⟨n8, 1, none⟩ = some (.int .i64 b') ∧ w'.cell? ⟨n8, 2, none⟩ = some (.int .i64 c') ∧ w'.cell? ⟨n8, 3, none⟩ = some (.int .i64 d') ∧ w'.cell? ⟨n8, 4, none⟩ = some (.int .i64 l') ∧ w'.cell? ⟨n8, 5, none⟩ = some (.int .i64 s')) ∧ (w'.cell? ⟨n7, 0, none⟩ = some (.int .i64 ka) ∧ w'.cell? ⟨n7, 1, none⟩ = some (.int .i64 kb) ∧ w'.cell? ⟨n7, 2, none⟩ = some (.int .i64 kc) ∧ w'.cell? ⟨n7, 3, none⟩ = some (.int .i64 kd) ∧ w'.cell? ⟨n7, 4, none⟩ = some (.int .i64 kl) ∧ w'.cell? ⟨n7, 5, none⟩ = some (.int .i64 ks))) (by kernel_rfl) ?_ (fun hHeld => ?_)
        · exact ⟨(H.get 0 rfl).1, (H.get 1 rfl).1⟩
        refine take_at (i := 0) (v := ?_) rfl (by kernel_rfl) (by kernel_rfl) (by kernel_rfl) (fun _ _ _ h => h) (by kernel_rfl) (by assumption) ?_ ?_
        rotate_left
        · (intro w hSw; (try dsimp only at hSw); go_simp; try with_reducible rfl)
        simp only [Act.put, List.setIfInBounds_toArray, List.set_cons_zero, List.set_cons_succ]
        refine take_at (i := 1) (v := ?_) rfl (by kernel_rfl) (by kernel_rfl) (by kernel_rfl) (fun _ _ _ h => h) (by kernel_rfl) (by assumption) ?_ ?_
        rotate_left
        · (intro w hSw; (try dsimp only at hSw); go_simp; try with_reducible rfl)
        simp only [Act.put, List.setIfInBounds_toArray, List.set_cons_zero, List.set_cons_succ]
        refine take_at (i := 2) (v := ?_) rfl (by kernel_rfl) (by kernel_rfl) (by kernel_rfl) (fun _ _ _ h => h) (by kernel_rfl) (by assumption) ?_ ?_
        rotate_left
        · (intro w hSw; (try dsimp only at hSw); go_simp; try with_reducible rfl)
        simp only [Act.put, List.setIfInBounds_toArray, List.set_cons_zero, List.set_cons_succ]
        refine take_at (i := 3) (v := ?_) rfl (by kernel_rfl) (by kernel_rfl) (by kernel_rfl) (fun _ _ _ h => h) (by kernel_rfl) (by assumption) ?_ ?_
        rotate_left
        · (intro w hSw; (try dsimp only at hSw); go_simp; try with_reducible rfl)
        simp only [Act.put, List.setIfInBounds_toArray, List.set_cons_zero, List.set_cons_succ]
        refine take_at (i := 4) (v := ?_) rfl (by kernel_rfl) (by kernel_rfl) (by kernel_rfl) (fun _ _ _ h => h) (by kernel_rfl) (by assumption) ?_ ?_
        rotate_left
        · (intro w hSw; (try dsimp only at hSw); go_simp; try with_reducible rfl)
        simp only [Act.put, List.setIfInBounds_toArray, List.set_cons_zero, List.set_cons_succ]
        refine take_at (i := 5) (v := ?_) rfl (by kernel_rfl) (by kernel_rfl) (by kernel_rfl) (fun _ _ _ h => h) (by kernel_rfl) (by assumption) ?_ ?_
        rotate_left
        · (intro w hSw; (try dsimp only at hSw); go_simp; try with_reducible rfl)
        simp only [Act.put, List.setIfInBounds_toArray, List.set_cons_zero, List.set_cons_succ]
        refine take_at (i := 6) (v := ?_) rfl (by kernel_rfl) (by kernel_rfl) (by kernel_rfl) (fun _ _ _ h => h) (by kernel_rfl) (by assumption) ?_ ?_
        rotate_left
        · (intro w hSw; (try dsimp only at hSw); go_simp; try with_reducible rfl)
        simp only [Act.put, List.setIfInBounds_toArray, List.set_cons_zero, List.set_cons_succ]
        refine take_at (i := 7) (v := ?_) rfl (by kernel_rfl) (by kernel_rfl) (by kernel_rfl) (fun _ _ _ h => h) (by kernel_rfl) (by assumption) ?_ ?_
        rotate_left
        · (intro w hSw; (try dsimp only at hSw); go_simp; try with_reducible rfl)
        simp only [Act.put, List.setIfInBounds_toArray, List.set_cons_zero, List.set_cons_succ]
        refine take_at (i := 8) (v := ?_) rfl (by kernel_rfl) (by kernel_rfl) (by kernel_rfl) (fun _ _ _ h => h) (by kernel_rfl) (by assumption) ?_ ?_
        rotate_left
        · (intro w hSw; (try dsimp only at hSw); go_simp; try with_reducible rfl)
        simp only [Act.put, List.setIfInBounds_toArray, List.set_cons_zero, List.set_cons_succ]
        refine take_at (i := 9) (v := ?_) rfl (by kernel_rfl) (by kernel_rfl) (by kernel_rfl) (fun _ _ _ h => h) (by kernel_rfl) (by assumption) ?_ ?_
        rotate_left
        · (intro w hSw; (try dsimp only at hSw); go_simp; try with_reducible rfl)
        simp only [Act.put, List.setIfInBounds_toArray, List.set_cons_zero, List.set_cons_succ]
        refine take_at (i := 10) (v := ?_) rfl (by kernel_rfl) (by kernel_rfl) (by kernel_rfl) (fun _ _ _ h => h) (by kernel_rfl) (by assumption) ?_ ?_
        rotate_left
        · (intro w hSw; (try dsimp only at hSw); go_simp; try with_reducible rfl)
        simp only [Act.put, List.setIfInBounds_toArray, List.set_cons_zero, List.set_cons_succ]
        refine take_at (i := 11) (v := ?_) rfl (by kernel_rfl) (by kernel_rfl) (by kernel_rfl) (fun _ _ _ h => h) (by kernel_rfl) (by assumption) ?_ ?_
        rotate_left
        · (intro w hSw; (try dsimp only at hSw); go_simp; try with_reducible rfl)
        simp only [Act.put, List.setIfInBounds_toArray, List.set_cons_zero, List.set_cons_succ]
        refine take_at (i := 12) (v := ?_) rfl (by kernel_rfl) (by kernel_rfl) (by kernel_rfl) (fun _ _ _ h => h) (by kernel_rfl) (by assumption) ?_ ?_
        rotate_left
        · (intro w hSw; (try dsimp only at hSw); go_simp; try with_reducible rfl)
        simp only [Act.put, List.setIfInBounds_toArray, List.set_cons_zero, List.set_cons_succ]
        refine take_at (i := 13) (v := ?_) rfl (by kernel_rfl) (by kernel_rfl) (by kernel_rfl) (fun _ _ _ h => h) (by kernel_rfl) (by assumption) ?_ ?_
        rotate_left
        · (intro w hSw; (try dsimp only at hSw); go_simp; try with_reducible rfl)
        simp only [Act.put, List.setIfInBounds_toArray, List.set_cons_zero, List.set_cons_succ]
        refine take_at (i := 14) (v := ?_) rfl (by kernel_rfl) (by kernel_rfl) (by kernel_rfl) (fun _ _ _ h => h) (by kernel_rfl) (by assumption) ?_ ?_
        rotate_left
        · (intro w hSw; (try dsimp only at hSw); go_simp; try with_reducible rfl)
        simp only [Act.put, List.setIfInBounds_toArray, List.set_cons_zero, List.set_cons_succ]
        refine take_at (i := 15) (v := ?_) rfl (by kernel_rfl) (by kernel_rfl) (by kernel_rfl) (fun _ _ _ h => h) (by kernel_rfl) (by assumption) ?_ ?_
        rotate_left
        · (intro w hSw; (try dsimp only at hSw); go_simp; try with_reducible rfl)
        simp only [Act.put, List.setIfInBounds_toArray, List.set_cons_zero, List.set_cons_succ]
        refine take_at (i := 16) (v := ?_) rfl (by kernel_rfl) (by kernel_rfl) (by kernel_rfl) (fun _ _ _ h => h) (by kernel_rfl) (by assumption) ?_ ?_
        rotate_left
        · (intro w hSw; (try dsimp only at hSw); go_simp; try with_reducible rfl)
        simp only [Act.put, List.setIfInBounds_toArray, List.set_cons_zero, List.set_cons_succ]
        refine take_at (i := 17) (v := ?_) rfl (by kernel_rfl) (by kernel_rfl) (by kernel_rfl) (fun _ _ _ h => h) (by kernel_rfl) (by assumption) ?_ ?_
        rotate_left
        · (intro w hSw; (try dsimp only at hSw); go_simp; try with_reducible rfl)
        simp only [Act.put, List.setIfInBounds_toArray, List.set_cons_zero, List.set_cons_succ]
        refine take_at (i := 18) (v := ?_) rfl (by kernel_rfl) (by kernel_rfl) (by kernel_rfl) (fun _ _ _ h => h) (by kernel_rfl) (by assumption) ?_ ?_
        rotate_left
        · (intro w hSw; (try dsimp only at hSw); go_simp; try with_reducible rfl)
        simp only [Act.put, List.setIfInBounds_toArray, List.set_cons_zero, List.set_cons_succ]
        refine take_at (i := 19) (v := ?_) rfl (by kernel_rfl) (by kernel_rfl) (by kernel_rfl) (fun _ _ _ h => h) (by kernel_rfl) (by assumption) ?_ ?_
        rotate_left
        · (intro w hSw; (try dsimp only at hSw); go_simp; try with_reducible rfl)
        simp only [Act.put, List.setIfInBounds_toArray, List.set_cons_zero, List.set_cons_succ]
        refine take_at (i := 20) (v := ?_) rfl (by kernel_rfl) (by kernel_rfl) (by kernel_rfl) (fun _ _ _ h => h) (by kernel_rfl) (by assumption) ?_ ?_
        rotate_left
        · (intro w hSw; (try dsimp only at hSw); go_simp; try with_reducible rfl)
        simp only [Act.put, List.setIfInBounds_toArray, List.set_cons_zero, List.set_cons_succ]
        refine take_at (i := 21) (v := ?_) rfl (by kernel_rfl) (by kernel_rfl) (by kernel_rfl) (fun _ _ _ h => h) (by kernel_rfl) (by assumption) ?_ ?_
        rotate_left
        · (intro w hSw; (try dsimp only at hSw); go_simp; try with_reducible rfl)
        simp only [Act.put, List.setIfInBounds_toArray, List.set_cons_zero, List.set_cons_succ]
        refine take_at (i := 22) (v := ?_) rfl (by kernel_rfl) (by kernel_rfl) (by kernel_rfl) (fun _ _ _ h => h) (by kernel_rfl) (by assumption) ?_ ?_
        rotate_left
        · (intro w hSw; (try dsimp only at hSw); go_simp; try with_reducible rfl)
        simp only [Act.put, List.setIfInBounds_toArray, List.set_cons_zero, List.set_cons_succ]
        refine skip_at (i := 23) rfl (by kernel_rfl) (by kernel_rfl) (by kernel_rfl) (fun _ _ _ h => h) (by kernel_rfl) (by assumption) ?_
        simp only [Act.put, List.setIfInBounds_toArray, List.set_cons_zero, List.set_cons_succ]
        refine skip_at (i := 24) rfl (by kernel_rfl) (by kernel_rfl) (by kernel_rfl) (fun _ _ _ h => h) (by kernel_rfl) (by assumption) ?_
        simp only [Act.put, List.setIfInBounds_toArray, List.set_cons_zero, List.set_cons_succ]
        refine skip_at (i := 25) rfl (by kernel_rfl) (by kernel_rfl) (by kernel_rfl) (fun _ _ _ h => h) (by kernel_rfl) (by assumption) ?_
        simp only [Act.put, List.setIfInBounds_toArray, List.set_cons_zero, List.set_cons_succ]
        refine skip_at (i := 26) rfl (by kernel_rfl) (by kernel_rfl) (by kernel_rfl) (fun _ _ _ h => h) (by kernel_rfl) (by assumption) ?_
        simp only [Act.put, List.setIfInBounds_toArray, List.set_cons_zero, List.set_cons_succ]
        refine skip_at (i := 27) rfl (by kernel_rfl) (by kernel_rfl) (by kernel_rfl) (fun _ _ _ h => h) (by kernel_rfl) (by assumption) ?_
        simp only [Act.put, List.setIfInBounds_toArray, List.set_cons_zero, List.set_cons_succ]
        refine take_at (i := 28) (v := ?_) rfl (by kernel_rfl) (by kernel_rfl) (by kernel_rfl) (fun _ _ _ h => h) (by kernel_rfl) (by assumption) ?_ ?_
        rotate_left
        · (intro w hSw; (try dsimp only at hSw); go_simp; try with_reducible rfl)
        simp only [Act.put, List.setIfInBounds_toArray, List.set_cons_zero, List.set_cons_succ]
        refine take_at (i := 29) (v := ?_) rfl (by kernel_rfl) (by kernel_rfl) (by kernel_rfl) (fun _ _ _ h => h) (by kernel_rfl) (by assumption) ?_ ?_
        rotate_left
        · (intro w hSw; (try dsimp only at hSw); go_simp; try with_reducible rfl)
        simp only [Act.put, List.setIfInBounds_toArray, List.set_cons_zero, List.set_cons_succ]
        refine wpAnyH_done (by kernel_rfl) ?_ _
        go_wp2_with fail
        go_meet
        case rel => exact ⟨rfl, Lib.hid H⟩
  case rest =>
    obtain ⟨rfl, H6⟩ := hcut
    obtain ⟨wy, rfl⟩ : ∃ wp : World, wp = wc := ⟨_, rfl⟩
    clear H5 N1 N2 HC
    go_wp2_with fail
    go_loopg [13] 5 (fun g x wr => ∃ m : Nat, g + m = 5 ∧ m ≤ 4 ∧ x = .int .i64 m ∧ Hid (Lies w wr [(n8, ⟨a', b', c', d', l', s'⟩), (n7, ⟨ka, kb, kc, kd, kl, ks⟩)]))
    case atStart => exact ⟨0, by omega, by omega, rfl, H6⟩
    case round =>
      obtain ⟨m, hg, hm, rfl, H0⟩ := hrel
      clear H6
      obtain ⟨wo, rfl⟩ : ∃ wo : World, wo = wr := ⟨_, rfl⟩
      by_cases hm4 : m < 4
      · have hmi : (m : Int) < 4 := by omega
        cases q
        · clear HB
          obtain ⟨⟨c1, c2, c3, c4, c5, c6⟩, -⟩ := H0.out.get 0 rfl
          go_wp2_with fail
          refine (C2.out _).mono ?_
          rintro e w6 ⟨rfl, hb⟩
          have H1 := Lib.hid (H0.out.on hb)
          clear hb H0 c1 c2 c3 c4 c5 c6
          obtain ⟨⟨c1, c2, c3, c4, c5, c6⟩, -⟩ := H1.out.get 0 rfl
          have l1 := (H1.out.at 0 rfl).2.1
          have hq := fun w => eqv_lit a' b' c' d' l' s' a' b' c' d' l' s' true (eqC_self _) w
          have HB2 := Lib.hid (H1.out.new a' b' c' d' l' s' 25).1
          clear H1
          go_wp2
          go_ret
          exact ⟨rfl, HB2.out⟩
        · have hb := HB.out rfl m hm4
          have i1 := fun w => idx_sets ka kb kc kd m hm4 _ (sets_at ⟨ka, kb, kc, kd, kl, ks⟩ m hm4) m rfl w
          have i2 := fun w => idx_sets a' b' c' d' m hm4 _ (sets_at ⟨a', b', c', d', l', s'⟩ m hm4) m rfl w
          generalize Ch.at ⟨ka, kb, kc, kd, kl, ks⟩ m = A at *
          generalize Ch.at ⟨a', b', c', d', l', s'⟩ m = B at *
          have C3 := fun w => sets_lit ka kb kc kd kl ks w
          have C4 := fun w => sets_lit a' b' c' d' l' s' w
          obtain ⟨⟨c1, c2, c3, c4, c5, c6⟩, -⟩ := H0.out.get 1 rfl
          have e1 : ((m : Int) == p) = decide ((m : Int) = p) := by by_cases h : (m : Int) = p <;> simp [h]
          by_cases hp : (m : Int) = p
          · rw [if_pos hp] at hb
            rw [decide_eq_true hp] at e1
            subst hb
            clear hp C2 HB
            go_wp2_with fail
            refine (C3 _).mono ?_
            rintro e w6 ⟨rfl, hb⟩
            have H1 := Lib.hid (H0.out.on hb)
            clear hb H0 C3 c1 c2 c3 c4 c5 c6
            obtain ⟨⟨c1, c2, c3, c4, c5, c6⟩, -⟩ := H1.out.get 0 rfl
            go_wp2_with fail
            refine (C4 _).mono ?_
            rintro e w7 ⟨rfl, hb⟩
            have H2 := Lib.hid (H1.out.on hb)
            clear hb H1 C4 c1 c2 c3 c4 c5 c6
            go_wp2
            go_roundg (gk - 1)
            case measure => omega
            case rel => exact ⟨m + 1, by omega, by omega, by simp, H2⟩
          · rw [if_neg hp] at hb
            rw [decide_eq_false hp] at e1
            subst hb
            clear hp C2 HB
            go_wp2_with fail
            refine (C3 _).mono ?_
            rintro e w6 ⟨rfl, hb⟩
            have H1 := Lib.hid (H0.out.on hb)
            clear hb H0 C3 c1 c2 c3 c4 c5 c6
            obtain ⟨⟨c1, c2, c3, c4, c5, c6⟩, -⟩ := H1.out.get 0 rfl
            go_wp2_with fail
            refine (C4 _).mono ?_
            rintro e w7 ⟨rfl, hb⟩
            have H2 := Lib.hid (H1.out.on hb)
            clear hb H1 C4 c1 c2 c3 c4 c5 c6
            go_wp2
            go_roundg (gk - 1)
            case measure => omega
            case rel => exact ⟨m + 1, by omega, by omega, by simp, H2⟩
      · have hmi : ¬ (m : Int) < 4 := by omega
        clear HB
        obtain ⟨⟨c1, c2, c3, c4, c5, c6⟩, -⟩ := H0.out.get 0 rfl
        go_wp2_with fail
        refine (C2.out _).mono ?_
        rintro e w6 ⟨rfl, hb⟩
        have H1 := Lib.hid (H0.out.on hb)
        clear hb H0 c1 c2 c3 c4 c5 c6
        obtain ⟨⟨c1, c2, c3, c4, c5, c6⟩, -⟩ := H1.out.get 0 rfl
        have l1 := (H1.out.at 0 rfl).2.1
        have hq := fun w => eqv_lit a' b' c' d' l' s' a' b' c' d' l' s' true (eqC_self _) w
        have HB2 := Lib.hid (H1.out.new a' b' c' d' l' s' 25).1
        clear H1
        go_wp2
        go_ret
        exact ⟨rfl, HB2.out⟩

theorem charsetPlaces_walk {H : Type} (enc : TypeId × Value → H) (base : Nat) (W : World)
    (v0 : Value) (d0 : DataW H) (p0 : List MemPlace) (ok0 : Value.okWide Try.prog W .any base 22 v0) (k0 : DataW.Trod enc Try.prog W 0 (fun _ => true) true 22 v0 d0 p0)
    (v1 : Value) (d1 : DataW H) (p1 : List MemPlace) (ok1 : Value.okWide Try.prog W .any base 28 v1) (k1 : DataW.Trod enc Try.prog W 0 (fun _ => true) true 28 v1 d1 p1)
    (v2 : Value) (d2 : DataW H) (p2 : List MemPlace) (ok2 : Value.okWide Try.prog W .any base 5 v2) (k2 : DataW.Trod enc Try.prog W 0 (fun _ => true) true 5 v2 d2 p2) :
    Calls Try.prog 7 #[v0, v1, v2] W fun e w' => e = .returned (.bool true) ∧ Below W.heap.size W w' := by
  obtain ⟨ap, len, cap, T, rfl, hT⟩ := open_acts enc base W ok0 k0
  obtain ⟨p, rfl, _, _, wp⟩ := open_int Try.underlying28 ok1 k1
  obtain ⟨f, rfl, _, _, wf⟩ := open_int Try.underlying5 ok2 k2
  have bp := wf_i8 wp
  have bf := wf_u8 wf
  exact charsetPlaces_any ap len cap T p f bp.1 bp.2 bf.1 bf.2 W hT
end Go.Proofs.Ytdphccjeikiciaa.Lab
