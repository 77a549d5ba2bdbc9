/- All modes that are set, in order: a range over the table, and the library's sort. -/
import Derived.Test.YtjdfinimbdcmbaaMdPut
set_option linter.unusedVariables false
namespace Go.Proofs.Ytjdfinimbdcmbaa.Lab
open Go Go.RowKit Go.Shelf Go.Lib Go.Sort

/-! ### the order -/
def cfM (x y : Mo) : Int := if x.1 = y.1 then Lib.compareInt x.2 y.2 else if y.1 then -1 else 1
theorem lt_cf (x y : Mo) : ltOf cfM x y = ltM x y := by
  obtain ⟨p, n⟩ := x
  obtain ⟨q, m⟩ := y
  unfold ltOf cfM ltM Lib.compareInt
  cases p <;> cases q <;> simp <;> (by_cases h1 : n < m <;> simp [h1]) <;> (by_cases h2 : m < n <;> simp [h2])
theorem ltM_irrefl (x : Mo) : ltM x x = false := by
  obtain ⟨p, n⟩ := x
  unfold ltM
  cases p <;> simp
theorem ltM_trans {x y z : Mo} (h1 : ltM x y = true) (h2 : ltM y z = true) : ltM x z = true := by
  obtain ⟨p, n⟩ := x
  obtain ⟨q, m⟩ := y
  obtain ⟨r, k⟩ := z
  unfold ltM at *
  cases p <;> cases q <;> cases r <;> simp at * <;> omega
theorem ltM_ntrans {x y z : Mo} (h1 : ltM x y = false) (h2 : ltM y z = false) : ltM x z = false := by
  obtain ⟨p, n⟩ := x
  obtain ⟨q, m⟩ := y
  obtain ⟨r, k⟩ := z
  unfold ltM at *
  cases p <;> cases q <;> cases r <;> simp at * <;> omega
theorem ltM_two {x y : Mo} (h1 : ltM x y = false) (h2 : ltM y x = false) : x = y := by
  obtain ⟨p, n⟩ := x
  obtain ⟨q, m⟩ := y
  unfold ltM at *
  cases p <;> cases q <;> simp at * <;> omega
theorem swoM : SWO (ltOf cfM) where
  irrefl x := by rw [lt_cf]; exact ltM_irrefl x
  trans x y z h1 h2 := by rw [lt_cf] at *; exact ltM_trans h1 h2
  ntrans x y z h1 h2 := by rw [lt_cf] at *; exact ltM_ntrans h1 h2
set_option maxHeartbeats 2000000 in
theorem order_any (x y : Mo) (W : World) : Calls Try.prog 36 #[.agg #[.bool x.1, .int .i64 x.2], .agg #[.bool y.1, .int .i64 y.2]] W fun e w' => e = .returned (.int .i64 (cfM x y)) ∧ ∃ q os', w' = grow (W.drewN q) os' := by
  have hcon := fun W' => Try.cmp_Compare_int x.2 y.2 W'
  unfold cfM
  obtain ⟨p, n⟩ := x
  obtain ⟨q, m⟩ := y
  simp only [] at hcon ⊢
  generalize Lib.compareInt n m = r at hcon ⊢
  cases p <;> cases q
  · go_enter Try.func36, Try.ntmps36
    go_wp2_with (go_at_call 39; refine (hcon _).mono ?_; rintro e w' ⟨rfl, rfl⟩)
    go_ret
    exact ⟨rfl, 0, _, by rw [alloc_eq_grow, alloc_eq_grow, grow_grow]; rfl⟩
  · go_enter Try.func36, Try.ntmps36
    go_wp2
    go_ret
    exact ⟨rfl, 0, _, by rw [alloc_eq_grow, alloc_eq_grow, grow_grow]; rfl⟩
  · go_enter Try.func36, Try.ntmps36
    go_wp2
    go_ret
    exact ⟨rfl, 0, _, by rw [alloc_eq_grow, alloc_eq_grow, grow_grow]; rfl⟩
  · go_enter Try.func36, Try.ntmps36
    go_wp2_with (go_at_call 39; refine (hcon _).mono ?_; rintro e w' ⟨rfl, rfl⟩)
    go_ret
    exact ⟨rfl, 0, _, by rw [alloc_eq_grow, alloc_eq_grow, grow_grow]; rfl⟩
/-! ### what is collected -/
structure CollS (s : Nat) (left : Lit → Bool) (acc : List Mo) : Prop where
  nodup : acc.Nodup
  mem : ∀ x, x ∈ acc ↔ ∃ f ∈ tabM, f.1 = x ∧ s.testBit f.2 = true ∧ left (klK Try.prog f.1) = false
theorem CollS.start (s : Nat) {left : Lit → Bool} (h : ∀ f ∈ tabM, left (klK Try.prog f.1) = true) : CollS s left [] := by
  refine ⟨List.nodup_nil, fun x => ⟨fun h => (by cases h), ?_⟩⟩
  rintro ⟨f, hf, _, _, h0⟩
  rw [h f hf] at h0
  cases h0
theorem left_is {left : Lit → Bool} {e : Mo × Nat} (he : e ∈ tabM) (f : Mo × Nat) (hf : f ∈ tabM) : ((fun z => left z && !z.sameKey (klK Try.prog e.1)) (klK Try.prog f.1) = false) ↔ (left (klK Try.prog f.1) = false ∨ f = e) := by
  show (left (klK Try.prog f.1) && !(klK Try.prog f.1).sameKey (klK Try.prog e.1)) = false ↔ _
  have hk := keyedMo.key (klM_is e.1 (tab_wf e he))
  by_cases hfe : f = e
  · subst hfe
    rw [WideAt.sameKey_self hk]
    simp
  · have : (klK Try.prog f.1).sameKey (klK Try.prog e.1) = false := by
      rw [Bool.eq_false_iff]
      intro h
      exact hfe (tab_two _ hf _ he (klM_inj (tab_wf f hf) (tab_wf e he) (WideAt.sameKey_eq h)))
    rw [this]
    simp [hfe]
theorem CollS.more {s : Nat} {left : Lit → Bool} {acc : List Mo} (h : CollS s left acc) {e : Mo × Nat} (he : e ∈ tabM) (hl : left (klK Try.prog e.1) = true) (hs : s.testBit e.2 = true) : CollS s (fun z => left z && !z.sameKey (klK Try.prog e.1)) (acc ++ [e.1]) := by
  refine ⟨?_, fun x => ?_⟩
  · rw [List.nodup_append]
    refine ⟨h.nodup, by simp, fun a ha b hb => ?_⟩
    rw [List.mem_singleton.1 hb]
    rintro rfl
    obtain ⟨f, hf, h1, h2, h3⟩ := (h.mem _).1 ha
    rw [h1, hl] at h3
    cases h3
  · rw [List.mem_append, List.mem_singleton, h.mem]
    constructor
    · rintro (⟨f, hf, h1, h2, h3⟩ | rfl)
      · exact ⟨f, hf, h1, h2, (left_is he f hf).2 (.inl h3)⟩
      · exact ⟨e, he, rfl, hs, (left_is he e he).2 (.inr rfl)⟩
    · rintro ⟨f, hf, h1, h2, h3⟩
      rcases (left_is he f hf).1 h3 with h3 | rfl
      · exact .inl ⟨f, hf, h1, h2, h3⟩
      · exact .inr h1.symm
theorem CollS.same {s : Nat} {left : Lit → Bool} {acc : List Mo} (h : CollS s left acc) {e : Mo × Nat} (he : e ∈ tabM) (hl : left (klK Try.prog e.1) = true) (hs : s.testBit e.2 = false) : CollS s (fun z => left z && !z.sameKey (klK Try.prog e.1)) acc := by
  refine ⟨h.nodup, fun x => ?_⟩
  rw [h.mem]
  constructor
  · rintro ⟨f, hf, h1, h2, h3⟩
    exact ⟨f, hf, h1, h2, (left_is he f hf).2 (.inl h3)⟩
  · rintro ⟨f, hf, h1, h2, h3⟩
    rcases (left_is he f hf).1 h3 with h3 | rfl
    · exact ⟨f, hf, h1, h2, h3⟩
    · rw [hs] at h2
      cases h2
theorem CollS.sorted {s : Nat} {left : Lit → Bool} {acc : List Mo} (h : CollS s left acc) (hl : ∀ kl, left kl = false) : acc.mergeSort (fun x y => !(ltOf cfM) y x) = allM s := by
  have hm : ∀ x, x ∈ acc ↔ x ∈ allM s := fun x => by
    rw [h.mem]
    unfold allM
    constructor
    · rintro ⟨f, hf, rfl, h2, _⟩
      exact List.mem_map.2 ⟨f, List.mem_filter.2 ⟨hf, h2⟩, rfl⟩
    · intro hx
      obtain ⟨f, hf, rfl⟩ := List.mem_map.1 hx
      obtain ⟨h1, h2⟩ := List.mem_filter.1 hf
      exact ⟨f, h1, rfl, h2, hl _⟩
  have hr := all_rising s
  have hn : (allM s).Nodup := by
    refine List.Pairwise.imp (fun {a b} hab => ?_) hr
    rintro rfl
    rw [ltM_irrefl] at hab
    cases hab
  have hp : acc.Perm (allM s) := (List.perm_ext_iff_of_nodup h.nodup hn).2 hm
  have le_tot : ∀ a b : Mo, (!(ltOf cfM) b a || !(ltOf cfM) a b) = true := fun a b => by
    rw [lt_cf, lt_cf]
    cases h1 : ltM b a with
    | false => rfl
    | true =>
      cases h2 : ltM a b with
      | false => rfl
      | true => have := ltM_trans h1 h2; rw [ltM_irrefl] at this; cases this
  have le_tr : ∀ a b c : Mo, (!(ltOf cfM) b a) = true → (!(ltOf cfM) c b) = true → (!(ltOf cfM) c a) = true := fun a b c h1 h2 => by
    rw [lt_cf] at *
    simp only [Bool.not_eq_true'] at *
    exact ltM_ntrans h2 h1
  have s1 := List.pairwise_mergeSort le_tr le_tot acc
  have s2 : (allM s).Pairwise (fun x y => (!(ltOf cfM) y x) = true) := List.Pairwise.imp (fun {a b} hab => by
    rw [lt_cf]
    cases h2 : ltM b a with
    | false => rfl
    | true => have := ltM_trans hab h2; rw [ltM_irrefl] at this; cases this) hr
  refine List.Perm.eq_of_pairwise (fun a b _ _ h1 h2 => ?_) s1 s2 ((List.mergeSort_perm _ _).trans hp)
  rw [lt_cf] at h1 h2
  simp only [Bool.not_eq_true'] at h1 h2
  exact ltM_two h2 h1
theorem CollS.len {s : Nat} {left : Lit → Bool} {acc : List Mo} (h : CollS s left acc) (hl : ∀ kl, left kl = false) : acc.length = (allM s).length := by
  rw [← h.sorted hl, List.length_mergeSort]
/-! ### the sort -/
def encM (x : Mo) : List Value := [.bool x.1, .int .i64 x.2]
theorem flat_at (acc : List Mo) (t : Nat) (h : t < acc.length * 2) : (moL acc)[t]? = some (flatK encM 2 acc.toArray)[t]! := by
  rw [get_flatK _ _ _ _ (by simpa using h)]
  have hi : t / 2 < acc.length := by omega
  have h2 := moL_at acc (t / 2) hi
  have eg : acc.toArray[t / 2]! = acc.getD (t / 2) (false, 0) := by
    rw [List.getD_eq_getElem?_getD, List.getElem?_eq_getElem hi, getElem!_pos acc.toArray (t / 2) (by simpa using hi)]
    simp
  rw [eg]
  unfold encM
  rcases Nat.mod_two_eq_zero_or_one t with h0 | h0
  · rw [h0, show t = t / 2 * 2 by omega, h2.1]
    rw [show t / 2 * 2 / 2 = t / 2 by omega]
    rfl
  · rw [h0, show t = t / 2 * 2 + 1 by omega, h2.2]
    rw [show (t / 2 * 2 + 1) / 2 = t / 2 by omega]
    rfl
theorem holds_own {w : World} {lo g c : Nat} {acc : List Mo} (h : w.ownsRow lo 24 2 (.slice (some ⟨g, 0, none⟩) acc.length c) acc.length (moL acc)) : HoldsK encM 2 w g 0 acc.toArray := by
  intro t ht
  have ht' : t < acc.length * 2 := by simpa using ht
  have hp : (⟨g, 0, none⟩ : Addr).add t = ⟨g, 0 + t, none⟩ := by unfold Addr.add; split <;> simp_all
  refine ⟨?_, ?_⟩
  · have := h.cells (g := g) rfl t _ (flat_at acc t ht')
    rw [hp] at this
    exact this
  · rcases h.2 with ⟨h0, _⟩ | ⟨g', cap, cur, e, _, hg, _⟩
    · cases h0
    · injection e with e _ _
      injection e with e
      injection e with e _
      subst e
      exact frozen_of_row w g _ _ _ hg
theorem moIn_holds {w : World} {g c : Nat} {d : List Mo} (h : HoldsK encM 2 w g 0 d.toArray) (hg : g < w.heap.size) (hl : d.length ≤ 9223372036854775807) : MoIn w (.slice (some ⟨g, 0, none⟩) d.length c) d := by
  refine ⟨_, c, rfl, hl, fun _ => ⟨g, 0, rfl, hg, fun i hi => ?_⟩⟩
  have c0 := (h.cell (i := i) (c := 0) (by simpa using hi) (by decide)).1
  have c1 := (h.cell (i := i) (c := 1) (by simpa using hi) (by decide)).1
  have eg : d.toArray[i]! = d.getD i (false, 0) := by
    rw [List.getD_eq_getElem?_getD, List.getElem?_eq_getElem hi, getElem!_pos d.toArray i (by simpa using hi)]
    simp
  rw [eg] at c0 c1
  exact ⟨c0, c1⟩
theorem sort_below (w : World) (g n : Nat) (d : Array Mo) (os : Array Obj) {B : Nat} (hB : B ≤ g) (hw : B ≤ w.heap.size) : Below B w (sortWorldK encM 2 w g 0 n d os) := by
  unfold sortWorldK grow putRowK putRow mapBlock Sort.ahead
  refine ⟨rfl, rfl, rfl, by simp, fun k hk => ?_⟩
  show (w.heap.modify g _ ++ os)[k]? = _
  rw [Array.getElem?_append_left (by simp; omega), Array.getElem?_modify, if_neg (by omega)]
theorem sort_any (w : World) (lo g c : Nat) (acc : List Mo) (h : w.ownsRow lo 24 2 (.slice (some ⟨g, 0, none⟩) acc.length c) acc.length (moL acc)) (hl : acc.length ≤ 13) :
    Calls Try.prog 35 #[.slice (some ⟨g, 0, none⟩) acc.length c, .func (.func 36) #[] #[]] w fun e w' => e = .returned (.tuple #[]) ∧ MoIn w' (.slice (some ⟨g, 0, none⟩) acc.length c) (acc.mergeSort (fun x y => !(ltOf cfM) y x)) ∧ Below lo w w' := by
  have hg := h.lt g rfl
  have eg : ∀ args w, (callFunc 36 args).run Try.prog w = .ok (.enter 36 args) w := enters_of Try.func36 (by kernel_rfl) rfl
  have hH := holds_own h
  have hcon := AnyQ.slices_SortFunc_total Try.laysSlF06_f35 2 Try.isAgg24 Try.sizeOf24 encM (fun _ => rfl) (fun x v hv => by simp [encM] at hv; rcases hv with rfl | rfl <;> rfl) cfM swoM 36 #[] g 0 c acc.toArray w eg (fun m os dk _ x y => order_any x y _) hH hg.2 (by simp; omega) (fun x y h1 h2 => ltM_two (by rw [← lt_cf]; exact h1) (by rw [← lt_cf]; exact h2))
  have hs : acc.toArray.size = acc.length := by simp
  rw [hs] at hcon
  refine Calls.mono hcon ?_
  rintro e w' ⟨rfl, n, os, rfl⟩
  refine ⟨rfl, ?_, sort_below w g n _ os hg.1 (by omega)⟩
  have hsz : (acc.mergeSort (fun x y => !(ltOf cfM) y x)).length = acc.length := List.length_mergeSort _
  rw [← hsz]
  refine moIn_holds ?_ ?_ (by omega)
  · unfold sortWorldK
    refine holdsK_grow _ _ _ _ _ _ _ (by rw [size_putRowK]; exact hg.2) ?_
    exact holdsK_putRowK _ _ _ _ _ acc.toArray _ (holdsK_ahead _ _ _ _ _ _ _ hH) (by simp)
  · unfold sortWorldK grow
    show g < ((putRowK encM 2 (Sort.ahead w n) g 0 _).heap ++ os).size
    rw [Array.size_append, size_putRowK]
    have : (Sort.ahead w n).heap.size = w.heap.size := rfl
    omega
end Go.Proofs.Ytjdfinimbdcmbaa.Lab
