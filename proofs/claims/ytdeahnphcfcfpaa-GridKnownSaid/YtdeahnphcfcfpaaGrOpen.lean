/- A grid of whole rows stays one; does, of every step. The law's texts and letters. What the arguments of the statements of package grid read as: drafts of grids, steps. -/
import Derived.Test.YtdeahnphcfcfpaaGrDoB
import Derived.Test.YtdeahnphcfcfpaaGrDoK
import Derived.Test.YtdeahnphcfcfpaaGgGood
import Derived.Test.YtdeahnphcfcfpaaShelf
import Derived.ProofKit
import Derived.OpenShut
import Derived.Deep.Slices
import Derived.Lib.SmallJoins
import Derived.Laws.IdiomArrays
namespace Go.Proofs.Ytdeahnphcfcfpaa.Lab
open Go Go.RowKit

abbrev Rw (m : Nat) (R : Cls) : Prop := Wh R ∧ R.length = m ∧ Lv R
theorem Good.of {G G' : List Cls} {m : Nat} (g : Good G m) (hl : G'.length = G.length) (h : ∀ R ∈ G', Rw m R) : Good G' m :=
  ⟨h, by rw [hl]; exact g.n0, by rw [hl]; exact g.n1, g.m0, g.m1⟩
theorem Good.put {G : List Cls} {m i : Nat} {R : Cls} (g : Good G m) (h : Rw m R) : Good (G.set i R) m :=
  g.of (List.length_set ..) fun Q hQ => by
    rcases List.mem_or_eq_of_mem_set hQ with q | q
    · exact g.row Q q
    · rw [q]; exact h
theorem Good.edit {G : List Cls} {m : Nat} (g : Good G m) (r c : Int) {f : Cls → Cls} (hf : ∀ R, Rw m R → Rw m (f R)) : Good (editG G m r c f) m := by
  unfold editG
  split
  · rename_i h
    rw [Bool.and_eq_true] at h
    obtain ⟨i, rfl, hi⟩ := isInB_true h.1
    exact g.put (hf _ (g.row _ (rowG_mem hi)))
  · exact g
theorem Good.erase {G : List Cls} {m : Nat} (g : Good G m) (r : Int) {f : Cls → Cls} (hf : ∀ R, Rw m R → Rw m (f R)) : Good (eraseG G r f) m := by
  unfold eraseG
  split
  · rename_i h
    obtain ⟨i, rfl, hi⟩ := isInB_true h
    exact g.put (hf _ (g.row _ (rowG_mem hi)))
  · exact g
theorem mem_wu {G : List Cls} {t b n : Nat} {R : Cls} (h : R ∈ wentUp G t b n) : R ∈ G := List.mem_of_mem_drop (List.mem_of_mem_take (List.mem_of_mem_take h))
theorem mem_wd {G : List Cls} {t b n : Nat} {R : Cls} (h : R ∈ wentDown G t b n) : R ∈ G := List.mem_of_mem_drop (List.mem_of_mem_take (List.mem_of_mem_drop h))
theorem mem_up {G : List Cls} {t b n : Nat} {e R : Cls} (h : R ∈ upM G t b n e) : R ∈ G ∨ R = e := by
  unfold upM at h
  simp only [List.mem_append] at h
  rcases h with (h | h | h) | h
  · exact .inl (List.mem_of_mem_take h)
  · exact .inl (List.mem_of_mem_drop (List.mem_of_mem_take (List.mem_of_mem_drop h)))
  · exact .inr (List.eq_of_mem_replicate h)
  · exact .inl (List.mem_of_mem_drop h)
theorem mem_down {G : List Cls} {t b n : Nat} {e R : Cls} (h : R ∈ downM G t b n e) : R ∈ G ∨ R = e := by
  unfold downM at h
  simp only [List.mem_append] at h
  rcases h with (h | h | h) | h
  · exact .inl (List.mem_of_mem_take h)
  · exact .inr (List.eq_of_mem_replicate h)
  · exact .inl (List.mem_of_mem_drop (List.mem_of_mem_take (List.mem_of_mem_take h)))
  · exact .inl (List.mem_of_mem_drop h)
theorem newM_rw (m : Nat) {b : Cel} (hk : b.k = 0) (hl : b.l = 0 ∨ b.l = 1) : Rw m (newM m b) := ⟨Wh.rep m hk, len_newM m b, Lv.rep m hl⟩
theorem Good.up {G : List Cls} {m : Nat} (g : Good G m) (t b n : Int) {x : Cel} (hk : x.k = 0) (hl : x.l = 0 ∨ x.l = 1) : Good (upG G m t b n x) m := by
  unfold upG
  split
  · rename_i h
    obtain ⟨i, j, rfl, rfl, hij, hj⟩ := regB_true h
    refine g.of (len_up (by omega) (by omega) (by omega) _) fun R hR => ?_
    rcases mem_up hR with q | q
    · exact g.row R q
    · rw [q]; exact newM_rw m hk hl
  · exact g
theorem Good.down {G : List Cls} {m : Nat} (g : Good G m) (t b n : Int) {x : Cel} (hk : x.k = 0) (hl : x.l = 0 ∨ x.l = 1) : Good (downG G m t b n x) m := by
  unfold downG
  split
  · rename_i h
    obtain ⟨i, j, rfl, rfl, hij, hj⟩ := regB_true h
    refine g.of (len_down (by omega) (by omega) (by omega) _) fun R hR => ?_
    rcases mem_down hR with q | q
    · exact g.row R q
    · rw [q]; exact newM_rw m hk hl
  · exact g
theorem blS_k (s : St) : (blS s).k = 0 := rfl
theorem blS_l (s : St) : (blS s).l = 0 ∨ (blS s).l = 1 := celD_lv s.cell
theorem actX_l (s : St) : (actX s).l = 0 ∨ (actX s).l = 1 := by
  unfold actX
  split <;> exact celD_lv s.cell
theorem actX_k {s : St} (h : ¬ s.what % 6 < 2) : (actX s).k = 0 := by
  unfold actX
  rw [if_neg h]
  rfl
theorem act_good {G : List Cls} {m : Nat} (g : Good G m) (s : St) (r cl n : Int) : Good (actG m G (s.what % 6) r cl n (actX s)) m := by
  have hl := actX_l s
  unfold actG
  split
  · exact g.edit _ _ fun R h => ⟨h.1.putP _ _ _, by rw [len_putP]; exact h.2.1, h.2.2.putP _ hl _⟩
  · exact g.edit _ _ fun R h => ⟨h.1.putP _ _ _, by rw [len_putP]; exact h.2.1, h.2.2.putP _ hl _⟩
  · exact g.edit _ _ fun R h => ⟨h.1.mark _ _ _, by rw [len_mark]; exact h.2.1, h.2.2.mark _ _ hl⟩
  · rename_i hq
    have hk := actX_k (s := s) (by omega)
    exact g.edit _ _ fun R h => ⟨h.1.ins hk (in2 _ _ _), by rw [len_insert]; exact h.2.1, h.2.2.insert _ _ hl⟩
  · rename_i hq
    have hk := actX_k (s := s) (by omega)
    exact g.edit _ _ fun R h => ⟨h.1.del hk, by rw [len_delete]; exact h.2.1, h.2.2.delete _ _ hl⟩
  · rename_i h0 h1 h2 h3 h4
    have hk := actX_k (s := s) (by intro hlt; have e : s.what % 6 = 0 ∨ s.what % 6 = 1 := by omega
                                   exact e.elim h0 h1)
    exact g.erase _ fun R h => ⟨h.1.eraseP _ _ hk, by rw [len_eraseP]; exact h.2.1, h.2.2.eraseP _ _ hl⟩
theorem act_len {G : List Cls} {m : Nat} (k : Nat) (r cl n : Int) (x : Cel) : (actG m G k r cl n x).length = G.length := by
  have he : ∀ f : Cls → Cls, (editG G m r cl f).length = G.length := fun f => by unfold editG; split <;> simp
  have hx : ∀ f : Cls → Cls, (eraseG G r f).length = G.length := fun f => by unfold eraseG; split <;> simp
  unfold actG
  split
  all_goals first | exact he _ | exact hx _
theorem res_good {G : List Cls} {m r cl : Nat} (g : Good G m) (hc : canB (r : Nat) (cl : Nat) = true) {b : Cel} (hk : b.k = 0) (hl : b.l = 0 ∨ b.l = 1) : Good (resG G r cl b (min G.length r)) cl ∧ (resG G r cl b (min G.length r)).length = r := by
  have hcc : 1 ≤ r ∧ r ≤ 512 ∧ 1 ≤ cl ∧ cl ≤ 512 := by
    obtain ⟨n', m', e1, e2, _⟩ := canB_true hc
    omega
  have hlen : (resG G r cl b (min G.length r)).length = r := by
    unfold resG
    rw [List.length_append, List.length_map, List.length_take, List.length_replicate]
    omega
  refine ⟨⟨fun R hR => ?_, by omega, by omega, by omega, by omega⟩, hlen⟩
  unfold resG at hR
  rcases List.mem_append.1 hR with q | q
  · obtain ⟨Q, hQ, rfl⟩ := List.mem_map.1 q
    obtain ⟨h1, h2, h3⟩ := g.row Q (List.mem_of_mem_take hQ)
    refine ⟨h1.res hk, ?_, h3.resize _ hl⟩
    unfold resizeM
    rw [len_res, Int.toNat_natCast]
  · rw [List.eq_of_mem_replicate q]
    exact newM_rw cl hk hl
theorem does_good {G : List Cls} {m : Nat} (s : St) (g : Good G m) : Good (doesG s m G) (widthS s m) := by
  unfold doesG widthS
  split
  · rw [if_neg (by omega)]; exact g.up _ _ _ (blS_k s) (blS_l s)
  · rw [if_neg (by omega)]; exact g.down _ _ _ (blS_k s) (blS_l s)
  · rw [if_neg (by omega)]
    refine g.of (List.length_map ..) fun R hR => ?_
    obtain ⟨Q, hQ, rfl⟩ := List.mem_map.1 hR
    obtain ⟨h1, h2, h3⟩ := g.row Q hQ
    exact ⟨h1.raise _, by rw [len_raise]; exact h2, h3.raise (blS_l s)⟩
  · rename_i h9
    split
    · rename_i hc
      rw [if_pos ⟨h9, hc⟩]
      exact (res_good g hc (blS_k s) (blS_l s)).1
    · rename_i hc
      rw [if_neg (fun e => hc e.2)]
      exact g
  · rename_i h6 h7 h8 h9
    rw [if_neg (fun e => h9 e.1)]
    exact act_good g s _ _ _
theorem up_len (G : List Cls) (m : Nat) (t b n : Int) (x : Cel) : (upG G m t b n x).length = G.length := by
  unfold upG
  split
  · rename_i h
    obtain ⟨i, j, rfl, rfl, hij, hj⟩ := regB_true h
    exact len_up (by omega) (by omega) (by omega) _
  · rfl
theorem down_len (G : List Cls) (m : Nat) (t b n : Int) (x : Cel) : (downG G m t b n x).length = G.length := by
  unfold downG
  split
  · rename_i h
    obtain ⟨i, j, rfl, rfl, hij, hj⟩ := regB_true h
    exact len_down (by omega) (by omega) (by omega) _
  · rfl
theorem does_size {G : List Cls} {m : Nat} (s : St) (h9 : s.what % 10 ≠ 9) : (doesG s m G).length = G.length ∧ widthS s m = m := by
  refine ⟨?_, by unfold widthS; rw [if_neg (fun e => h9 e.1)]⟩
  unfold doesG
  split
  · exact up_len ..
  · exact down_len ..
  · exact List.length_map ..
  · exact absurd (by assumption) h9
  · exact act_len ..
theorem does_res {G : List Cls} {m : Nat} (s : St) (g : Good G m) (h9 : s.what % 10 = 9) (hn : 0 < s.n % 12) (hm : 0 < s.m % 24) : (doesG s m G).length = s.n % 12 ∧ widthS s m = s.m % 24 := by
  have hc : canB (s.n % 12 : Nat) (s.m % 24 : Nat) = true := by unfold canB; simp; omega
  have e1 : doesG s m G = resG G (s.n % 12) (s.m % 24) (blS s) (min G.length (s.n % 12)) := by
    unfold doesG
    rw [h9]
    exact if_pos hc
  have e2 : widthS s m = s.m % 24 := by
    unfold widthS
    exact if_pos ⟨h9, hc⟩
  rw [e1, e2]
  exact ⟨(res_good g hc (blS_k s) (blS_l s)).2, rfl⟩
theorem went_good {G : List Cls} {m : Nat} (s : St) (g : Good G m) : (wentS s G).length ≤ 520 ∧ ∀ R ∈ wentS s G, Rw m R := by
  unfold wentS
  split
  · unfold wentU
    split
    · refine ⟨?_, fun R hR => g.row R (mem_wu hR)⟩
      have := g.n1
      unfold wentUp
      rw [List.length_take, List.length_take, List.length_drop]
      omega
    · exact ⟨Nat.zero_le _, fun R hR => by cases hR⟩
  · unfold wentD
    split
    · refine ⟨?_, fun R hR => g.row R (mem_wd hR)⟩
      have := g.n1
      unfold wentDown
      rw [List.length_drop, List.length_take, List.length_drop]
      omega
    · exact ⟨Nat.zero_le _, fun R hR => by cases hR⟩
  · exact ⟨Nat.zero_le _, fun R hR => by cases hR⟩
theorem does_any (w : World) (lo p rb c m : Nat) (G : List Cls) (s : St) (hs : s.ok) (h : Gg w lo p rb c G) (gd : Good G m) (hlo : lo ≤ w.heap.size) : DoesS w lo p rb m G s := by
  by_cases h6 : s.what % 10 = 6
  · exact does6 w lo p rb c m G s hs h gd hlo h6
  by_cases h7 : s.what % 10 = 7
  · exact does7 w lo p rb c m G s hs h gd hlo h7
  by_cases h8 : s.what % 10 = 8
  · exact does8 w lo p rb c m G s hs h gd hlo h8
  by_cases h9 : s.what % 10 = 9
  · cases hc : canB (s.n % 12 : Nat) (s.m % 24 : Nat) with
    | true => exact does9y w lo p rb c m G s hs h gd hlo h9 hc
    | false => exact does9n w lo p rb c m G s hs h gd hlo h9 hc
  have he : s.what % 10 < 6 := by omega
  have hk : s.what % 6 = 0 ∨ s.what % 6 = 1 ∨ s.what % 6 = 2 ∨ s.what % 6 = 3 ∨ s.what % 6 = 4 ∨ s.what % 6 = 5 := by omega
  rcases hk with k | k | k | k | k | k
  · exact doesK0 w lo p rb c m G s hs h gd hlo he k
  · exact doesK1 w lo p rb c m G s hs h gd hlo he k
  · exact doesK2 w lo p rb c m G s hs h gd hlo he k
  · exact doesK3 w lo p rb c m G s hs h gd hlo he k
  · exact doesK4 w lo p rb c m G s hs h gd hlo he k
  · exact doesK5 w lo p rb c m G s hs h gd hlo he k

def baOf (R : Cls) : ByteArray := ⟨(textM R).toArray⟩
theorem join_text (w : World) (v : Value) (H : List Hd) (lo : Nat) (hown : w.ownsRow lo 9 1 v H.length (textsOf H)) (h0 : 0 < H.length) (hl : H.length ≤ 600) (hlen : (Lib.join ((H.map (·.R)).map textM) [124]).length ≤ 100000) :
    Calls Try.prog 65 #[v, .string ⟨#[124]⟩] w fun e w' => e = .returned (.string ⟨(Lib.join ((H.map (·.R)).map textM) [124]).toArray⟩) ∧ Below w.heap.size w w' := by
  rcases hown.2 with ⟨_, e⟩ | ⟨g, cap, cur, rfl, hb, hg, hnc, _⟩
  · omega
  have hx : ((H.map fun x => baOf x.R).map (·.data.toList)) = (H.map (·.R)).map textM := by
    rw [List.map_map, List.map_map]
    rfl
  have := Try.strings_Join g 0 cap (H.map fun x => baOf x.R) ⟨#[124]⟩ w (fun j x hj => by
    have hjl : j < H.length := by
      have := (List.getElem?_eq_some_iff.1 hj).1
      simpa using this
    have hc := hown.cells (g := g) rfl j (.string x) (by
      unfold textsOf
      rw [List.getElem?_map, List.getElem?_eq_getElem hjl] at hj ⊢
      rw [Option.map_some] at hj ⊢
      injection hj with hj
      rw [← hj]
      rfl)
    rwa [Addr.add_mid] at hc) (Array.getElem?_eq_some_iff.1 hg).1 (by rw [List.length_map]; omega) (by rw [List.length_map]; exact hnc) (by rw [hx]; show (Lib.join _ [124]).length ≤ _; omega)
  rw [hx, List.length_map] at this
  exact this
theorem texts_any (w : World) (lo p rb c m q k cap : Nat) (G : List Cls) (ws : List ByteArray) (h : Gg w lo p rb c G) (g : Good G m) (ht : ∀ R ∈ G, TxtOk R) (hk : ws.length = k) (hq : q < w.heap.size) (hw : ∀ (j : Nat) x, ws[j]? = some x → w.cell? ⟨q, j, none⟩ = some (.string x)) (hcap : k ≤ cap) (hk2 : k ≤ 100)
    (heq : Lib.join (G.map textM) [124] = Lib.join (ws.map (·.data.toList)) [124]) (hlen : (Lib.join (G.map textM) [124]).length ≤ 100000) :
    Calls Try.prog 33 #[gV p, .slice (some ⟨q, 0, none⟩) k cap] w fun e w' => e = .returned (.bool true) ∧ Below w.heap.size w w' := by
  obtain ⟨H, h1, h2⟩ := h
  have n0 := g.n0
  have n1 := g.n1
  have hl : H.length = G.length := by rw [← h2, List.length_map]
  have HT := Lib.hid (gtext_any w lo p rb c H h1 (by omega) (fun x hx => ⟨ht _ (by rw [← h2]; exact List.mem_map_of_mem hx), by have := (g.row x.R (by rw [← h2]; exact List.mem_map_of_mem hx)).2.1; have := g.m1; omega⟩))
  obtain ⟨L, hL⟩ : ∃ L, L = Lib.join (G.map textM) [124] := ⟨_, rfl⟩
  have HJ := Lib.hid (show ∀ (W : World) (v : Value), W.ownsRow w.heap.size 9 1 v H.length (textsOf H) → Calls Try.prog 65 #[v, .string ⟨#[124]⟩] W fun e w' => e = .returned (.string ⟨L.toArray⟩) ∧ Below W.heap.size W w' from fun W v hv => by
    have := join_text W v H _ hv (by omega) (by omega) (by rw [h2]; exact hlen)
    rwa [h2, ← hL] at this)
  have HW := Lib.hid (show ∀ W : World, Below w.heap.size w W → Calls Try.prog 65 #[.slice (some ⟨q, 0, none⟩) k cap, .string ⟨#[124]⟩] W fun e w' => e = .returned (.string ⟨L.toArray⟩) ∧ Below W.heap.size W w' from fun W hb => by
    have := Try.strings_Join q 0 cap ws ⟨#[124]⟩ W (fun j x hj => by rw [Nat.zero_add]; exact (hb.cell (p := ⟨q, j, none⟩) hq).trans (hw j x hj)) (Nat.lt_of_lt_of_le hq hb.size) (by omega) (by omega) (by show (Lib.join _ [124]).length ≤ _; rw [← heq]; omega)
    rw [hk] at this
    rw [hL, heq]
    exact this)
  clear h1 h2 g ht hk hq hw hcap heq hlen hL n0 n1 hl
  go_enter Try.func33, Try.ntmps33
  go_wp2_with fail
  refine HT.out.mono ?_
  rintro e w1 ⟨v, rfl, ow, b1⟩
  have HB1 := Lib.hid b1
  have C2 := Lib.hid (HJ.out w1 v ow)
  clear ow b1 HT
  go_wp2_with fail
  refine C2.out.mono ?_
  rintro e w2 ⟨rfl, b2⟩
  have HB2 := Lib.hid (HB1.out.trans (b2.mono HB1.out.size))
  clear b2 C2
  go_wp2_with fail
  refine (HW.out w2 HB2.out).mono ?_
  rintro e w3 ⟨rfl, b3⟩
  have HB3 := Lib.hid (HB2.out.trans (b3.mono HB2.out.size))
  clear b3 HW HJ
  go_wp2
  go_ret
  exact ⟨by simp, HB3.out⟩
/-! ### letters("abc") -/
/-- A row of one letter. -/
def leR (x : Int) : Cls := [⟨x, 0, 0, 0, ⟨Cl.zero, Cl.zero, 0⟩, 0⟩, Cel.z]
def blR : Cls := [Cel.z, Cel.z]
theorem gnew (w : World) (r c : Nat) (b : Cel) (h : canB (r : Nat) (c : Nat) = true) : Calls Try.prog 9 #[.int .i64 (r : Nat), .int .i64 (c : Nat), celV b] w fun e w' => ∃ p rb cc, e = .returned (gV p) ∧ Gg w' w.heap.size p rb cc (List.replicate r (newM c b)) ∧ Below w.heap.size w w' := by
  refine (gnew_any w (r : Nat) (c : Nat) b h).mono ?_
  rintro e w' ⟨p, rb, cc, F, rfl, hg, hm, _, hb⟩
  exact ⟨p, rb, cc, rfl, ⟨F, hg, by rw [hm, Int.toNat_natCast, Int.toNat_natCast]⟩, hb⟩

open Go Go.RowKit Go.ChangeShapes Go.WideShapes Go.Deep Go.Lib Go.Joins

theorem n_u8 {n : Int} (h : (Lit.int .u8 n).wf = true) : ∃ m : Nat, n = m ∧ m < 256 := by
  have h1 : 0 ≤ n ∧ n ≤ 255 := by
    simp [Lit.wf, IntKind.min, IntKind.max, IntKind.bits, IntKind.signed] at h
    omega
  exact ⟨n.toNat, by omega, by omega⟩
instance : Inhabited Dc := ⟨Dc.z⟩
abbrev St.z : St := ⟨0, 0, 0, 0, 0, Dc.z, false⟩
instance : Inhabited St := ⟨St.z⟩
/-- A slice of steps, as it comes in. -/
def S11 (w : World) (b o : Nat) (a : St) : Prop := w.cell? ⟨b, o, none⟩ = some (.int .u8 (a.what : Nat)) ∧ w.cell? ⟨b, o + 1, none⟩ = some (.int .u8 (a.row : Nat)) ∧ w.cell? ⟨b, o + 2, none⟩ = some (.int .u8 (a.col : Nat)) ∧ w.cell? ⟨b, o + 3, none⟩ = some (.int .u8 (a.n : Nat)) ∧ w.cell? ⟨b, o + 4, none⟩ = some (.int .u8 (a.m : Nat)) ∧ w.cell? ⟨b, o + 5, none⟩ = some (.int .u8 (a.cell.ru : Nat)) ∧ w.cell? ⟨b, o + 6, none⟩ = some (.int .u8 (a.cell.ms : Nat)) ∧ w.cell? ⟨b, o + 7, none⟩ = some (.int .u8 (a.cell.at1 : Nat)) ∧ w.cell? ⟨b, o + 8, none⟩ = some (.bool a.cell.wide) ∧ w.cell? ⟨b, o + 9, none⟩ = some (.bool a.cell.high) ∧ w.cell? ⟨b, o + 10, none⟩ = some (.bool a.odd)
def StsIn (w : World) (a : Option Addr) (len : Nat) (T : Nat → St) : Prop := len ≤ maxLen ∧ (∀ i, i < len → (T i).ok) ∧ (0 < len → ∃ b off, a = some ⟨b, off, none⟩ ∧ b < w.heap.size ∧ ∀ i, i < len → S11 w b (off + i * 11) (T i))
theorem StsIn.below {w w' : World} {a : Option Addr} {len : Nat} {T : Nat → St} (h : StsIn w a len T) (hb : Below w.heap.size w w') : StsIn w' a len T := by
  refine ⟨h.1, h.2.1, fun h0 => ?_⟩
  obtain ⟨b, off, e, hlt, hc⟩ := h.2.2 h0
  refine ⟨b, off, e, Nat.lt_of_lt_of_le hlt hb.size, fun i hi => ?_⟩
  obtain ⟨q0, q1, q2, q3, q4, q5, q6, q7, q8, q9, q10⟩ := hc i hi
  have k : ∀ o, w'.cell? ⟨b, o, none⟩ = w.cell? ⟨b, o, none⟩ := fun o => World.cell?_of_block (a := ⟨b, o, none⟩) (hb.block b hlt)
  exact ⟨(k _).trans q0, (k _).trans q1, (k _).trans q2, (k _).trans q3, (k _).trans q4, (k _).trans q5, (k _).trans q6, (k _).trans q7, (k _).trans q8, (k _).trans q9, (k _).trans q10⟩
theorem list5 {α : Type} {cs : List α} (h : cs.length = 5) : ∃ c0 c1 c2 c3 c4, cs = [c0, c1, c2, c3, c4] := by
  match cs, h with
  | [c0, c1, c2, c3, c4], _ => exact ⟨c0, c1, c2, c3, c4, rfl⟩
theorem list11 {α : Type} {cs : List α} (h : cs.length = 11) : ∃ c0 c1 c2 c3 c4 c5 c6 c7 c8 c9 c10, cs = [c0, c1, c2, c3, c4, c5, c6, c7, c8, c9, c10] := by
  match cs, h with
  | [c0, c1, c2, c3, c4, c5, c6, c7, c8, c9, c10], _ => exact ⟨c0, c1, c2, c3, c4, c5, c6, c7, c8, c9, c10, rfl⟩
section
variable {H : Type} (enc : TypeId × Value → H) (base : Nat) (W : World)
set_option maxRecDepth 100000 in
theorem draft_at {n : Nat} {cs : List Value} {x : DataW H × List MemPlace} (h : DataW.trod enc Try.prog W 0 (fun _ => true) true n 65 cs = some x) :
    ∃ d : Dc, cs = [.int .u8 (d.ru : Nat), .int .u8 (d.ms : Nat), .int .u8 (d.at1 : Nat), .bool d.wide, .bool d.high] ∧ d.ok := by
  obtain ⟨xs, m, _, _, hl, hlen, hq⟩ := DataW.trod_struct Try.underlying65 h
  obtain ⟨c0, c1, c2, c3, c4, rfl⟩ := list5 (hl.trans (by kernel_rfl))
  have q1 : Try.prog.cellsOf 5 = 1 := by kernel_rfl
  have q2 : Try.prog.cellsOf 4 = 1 := by kernel_rfl
  match xs, hlen with
  | [y0, y1, y2, y3, y4], _ =>
    have h0 : DataW.trod enc Try.prog W 0 (fun _ => true) true m 5 (([c0, c1, c2, c3, c4].drop 0).take (Try.prog.cellsOf 5)) = some y0 := hq 0 _ rfl
    rw [q1] at h0
    replace h0 : DataW.trod enc Try.prog W 0 (fun _ => true) true m 5 [c0] = some y0 := h0
    have h1 : DataW.trod enc Try.prog W 0 (fun _ => true) true m 5 (([c0, c1, c2, c3, c4].drop 1).take (Try.prog.cellsOf 5)) = some y1 := hq 1 _ rfl
    rw [q1] at h1
    replace h1 : DataW.trod enc Try.prog W 0 (fun _ => true) true m 5 [c1] = some y1 := h1
    have h2 : DataW.trod enc Try.prog W 0 (fun _ => true) true m 5 (([c0, c1, c2, c3, c4].drop 2).take (Try.prog.cellsOf 5)) = some y2 := hq 2 _ rfl
    rw [q1] at h2
    replace h2 : DataW.trod enc Try.prog W 0 (fun _ => true) true m 5 [c2] = some y2 := h2
    have h3 : DataW.trod enc Try.prog W 0 (fun _ => true) true m 4 (([c0, c1, c2, c3, c4].drop 3).take (Try.prog.cellsOf 4)) = some y3 := hq 3 _ rfl
    rw [q2] at h3
    replace h3 : DataW.trod enc Try.prog W 0 (fun _ => true) true m 4 [c3] = some y3 := h3
    have h4 : DataW.trod enc Try.prog W 0 (fun _ => true) true m 4 (([c0, c1, c2, c3, c4].drop 4).take (Try.prog.cellsOf 4)) = some y4 := hq 4 _ rfl
    rw [q2] at h4
    replace h4 : DataW.trod enc Try.prog W 0 (fun _ => true) true m 4 [c4] = some y4 := h4
    obtain ⟨u0, e0, _, w0⟩ := DataW.trod_int Try.underlying5 h0
    obtain ⟨u1, e1, _, w1⟩ := DataW.trod_int Try.underlying5 h1
    obtain ⟨u2, e2, _, w2⟩ := DataW.trod_int Try.underlying5 h2
    obtain ⟨u3, e3, _⟩ := DataW.trod_bool Try.underlying4 h3
    obtain ⟨u4, e4, _⟩ := DataW.trod_bool Try.underlying4 h4
    simp at e0 e1 e2 e3 e4
    subst e0 e1 e2 e3 e4
    obtain ⟨a, rfl, ha⟩ := n_u8 w0
    obtain ⟨b, rfl, hb⟩ := n_u8 w1
    obtain ⟨c, rfl, hc⟩ := n_u8 w2
    exact ⟨⟨a, b, c, u3, u4⟩, rfl, ha, hb, hc⟩
set_option maxRecDepth 100000 in
theorem open_ds {n : Nat} {c : Value} {x : DataW H × List MemPlace} (h : DataW.trod enc Try.prog W 0 (fun _ => true) true n 89 [c] = some x) : ∃ L, DsIn W c L := by
  rcases open_slice Try.underlying89 h with ⟨hcs, _⟩ | ⟨x, len, cap, m, n, D, Pl, hcs, _, hl, hm, hmm, _, hx⟩
  · obtain rfl : c = .slice none 0 0 := by simpa using hcs
    exact ⟨[], none, 0, rfl, Nat.zero_le _, fun d hd => by simp at hd, fun h => by simp at h⟩
  · obtain rfl : c = .slice (some x) len cap := by simpa using hcs
    simp at hmm
    subst hmm
    have q5 : Try.prog.cellsOf 65 = 5 := by kernel_rfl
    rw [q5] at hx
    have hall : ∀ i, i < len → ∃ d : Dc, (W.cell? (x.add (i * 5)) = some (.int .u8 (d.ru : Nat)) ∧ W.cell? ((x.add (i * 5)).add 1) = some (.int .u8 (d.ms : Nat)) ∧ W.cell? ((x.add (i * 5)).add 2) = some (.int .u8 (d.at1 : Nat)) ∧ W.cell? ((x.add (i * 5)).add 3) = some (.bool d.wide) ∧ W.cell? ((x.add (i * 5)).add 4) = some (.bool d.high)) ∧ d.ok := by
      intro i hi
      obtain ⟨cs', h1, h2⟩ := hx i (by omega)
      obtain ⟨y, rfl, hy⟩ := draft_at enc W h2
      obtain ⟨_, _, hc⟩ := World.cells?_some h1
      refine ⟨y, ⟨?_, ?_, ?_, ?_, ?_⟩, hy⟩
      · simpa [Addr.add] using hc 0 (by simp)
      · exact hc 1 (by simp)
      · exact hc 2 (by simp)
      · exact hc 3 (by simp)
      · exact hc 4 (by simp)
    obtain ⟨T, hT⟩ := choose_lt hall
    have eg : ∀ i, i < len → ((List.range len).map T).getD i Dc.z = T i := fun i hi => by simp [List.getD_eq_getElem?_getD, hi]
    refine ⟨(List.range len).map T, some x, m, by simp, by simp; omega, fun d hd => ?_, fun h0 => ?_⟩
    · obtain ⟨i, hi, rfl⟩ := List.mem_map.1 hd
      exact (hT i (List.mem_range.1 hi)).2
    · simp only [List.length_map, List.length_range] at h0 ⊢
      obtain ⟨b, off, spot⟩ := x
      have hspot : spot = none := by simpa [Addr.add] using World.cell?_spot (hT 0 (by omega)).1.1
      subst hspot
      have hc := fun i (hi : i < len) => (hT i hi).1
      simp only [Go.WideShapes.add_plain] at hc
      refine ⟨b, off, rfl, World.block_lt_of_cell? (a := ⟨b, off + 0 * 5, none⟩) W (hc 0 (by omega)).1, fun i hi => ?_⟩
      rw [eg i hi]
      exact hc i hi
set_option maxRecDepth 100000 in
theorem open_dss {v : Value} {d : DataW H} {p : List MemPlace} (ok : Value.okWide Try.prog W .any base 89 v) (k : DataW.Trod enc Try.prog W 0 (fun _ => true) true 89 v d p) : ∃ L, DsIn W v L := by
  obtain ⟨a0, len0, cap0, rfl⟩ := okWide_slice Try.underlying89 ok
  obtain ⟨fuel, hf⟩ := k
  exact open_ds enc W hf
set_option maxRecDepth 100000 in
theorem line_at {n : Nat} {cs : List Value} {x : DataW H × List MemPlace} (h : DataW.trod enc Try.prog W 0 (fun _ => true) true n 91 cs = some x) :
    ∃ (c u : Value) (L : List Dc), cs = [c, u] ∧ DsIn W u L := by
  obtain ⟨xs, m, _, _, hl, hlen, hq⟩ := DataW.trod_struct Try.underlying91 h
  match cs, hl.trans (show Try.prog.cellsOf 91 = 2 by kernel_rfl), xs, hlen with
  | [c0, c1], _, [y0, y1], _ =>
    have q2 : Try.prog.cellsOf 89 = 1 := by kernel_rfl
    have h1 : DataW.trod enc Try.prog W 0 (fun _ => true) true m 89 (([c0, c1].drop 1).take (Try.prog.cellsOf 89)) = some y1 := hq 1 _ rfl
    rw [q2] at h1
    replace h1 : DataW.trod enc Try.prog W 0 (fun _ => true) true m 89 [c1] = some y1 := h1
    obtain ⟨L, hL⟩ := open_ds enc W h1
    exact ⟨c0, c1, L, rfl, hL⟩
set_option maxRecDepth 100000 in
theorem open_lns {n : Nat} {c : Value} {x : DataW H × List MemPlace} (h : DataW.trod enc Try.prog W 0 (fun _ => true) true n 22 [c] = some x) : ∃ LL, LnsIn W c LL := by
  rcases open_slice Try.underlying22 h with ⟨hcs, _⟩ | ⟨x, len, cap, m, n, D, Pl, hcs, _, hl, hm, hmm, _, hx⟩
  · obtain rfl : c = .slice none 0 0 := by simpa using hcs
    exact ⟨[], none, 0, rfl, Nat.zero_le _, fun h => by simp at h⟩
  · obtain rfl : c = .slice (some x) len cap := by simpa using hcs
    simp at hmm
    subst hmm
    have q5 : Try.prog.cellsOf 91 = 2 := by kernel_rfl
    rw [q5] at hx
    have hall : ∀ i, i < len → ∃ L : List Dc, ∃ c u : Value, (W.cell? (x.add (i * 2)) = some c ∧ W.cell? ((x.add (i * 2)).add 1) = some u) ∧ DsIn W u L := by
      intro i hi
      obtain ⟨cs', h1, h2⟩ := hx i (by omega)
      obtain ⟨c, u, L, rfl, hL⟩ := line_at enc W h2
      obtain ⟨_, _, hc⟩ := World.cells?_some h1
      refine ⟨L, c, u, ⟨?_, ?_⟩, hL⟩
      · simpa [Addr.add] using hc 0 (by simp)
      · exact hc 1 (by simp)
    obtain ⟨T, hT⟩ := choose_lt hall
    refine ⟨(List.range len).map T, some x, m, by simp, by simp; omega, fun h0 => ?_⟩
    simp only [List.length_map, List.length_range] at h0 ⊢
    obtain ⟨b, off, spot⟩ := x
    obtain ⟨c0, u0, h00, _⟩ := hT 0 (by omega)
    have hspot : spot = none := by simpa [Addr.add] using World.cell?_spot h00.1
    subst hspot
    simp only [Go.WideShapes.add_plain] at hT h00
    refine ⟨b, off, rfl, World.block_lt_of_cell? (a := ⟨b, off + 0 * 2, none⟩) W h00.1, fun i hi => ?_⟩
    obtain ⟨c1, u1, h11, hd⟩ := hT i hi
    refine ⟨u1, h11.2, ?_⟩
    simpa using hd
set_option maxRecDepth 100000 in
theorem open_gdraft {v : Value} {d : DataW H} {p : List MemPlace} (ok : Value.okWide Try.prog W .any base 24 v) (k : DataW.Trod enc Try.prog W 0 (fun _ => true) true 24 v d p) :
    ∃ (cols : Nat) (u : Value) (LL : List (List Dc)), v = .agg #[.int .u8 (cols : Nat), u] ∧ LnsIn W u LL := by
  obtain ⟨cs, rfl, hsz⟩ := okWide_struct Try.underlying24 ok
  obtain ⟨fuel, hf⟩ := k
  obtain ⟨xs, n, _, _, hl, hlen, hq⟩ := DataW.trod_struct Try.underlying24 hf
  obtain ⟨l⟩ := cs
  match l, hsz.trans (show Try.prog.cellsOf 24 = 2 by kernel_rfl), xs, hlen with
  | [c0, c1], _, [y0, y1], _ =>
    have q1 : Try.prog.cellsOf 5 = 1 := by kernel_rfl
    have q2 : Try.prog.cellsOf 22 = 1 := by kernel_rfl
    have h0 : DataW.trod enc Try.prog W 0 (fun _ => true) true n 5 (([c0, c1].drop 0).take (Try.prog.cellsOf 5)) = some y0 := hq 0 _ rfl
    rw [q1] at h0
    replace h0 : DataW.trod enc Try.prog W 0 (fun _ => true) true n 5 [c0] = some y0 := h0
    have h1 : DataW.trod enc Try.prog W 0 (fun _ => true) true n 22 (([c0, c1].drop 1).take (Try.prog.cellsOf 22)) = some y1 := hq 1 _ rfl
    rw [q2] at h1
    replace h1 : DataW.trod enc Try.prog W 0 (fun _ => true) true n 22 [c1] = some y1 := h1
    obtain ⟨u0, e0, _, w0⟩ := DataW.trod_int Try.underlying5 h0
    obtain ⟨LL, hLL⟩ := open_lns enc W h1
    simp at e0
    subst e0
    obtain ⟨a, rfl, _⟩ := n_u8 w0
    exact ⟨a, c1, LL, rfl, hLL⟩
set_option maxRecDepth 100000 in
theorem st_at {n : Nat} {cs : List Value} {x : DataW H × List MemPlace} (h : DataW.trod enc Try.prog W 0 (fun _ => true) true n 67 cs = some x) :
    ∃ a : St, cs = stL a ∧ a.ok := by
  obtain ⟨xs, m, _, _, hl, hlen, hq⟩ := DataW.trod_struct Try.underlying67 h
  obtain ⟨c0, c1, c2, c3, c4, c5, c6, c7, c8, c9, c10, rfl⟩ := list11 (hl.trans (by kernel_rfl))
  have q1 : Try.prog.cellsOf 5 = 1 := by kernel_rfl
  have q2 : Try.prog.cellsOf 4 = 1 := by kernel_rfl
  have q3 : Try.prog.cellsOf 65 = 5 := by kernel_rfl
  match xs, hlen with
  | [y0, y1, y2, y3, y4, y5, y6], _ =>
    have h0 : DataW.trod enc Try.prog W 0 (fun _ => true) true m 5 (([c0, c1, c2, c3, c4, c5, c6, c7, c8, c9, c10].drop 0).take (Try.prog.cellsOf 5)) = some y0 := hq 0 _ rfl
    rw [q1] at h0
    replace h0 : DataW.trod enc Try.prog W 0 (fun _ => true) true m 5 [c0] = some y0 := h0
    have h1 : DataW.trod enc Try.prog W 0 (fun _ => true) true m 5 (([c0, c1, c2, c3, c4, c5, c6, c7, c8, c9, c10].drop 1).take (Try.prog.cellsOf 5)) = some y1 := hq 1 _ rfl
    rw [q1] at h1
    replace h1 : DataW.trod enc Try.prog W 0 (fun _ => true) true m 5 [c1] = some y1 := h1
    have h2 : DataW.trod enc Try.prog W 0 (fun _ => true) true m 5 (([c0, c1, c2, c3, c4, c5, c6, c7, c8, c9, c10].drop 2).take (Try.prog.cellsOf 5)) = some y2 := hq 2 _ rfl
    rw [q1] at h2
    replace h2 : DataW.trod enc Try.prog W 0 (fun _ => true) true m 5 [c2] = some y2 := h2
    have h3 : DataW.trod enc Try.prog W 0 (fun _ => true) true m 5 (([c0, c1, c2, c3, c4, c5, c6, c7, c8, c9, c10].drop 3).take (Try.prog.cellsOf 5)) = some y3 := hq 3 _ rfl
    rw [q1] at h3
    replace h3 : DataW.trod enc Try.prog W 0 (fun _ => true) true m 5 [c3] = some y3 := h3
    have h4 : DataW.trod enc Try.prog W 0 (fun _ => true) true m 5 (([c0, c1, c2, c3, c4, c5, c6, c7, c8, c9, c10].drop 4).take (Try.prog.cellsOf 5)) = some y4 := hq 4 _ rfl
    rw [q1] at h4
    replace h4 : DataW.trod enc Try.prog W 0 (fun _ => true) true m 5 [c4] = some y4 := h4
    have h5 : DataW.trod enc Try.prog W 0 (fun _ => true) true m 65 (([c0, c1, c2, c3, c4, c5, c6, c7, c8, c9, c10].drop 5).take (Try.prog.cellsOf 65)) = some y5 := hq 5 _ rfl
    rw [q3] at h5
    replace h5 : DataW.trod enc Try.prog W 0 (fun _ => true) true m 65 [c5, c6, c7, c8, c9] = some y5 := h5
    have h6 : DataW.trod enc Try.prog W 0 (fun _ => true) true m 4 (([c0, c1, c2, c3, c4, c5, c6, c7, c8, c9, c10].drop 10).take (Try.prog.cellsOf 4)) = some y6 := hq 6 _ rfl
    rw [q2] at h6
    replace h6 : DataW.trod enc Try.prog W 0 (fun _ => true) true m 4 [c10] = some y6 := h6
    obtain ⟨u0, e0, _, w0⟩ := DataW.trod_int Try.underlying5 h0
    obtain ⟨u1, e1, _, w1⟩ := DataW.trod_int Try.underlying5 h1
    obtain ⟨u2, e2, _, w2⟩ := DataW.trod_int Try.underlying5 h2
    obtain ⟨u3, e3, _, w3⟩ := DataW.trod_int Try.underlying5 h3
    obtain ⟨u4, e4, _, w4⟩ := DataW.trod_int Try.underlying5 h4
    obtain ⟨d, e5, hd⟩ := draft_at enc W h5
    obtain ⟨u6, e6, _⟩ := DataW.trod_bool Try.underlying4 h6
    simp at e0 e1 e2 e3 e4 e6
    subst e0 e1 e2 e3 e4 e6
    injection e5 with e5 f1
    injection f1 with f1 f2
    injection f2 with f2 f3
    injection f3 with f3 f4
    injection f4 with f4 _
    subst e5 f1 f2 f3 f4
    obtain ⟨a0, rfl, k0⟩ := n_u8 w0
    obtain ⟨a1, rfl, k1⟩ := n_u8 w1
    obtain ⟨a2, rfl, k2⟩ := n_u8 w2
    obtain ⟨a3, rfl, k3⟩ := n_u8 w3
    obtain ⟨a4, rfl, k4⟩ := n_u8 w4
    exact ⟨⟨a0, a1, a2, a3, a4, d, u6⟩, rfl, k0, k1, k2, k3, k4, hd⟩
set_option maxRecDepth 100000 in
theorem open_st {v : Value} {d : DataW H} {p : List MemPlace} (ok : Value.okWide Try.prog W .any base 67 v) (k : DataW.Trod enc Try.prog W 0 (fun _ => true) true 67 v d p) : ∃ a : St, v = stV a ∧ a.ok := by
  obtain ⟨cs, rfl, hsz⟩ := okWide_struct Try.underlying67 ok
  obtain ⟨fuel, hf⟩ := k
  obtain ⟨a, e, ha⟩ := st_at enc W hf
  obtain ⟨l⟩ := cs
  replace e : l = stL a := e
  subst e
  exact ⟨a, rfl, ha⟩
set_option maxRecDepth 100000 in
theorem open_sts {v : Value} {d : DataW H} {p : List MemPlace} (ok : Value.okWide Try.prog W .any base 59 v) (k : DataW.Trod enc Try.prog W 0 (fun _ => true) true 59 v d p) :
    ∃ (a : Option Addr) (len cap : Nat) (T : Nat → St), v = .slice a len cap ∧ StsIn W a len T := by
  obtain ⟨a0, len0, cap0, rfl⟩ := okWide_slice Try.underlying59 ok
  obtain ⟨fuel, hf⟩ := k
  rcases open_slice Try.underlying59 hf with ⟨hcs, _⟩ | ⟨x, len, cap, m, n, D, Pl, hcs, _, hl, hm, hmm, _, hx⟩
  · simp [Value.cells] at hcs
    obtain ⟨rfl, rfl, rfl⟩ := hcs
    exact ⟨none, 0, 0, fun _ => St.z, rfl, Nat.zero_le _, fun i hi => by omega, fun h => by omega⟩
  · simp [Value.cells] at hcs
    obtain ⟨rfl, rfl, rfl⟩ := hcs
    simp at hmm
    subst hmm
    have q9 : Try.prog.cellsOf 67 = 11 := by kernel_rfl
    rw [q9] at hx
    have hall : ∀ i, i < len0 → ∃ a : St, (W.cell? (x.add (i * 11)) = some (.int .u8 (a.what : Nat)) ∧ W.cell? ((x.add (i * 11)).add 1) = some (.int .u8 (a.row : Nat)) ∧ W.cell? ((x.add (i * 11)).add 2) = some (.int .u8 (a.col : Nat)) ∧ W.cell? ((x.add (i * 11)).add 3) = some (.int .u8 (a.n : Nat)) ∧ W.cell? ((x.add (i * 11)).add 4) = some (.int .u8 (a.m : Nat)) ∧ W.cell? ((x.add (i * 11)).add 5) = some (.int .u8 (a.cell.ru : Nat)) ∧ W.cell? ((x.add (i * 11)).add 6) = some (.int .u8 (a.cell.ms : Nat)) ∧ W.cell? ((x.add (i * 11)).add 7) = some (.int .u8 (a.cell.at1 : Nat)) ∧ W.cell? ((x.add (i * 11)).add 8) = some (.bool a.cell.wide) ∧ W.cell? ((x.add (i * 11)).add 9) = some (.bool a.cell.high) ∧ W.cell? ((x.add (i * 11)).add 10) = some (.bool a.odd)) ∧ a.ok := by
      intro i hi
      obtain ⟨cs', h1, h2⟩ := hx i (by omega)
      obtain ⟨y, rfl, hy⟩ := st_at enc W h2
      obtain ⟨_, _, hc⟩ := World.cells?_some h1
      refine ⟨y, ⟨?_, ?_, ?_, ?_, ?_, ?_, ?_, ?_, ?_, ?_, ?_⟩, hy⟩
      · simpa [Addr.add, stL] using hc 0 (by simp)
      · exact hc 1 (by simp)
      · exact hc 2 (by simp)
      · exact hc 3 (by simp)
      · exact hc 4 (by simp)
      · exact hc 5 (by simp)
      · exact hc 6 (by simp)
      · exact hc 7 (by simp)
      · exact hc 8 (by simp)
      · exact hc 9 (by simp)
      · exact hc 10 (by simp)
    obtain ⟨T, hT⟩ := choose_lt hall
    refine ⟨some x, len0, m, T, rfl, Nat.le_trans hl hm, fun i hi => (hT i hi).2, fun h0 => ?_⟩
    obtain ⟨b, off, spot⟩ := x
    have hspot : spot = none := by simpa [Addr.add] using World.cell?_spot (hT 0 (by omega)).1.1
    subst hspot
    have hc := fun i (hi : i < len0) => (hT i hi).1
    simp only [Go.WideShapes.add_plain] at hc
    exact ⟨b, off, rfl, World.block_lt_of_cell? (a := ⟨b, off + 0 * 11, none⟩) W (hc 0 (by omega)).1, fun i hi => hc i hi⟩
end
end Go.Proofs.Ytdeahnphcfcfpaa.Lab
