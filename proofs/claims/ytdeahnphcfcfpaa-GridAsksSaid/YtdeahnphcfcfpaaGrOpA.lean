/- Texts and letters; what the arguments read as: drafts of grids. -/
import Derived.Test.YtdeahnphcfcfpaaGrOf
import Derived.Test.YtdeahnphcfcfpaaGgGood
import Derived.Test.YtdeahnphcfcfpaaShelf
import Derived.ProofKit
import Derived.OpenShut
import Derived.Deep.Slices
import Derived.Lib.SmallJoins
import Derived.Laws.IdiomArrays
namespace Go.Proofs.Ytdeahnphcfcfpaa.Lab
open Go Go.RowKit

def baOf (R : Cls) : ByteArray := ⟨(textM R).toArray⟩
theorem join_text (w : World) (v : Value) (H : List Hd) (lo : Nat) (hown : w.ownsRow lo 9 1 v H.length (textsOf H)) (h0 : 0 < H.length) (hl : H.length ≤ 600) (hlen : (Lib.join ((H.map (·.R)).map textM) [124]).length ≤ 100000) :
    Calls Try.prog 65 #[v, .string ⟨#[124]⟩] w fun e w' => e = .returned (.string ⟨(Lib.join ((H.map (·.R)).map textM) [124]).toArray⟩) ∧ Below w.heap.size w w' := by
  rcases hown.2 with ⟨_, e⟩ | ⟨g, cap, cur, rfl, hb, hg, hnc, _⟩
  · omega
  have hx : ((H.map fun x => baOf x.R).map (·.data.toList)) = (H.map (·.R)).map textM := by
    rw [List.map_map, List.map_map]
    rfl
  have := Try.strings_Join g 0 cap (H.map fun x => baOf x.R) ⟨#[124]⟩ w (fun j x hj => by
    have hjl : j < H.length := by
      have := (List.getElem?_eq_some_iff.1 hj).1
      simpa using this
    have hc := hown.cells (g := g) rfl j (.string x) (by
      unfold textsOf
      rw [List.getElem?_map, List.getElem?_eq_getElem hjl] at hj ⊢
      rw [Option.map_some] at hj ⊢
      injection hj with hj
      rw [← hj]
      rfl)
    rwa [Addr.add_mid] at hc) (Array.getElem?_eq_some_iff.1 hg).1 (by rw [List.length_map]; omega) (by rw [List.length_map]; exact hnc) (by rw [hx]; show (Lib.join _ [124]).length ≤ _; omega)
  rw [hx, List.length_map] at this
  exact this
theorem texts_any (w : World) (lo p rb c m q k cap : Nat) (G : List Cls) (ws : List ByteArray) (h : Gg w lo p rb c G) (g : Good G m) (ht : ∀ R ∈ G, TxtOk R) (hk : ws.length = k) (hq : q < w.heap.size) (hw : ∀ (j : Nat) x, ws[j]? = some x → w.cell? ⟨q, j, none⟩ = some (.string x)) (hcap : k ≤ cap) (hk2 : k ≤ 100)
    (heq : Lib.join (G.map textM) [124] = Lib.join (ws.map (·.data.toList)) [124]) (hlen : (Lib.join (G.map textM) [124]).length ≤ 100000) :
    Calls Try.prog 33 #[gV p, .slice (some ⟨q, 0, none⟩) k cap] w fun e w' => e = .returned (.bool true) ∧ Below w.heap.size w w' := by
  obtain ⟨H, h1, h2⟩ := h
  have n0 := g.n0
  have n1 := g.n1
  have hl : H.length = G.length := by rw [← h2, List.length_map]
  have HT := Lib.hid (gtext_any w lo p rb c H h1 (by omega) (fun x hx => ⟨ht _ (by rw [← h2]; exact List.mem_map_of_mem hx), by have := (g.row x.R (by rw [← h2]; exact List.mem_map_of_mem hx)).2.1; have := g.m1; omega⟩))
  obtain ⟨L, hL⟩ : ∃ L, L = Lib.join (G.map textM) [124] := ⟨_, rfl⟩
  have HJ := Lib.hid (show ∀ (W : World) (v : Value), W.ownsRow w.heap.size 9 1 v H.length (textsOf H) → Calls Try.prog 65 #[v, .string ⟨#[124]⟩] W fun e w' => e = .returned (.string ⟨L.toArray⟩) ∧ Below W.heap.size W w' from fun W v hv => by
    have := join_text W v H _ hv (by omega) (by omega) (by rw [h2]; exact hlen)
    rwa [h2, ← hL] at this)
  have HW := Lib.hid (show ∀ W : World, Below w.heap.size w W → Calls Try.prog 65 #[.slice (some ⟨q, 0, none⟩) k cap, .string ⟨#[124]⟩] W fun e w' => e = .returned (.string ⟨L.toArray⟩) ∧ Below W.heap.size W w' from fun W hb => by
    have := Try.strings_Join q 0 cap ws ⟨#[124]⟩ W (fun j x hj => by rw [Nat.zero_add]; exact (hb.cell (p := ⟨q, j, none⟩) hq).trans (hw j x hj)) (Nat.lt_of_lt_of_le hq hb.size) (by omega) (by omega) (by show (Lib.join _ [124]).length ≤ _; rw [← heq]; omega)
    rw [hk] at this
    rw [hL, heq]
    exact this)
  clear h1 h2 g ht hk hq hw hcap heq hlen hL n0 n1 hl
  go_enter Try.func33, Try.ntmps33
  go_wp2_with fail
  refine HT.out.mono ?_
  rintro e w1 ⟨v, rfl, ow, b1⟩
  have HB1 := Lib.hid b1
  have C2 := Lib.hid (HJ.out w1 v ow)
  clear ow b1 HT
  go_wp2_with fail
  refine C2.out.mono ?_
  rintro e w2 ⟨rfl, b2⟩
  have HB2 := Lib.hid (HB1.out.trans (b2.mono HB1.out.size))
  clear b2 C2
  go_wp2_with fail
  refine (HW.out w2 HB2.out).mono ?_
  rintro e w3 ⟨rfl, b3⟩
  have HB3 := Lib.hid (HB2.out.trans (b3.mono HB2.out.size))
  clear b3 HW HJ
  go_wp2
  go_ret
  exact ⟨by simp, HB3.out⟩
/-! ### letters("abc") -/
/-- A row of one letter. -/
def leR (x : Int) : Cls := [⟨x, 0, 0, 0, ⟨Cl.zero, Cl.zero, 0⟩, 0⟩, Cel.z]
def blR : Cls := [Cel.z, Cel.z]
theorem gnew (w : World) (r c : Nat) (b : Cel) (h : canB (r : Nat) (c : Nat) = true) : Calls Try.prog 9 #[.int .i64 (r : Nat), .int .i64 (c : Nat), celV b] w fun e w' => ∃ p rb cc, e = .returned (gV p) ∧ Gg w' w.heap.size p rb cc (List.replicate r (newM c b)) ∧ Below w.heap.size w w' := by
  refine (gnew_any w (r : Nat) (c : Nat) b h).mono ?_
  rintro e w' ⟨p, rb, cc, F, rfl, hg, hm, _, hb⟩
  exact ⟨p, rb, cc, rfl, ⟨F, hg, by rw [hm, Int.toNat_natCast, Int.toNat_natCast]⟩, hb⟩

open Go Go.RowKit Go.ChangeShapes Go.WideShapes Go.Deep Go.Lib Go.Joins

theorem n_u8 {n : Int} (h : (Lit.int .u8 n).wf = true) : ∃ m : Nat, n = m ∧ m < 256 := by
  have h1 : 0 ≤ n ∧ n ≤ 255 := by
    simp [Lit.wf, IntKind.min, IntKind.max, IntKind.bits, IntKind.signed] at h
    omega
  exact ⟨n.toNat, by omega, by omega⟩
instance : Inhabited Dc := ⟨Dc.z⟩
theorem list5 {α : Type} {cs : List α} (h : cs.length = 5) : ∃ c0 c1 c2 c3 c4, cs = [c0, c1, c2, c3, c4] := by
  match cs, h with
  | [c0, c1, c2, c3, c4], _ => exact ⟨c0, c1, c2, c3, c4, rfl⟩
section
variable {H : Type} (enc : TypeId × Value → H) (base : Nat) (W : World)
set_option maxRecDepth 100000 in
theorem draft_at {n : Nat} {cs : List Value} {x : DataW H × List MemPlace} (h : DataW.trod enc Try.prog W 0 (fun _ => true) true n 65 cs = some x) :
    ∃ d : Dc, cs = [.int .u8 (d.ru : Nat), .int .u8 (d.ms : Nat), .int .u8 (d.at1 : Nat), .bool d.wide, .bool d.high] ∧ d.ok := by
  obtain ⟨xs, m, _, _, hl, hlen, hq⟩ := DataW.trod_struct Try.underlying65 h
  obtain ⟨c0, c1, c2, c3, c4, rfl⟩ := list5 (hl.trans (by kernel_rfl))
  have q1 : Try.prog.cellsOf 5 = 1 := by kernel_rfl
  have q2 : Try.prog.cellsOf 4 = 1 := by kernel_rfl
  match xs, hlen with
  | [y0, y1, y2, y3, y4], _ =>
    have h0 : DataW.trod enc Try.prog W 0 (fun _ => true) true m 5 (([c0, c1, c2, c3, c4].drop 0).take (Try.prog.cellsOf 5)) = some y0 := hq 0 _ rfl
    rw [q1] at h0
    replace h0 : DataW.trod enc Try.prog W 0 (fun _ => true) true m 5 [c0] = some y0 := h0
    have h1 : DataW.trod enc Try.prog W 0 (fun _ => true) true m 5 (([c0, c1, c2, c3, c4].drop 1).take (Try.prog.cellsOf 5)) = some y1 := hq 1 _ rfl
    rw [q1] at h1
    replace h1 : DataW.trod enc Try.prog W 0 (fun _ => true) true m 5 [c1] = some y1 := h1
    have h2 : DataW.trod enc Try.prog W 0 (fun _ => true) true m 5 (([c0, c1, c2, c3, c4].drop 2).take (Try.prog.cellsOf 5)) = some y2 := hq 2 _ rfl
    rw [q1] at h2
    replace h2 : DataW.trod enc Try.prog W 0 (fun _ => true) true m 5 [c2] = some y2 := h2
    have h3 : DataW.trod enc Try.prog W 0 (fun _ => true) true m 4 (([c0, c1, c2, c3, c4].drop 3).take (Try.prog.cellsOf 4)) = some y3 := hq 3 _ rfl
    rw [q2] at h3
    replace h3 : DataW.trod enc Try.prog W 0 (fun _ => true) true m 4 [c3] = some y3 := h3
    have h4 : DataW.trod enc Try.prog W 0 (fun _ => true) true m 4 (([c0, c1, c2, c3, c4].drop 4).take (Try.prog.cellsOf 4)) = some y4 := hq 4 _ rfl
    rw [q2] at h4
    replace h4 : DataW.trod enc Try.prog W 0 (fun _ => true) true m 4 [c4] = some y4 := h4
    obtain ⟨u0, e0, _, w0⟩ := DataW.trod_int Try.underlying5 h0
    obtain ⟨u1, e1, _, w1⟩ := DataW.trod_int Try.underlying5 h1
    obtain ⟨u2, e2, _, w2⟩ := DataW.trod_int Try.underlying5 h2
    obtain ⟨u3, e3, _⟩ := DataW.trod_bool Try.underlying4 h3
    obtain ⟨u4, e4, _⟩ := DataW.trod_bool Try.underlying4 h4
    simp at e0 e1 e2 e3 e4
    subst e0 e1 e2 e3 e4
    obtain ⟨a, rfl, ha⟩ := n_u8 w0
    obtain ⟨b, rfl, hb⟩ := n_u8 w1
    obtain ⟨c, rfl, hc⟩ := n_u8 w2
    exact ⟨⟨a, b, c, u3, u4⟩, rfl, ha, hb, hc⟩
set_option maxRecDepth 100000 in
theorem open_ds {n : Nat} {c : Value} {x : DataW H × List MemPlace} (h : DataW.trod enc Try.prog W 0 (fun _ => true) true n 89 [c] = some x) : ∃ L, DsIn W c L := by
  rcases open_slice Try.underlying89 h with ⟨hcs, _⟩ | ⟨x, len, cap, m, n, D, Pl, hcs, _, hl, hm, hmm, _, hx⟩
  · obtain rfl : c = .slice none 0 0 := by simpa using hcs
    exact ⟨[], none, 0, rfl, Nat.zero_le _, fun d hd => by simp at hd, fun h => by simp at h⟩
  · obtain rfl : c = .slice (some x) len cap := by simpa using hcs
    simp at hmm
    subst hmm
    have q5 : Try.prog.cellsOf 65 = 5 := by kernel_rfl
    rw [q5] at hx
    have hall : ∀ i, i < len → ∃ d : Dc, (W.cell? (x.add (i * 5)) = some (.int .u8 (d.ru : Nat)) ∧ W.cell? ((x.add (i * 5)).add 1) = some (.int .u8 (d.ms : Nat)) ∧ W.cell? ((x.add (i * 5)).add 2) = some (.int .u8 (d.at1 : Nat)) ∧ W.cell? ((x.add (i * 5)).add 3) = some (.bool d.wide) ∧ W.cell? ((x.add (i * 5)).add 4) = some (.bool d.high)) ∧ d.ok := by
      intro i hi
      obtain ⟨cs', h1, h2⟩ := hx i (by omega)
      obtain ⟨y, rfl, hy⟩ := draft_at enc W h2
      obtain ⟨_, _, hc⟩ := World.cells?_some h1
      refine ⟨y, ⟨?_, ?_, ?_, ?_, ?_⟩, hy⟩
      · simpa [Addr.add] using hc 0 (by simp)
      · exact hc 1 (by simp)
      · exact hc 2 (by simp)
      · exact hc 3 (by simp)
      · exact hc 4 (by simp)
    obtain ⟨T, hT⟩ := choose_lt hall
    have eg : ∀ i, i < len → ((List.range len).map T).getD i Dc.z = T i := fun i hi => by simp [List.getD_eq_getElem?_getD, hi]
    refine ⟨(List.range len).map T, some x, m, by simp, by simp; omega, fun d hd => ?_, fun h0 => ?_⟩
    · obtain ⟨i, hi, rfl⟩ := List.mem_map.1 hd
      exact (hT i (List.mem_range.1 hi)).2
    · simp only [List.length_map, List.length_range] at h0 ⊢
      obtain ⟨b, off, spot⟩ := x
      have hspot : spot = none := by simpa [Addr.add] using World.cell?_spot (hT 0 (by omega)).1.1
      subst hspot
      have hc := fun i (hi : i < len) => (hT i hi).1
      simp only [Go.WideShapes.add_plain] at hc
      refine ⟨b, off, rfl, World.block_lt_of_cell? (a := ⟨b, off + 0 * 5, none⟩) W (hc 0 (by omega)).1, fun i hi => ?_⟩
      rw [eg i hi]
      exact hc i hi
set_option maxRecDepth 100000 in
theorem open_dss {v : Value} {d : DataW H} {p : List MemPlace} (ok : Value.okWide Try.prog W .any base 89 v) (k : DataW.Trod enc Try.prog W 0 (fun _ => true) true 89 v d p) : ∃ L, DsIn W v L := by
  obtain ⟨a0, len0, cap0, rfl⟩ := okWide_slice Try.underlying89 ok
  obtain ⟨fuel, hf⟩ := k
  exact open_ds enc W hf
set_option maxRecDepth 100000 in
theorem line_at {n : Nat} {cs : List Value} {x : DataW H × List MemPlace} (h : DataW.trod enc Try.prog W 0 (fun _ => true) true n 91 cs = some x) :
    ∃ (c u : Value) (L : List Dc), cs = [c, u] ∧ DsIn W u L := by
  obtain ⟨xs, m, _, _, hl, hlen, hq⟩ := DataW.trod_struct Try.underlying91 h
  match cs, hl.trans (show Try.prog.cellsOf 91 = 2 by kernel_rfl), xs, hlen with
  | [c0, c1], _, [y0, y1], _ =>
    have q2 : Try.prog.cellsOf 89 = 1 := by kernel_rfl
    have h1 : DataW.trod enc Try.prog W 0 (fun _ => true) true m 89 (([c0, c1].drop 1).take (Try.prog.cellsOf 89)) = some y1 := hq 1 _ rfl
    rw [q2] at h1
    replace h1 : DataW.trod enc Try.prog W 0 (fun _ => true) true m 89 [c1] = some y1 := h1
    obtain ⟨L, hL⟩ := open_ds enc W h1
    exact ⟨c0, c1, L, rfl, hL⟩
set_option maxRecDepth 100000 in
theorem open_lns {n : Nat} {c : Value} {x : DataW H × List MemPlace} (h : DataW.trod enc Try.prog W 0 (fun _ => true) true n 22 [c] = some x) : ∃ LL, LnsIn W c LL := by
  rcases open_slice Try.underlying22 h with ⟨hcs, _⟩ | ⟨x, len, cap, m, n, D, Pl, hcs, _, hl, hm, hmm, _, hx⟩
  · obtain rfl : c = .slice none 0 0 := by simpa using hcs
    exact ⟨[], none, 0, rfl, Nat.zero_le _, fun h => by simp at h⟩
  · obtain rfl : c = .slice (some x) len cap := by simpa using hcs
    simp at hmm
    subst hmm
    have q5 : Try.prog.cellsOf 91 = 2 := by kernel_rfl
    rw [q5] at hx
    have hall : ∀ i, i < len → ∃ L : List Dc, ∃ c u : Value, (W.cell? (x.add (i * 2)) = some c ∧ W.cell? ((x.add (i * 2)).add 1) = some u) ∧ DsIn W u L := by
      intro i hi
      obtain ⟨cs', h1, h2⟩ := hx i (by omega)
      obtain ⟨c, u, L, rfl, hL⟩ := line_at enc W h2
      obtain ⟨_, _, hc⟩ := World.cells?_some h1
      refine ⟨L, c, u, ⟨?_, ?_⟩, hL⟩
      · simpa [Addr.add] using hc 0 (by simp)
      · exact hc 1 (by simp)
    obtain ⟨T, hT⟩ := choose_lt hall
    refine ⟨(List.range len).map T, some x, m, by simp, by simp; omega, fun h0 => ?_⟩
    simp only [List.length_map, List.length_range] at h0 ⊢
    obtain ⟨b, off, spot⟩ := x
    obtain ⟨c0, u0, h00, _⟩ := hT 0 (by omega)
    have hspot : spot = none := by simpa [Addr.add] using World.cell?_spot h00.1
    subst hspot
    simp only [Go.WideShapes.add_plain] at hT h00
    refine ⟨b, off, rfl, World.block_lt_of_cell? (a := ⟨b, off + 0 * 2, none⟩) W h00.1, fun i hi => ?_⟩
    obtain ⟨c1, u1, h11, hd⟩ := hT i hi
    refine ⟨u1, h11.2, ?_⟩
    simpa using hd
set_option maxRecDepth 100000 in
theorem open_gdraft {v : Value} {d : DataW H} {p : List MemPlace} (ok : Value.okWide Try.prog W .any base 24 v) (k : DataW.Trod enc Try.prog W 0 (fun _ => true) true 24 v d p) :
    ∃ (cols : Nat) (u : Value) (LL : List (List Dc)), v = .agg #[.int .u8 (cols : Nat), u] ∧ LnsIn W u LL := by
  obtain ⟨cs, rfl, hsz⟩ := okWide_struct Try.underlying24 ok
  obtain ⟨fuel, hf⟩ := k
  obtain ⟨xs, n, _, _, hl, hlen, hq⟩ := DataW.trod_struct Try.underlying24 hf
  obtain ⟨l⟩ := cs
  match l, hsz.trans (show Try.prog.cellsOf 24 = 2 by kernel_rfl), xs, hlen with
  | [c0, c1], _, [y0, y1], _ =>
    have q1 : Try.prog.cellsOf 5 = 1 := by kernel_rfl
    have q2 : Try.prog.cellsOf 22 = 1 := by kernel_rfl
    have h0 : DataW.trod enc Try.prog W 0 (fun _ => true) true n 5 (([c0, c1].drop 0).take (Try.prog.cellsOf 5)) = some y0 := hq 0 _ rfl
    rw [q1] at h0
    replace h0 : DataW.trod enc Try.prog W 0 (fun _ => true) true n 5 [c0] = some y0 := h0
    have h1 : DataW.trod enc Try.prog W 0 (fun _ => true) true n 22 (([c0, c1].drop 1).take (Try.prog.cellsOf 22)) = some y1 := hq 1 _ rfl
    rw [q2] at h1
    replace h1 : DataW.trod enc Try.prog W 0 (fun _ => true) true n 22 [c1] = some y1 := h1
    obtain ⟨u0, e0, _, w0⟩ := DataW.trod_int Try.underlying5 h0
    obtain ⟨LL, hLL⟩ := open_lns enc W h1
    simp at e0
    subst e0
    obtain ⟨a, rfl, _⟩ := n_u8 w0
    exact ⟨a, c1, LL, rfl, hLL⟩
end
end Go.Proofs.Ytdeahnphcfcfpaa.Lab
