/- The Go law ColorTells: its walk. -/
import Derived.Test.YthcncghhjlaicaaRDefault
import Derived.Test.YthcncghhjlaicaaRFormat
import Derived.Test.YthcncghhjlaicaaRNear
import Derived.Test.YthcncghhjlaicaaRResolve
import Derived.Test.YthcncghhjlaicaaParses
import Derived.Test.YthcncghhjlaicaaAs
import Derived.Test.YthcncghhjlaicaaColWorks
import Derived.Test.YthcncghhjlaicaaAppAny
import Derived.Deep.RegionHeld3
import Derived.Deep.DeepCutAuto
import Derived.Deep.CutBlock
import Derived.RegionTactic
namespace Go.Proofs.Ythcncghhjlaicaa.Lab
open Go.RowKit

/-- What is asked, in one. -/
structure Asked where
  n : Int
  place : Nat
  byte : Nat
  k : Nat
  r : Nat
  g : Nat
  b : Nat
  a : Option Addr
  len : Nat
  cap : Nat

abbrev Asked.cells (x : Asked) : Array Value := #[.int .i64 x.n, .int .u16 x.place, .int .u8 x.byte, .int .u8 x.k, .int .u8 x.r, .int .u8 x.g, .int .u8 x.b, .slice x.a x.len x.cap]

def AskAt (w : World) (b : Nat) (x : Asked) : Prop := b < w.heap.size ∧ ∀ i, w.cell? ⟨b, i, none⟩ = x.cells[i]?
theorem AskAt.below {w w' : World} {b : Nat} {x : Asked} (h : AskAt w b x) (hb : Below w.heap.size w w') : AskAt w' b x := ⟨Nat.lt_of_lt_of_le h.1 hb.size, fun i => (hb.cell (p := ⟨b, i, none⟩) h.1).trans (h.2 i)⟩
theorem AskAt.newAt (w : World) (n : Nat) (hn : n = w.heap.size) (x : Asked) (T : TypeId) : AskAt (w.alloc (.cells x.cells T)) n x := by
  subst hn
  exact ⟨by simp, fun i => by rw [World.cell?_alloc_at _ _ _ _ rfl]⟩
theorem AskAt.s {w : World} {b : Nat} {x : Asked} (h : AskAt w b x) : w.cell? ⟨b, 0, none⟩ = some (.int .i64 x.n) ∧ w.cell? ⟨b, 1, none⟩ = some (.int .u16 x.place) ∧ w.cell? ⟨b, 2, none⟩ = some (.int .u8 x.byte) ∧ w.cell? ⟨b, 3, none⟩ = some (.int .u8 x.k) ∧ w.cell? ⟨b, 4, none⟩ = some (.int .u8 x.r) ∧ w.cell? ⟨b, 5, none⟩ = some (.int .u8 x.g) ∧ w.cell? ⟨b, 6, none⟩ = some (.int .u8 x.b) ∧ w.cell? ⟨b, 7, none⟩ = some (.slice x.a x.len x.cap) :=
  ⟨h.2 0, h.2 1, h.2 2, h.2 3, h.2 4, h.2 5, h.2 6, h.2 7⟩

/-- What lies while the statement runs: what is asked, boxed; the two values; the palette as it came in. -/
def TF (w0 w : World) (b7 b8 : Nat) (p q : V) (x : Asked) (ps : List V) : Prop := Below w0.heap.size w0 w ∧ AskAt w (w0.heap.size + 1) x ∧ V3 w b7 p.1 p.2.1 p.2.2 ∧ V3 w b8 q.1 q.2.1 q.2.2 ∧ PalS w x.a x.len ps
theorem TF.below {w0 w w' : World} {b7 b8 : Nat} {p q : V} {x : Asked} {ps : List V} (h : TF w0 w b7 b8 p q x ps) (hb : Below w.heap.size w w') : TF w0 w' b7 b8 p q x ps :=
  ⟨bstep h.1 hb, h.2.1.below hb, h.2.2.1.below hb, h.2.2.2.1.below hb, h.2.2.2.2.below hb⟩

theorem TF.cells2 {w0 w : World} {b7 b8 : Nat} {p q : V} {x : Asked} {ps : List V} (h : TF w0 w b7 b8 p q x ps) : (w.cell? ⟨w0.heap.size + 1, 3, none⟩ = some (.int .u8 x.k) ∧ w.cell? ⟨w0.heap.size + 1, 4, none⟩ = some (.int .u8 x.r) ∧ w.cell? ⟨w0.heap.size + 1, 5, none⟩ = some (.int .u8 x.g) ∧ w.cell? ⟨w0.heap.size + 1, 6, none⟩ = some (.int .u8 x.b)) ∧
    (w.cell? ⟨b7, 0, none⟩ = some (.int .u16 p.1) ∧ w.cell? ⟨b7, 1, none⟩ = some (.int .u16 p.2.1) ∧ w.cell? ⟨b7, 2, none⟩ = some (.int .u16 p.2.2)) ∧ (w.cell? ⟨b8, 0, none⟩ = some (.int .u16 q.1) ∧ w.cell? ⟨b8, 1, none⟩ = some (.int .u16 q.2.1) ∧ w.cell? ⟨b8, 2, none⟩ = some (.int .u16 q.2.2)) := by
  obtain ⟨-, -, -, c3, c4, c5, c6, -⟩ := h.2.1.s
  exact ⟨⟨c3, c4, c5, c6⟩, h.2.2.1.2.1, h.2.2.2.1.2.1⟩

/-- A row of the call's own, as a palette or none. -/
theorem palS_of_own {w : World} {base : Nat} {T : TypeId} {v : Value} {n : Nat} {pl : List V} (hl : pl.length = n) (hm : n ≤ maxLen) (hu : ∀ i, i < n → U16 (at3 pl i)) (h : w.ownsRow base T 3 v n (flat pl)) : ∃ a c, v = .slice a n c ∧ PalS w a n pl := by
  rcases pal_of_own hl hm hu h with ⟨h0, h1⟩ | ⟨g, c, h1, _, hP⟩
  · subst h0
    exact ⟨none, 0, h1, .inl ⟨rfl, List.eq_nil_of_length_eq_zero hl⟩⟩
  · exact ⟨_, c, h1, .inr ⟨g, 0, rfl, hP⟩⟩

theorem as_pal (a : Option Addr) (n c : Nat) (pl : List V) (hn : n ≤ 100) (hl : pl.length = n) (hu : ∀ i, i < n → U16 (at3 pl i)) (w : World) (h : PalS w a n pl) :
    Calls Try.prog 11 #[.slice a n c] w fun e w' => (∃ a' c', e = .returned (.slice a' n c') ∧ PalS w' a' n pl) ∧ Below w.heap.size w w' := by
  refine (as_any a n c pl hn w h).mono ?_
  rintro e w' ⟨⟨v, rfl, hv⟩, hb⟩
  obtain ⟨a', c', rfl, hP⟩ := palS_of_own hl (by unfold maxLen; omega) hu hv
  exact ⟨⟨a', c', rfl, hP⟩, hb⟩

theorem near_is2 {v : V} (hv : U16 v) {pl : List V} {a : Option Addr} {n : Nat} (c : Nat) {j : Int} (hj : (near v pl n).1 = j) {w : World} (h : PalS w a n pl) :
    Calls Try.prog 15 #[valT v, .slice a n c] w fun e w' => e = .returned (.int .i64 j) ∧ Below w.heap.size w w' := by
  subst hj
  exact nearest_of hv c h
theorem rnear_is2 {v : V} (hv : U16 v) {pl : List V} {g n : Nat} (c : Nat) {j : Int} (hj : (near v pl n).1 = j) {w : World} (h : PalAt w g 0 n pl) :
    Calls Try.prog 16 #[valT v, .slice (some ⟨g, 0, none⟩) n c] w fun e w' => e = .returned (.int .i64 j) ∧ Below w.heap.size w w' := by
  subst hj
  exact rnearest_any v hv pl g n c w h
theorem res_is {k r g b : Nat} (hr : r < 256) (hg : g < 256) (hb : b < 256) {a : Option Addr} {n : Nat} (c : Nat) {pl : List V} {o R : V} (hR : resV k r g b pl o = R) {w : World} (h : PalS w a n pl) :
    Calls Try.prog 10 #[colA k r g b, .slice a n c, valT o] w fun e w' => e = .returned (valT R) ∧ Below w.heap.size w w' := by
  subst hR
  exact resolve_any k r g b hr hg hb a n c pl o w h
theorem rres_is {k r g b : Nat} (hr : r < 256) (hg : g < 256) (hb : b < 256) {a : Option Addr} {n : Nat} (c : Nat) {pl : List V} {o R : V} (hR : resV k r g b pl o = R) {w : World} (h : PalS w a n pl) :
    Calls Try.prog 12 #[colA k r g b, .slice a n c, valT o] w fun e w' => e = .returned (valT R) ∧ Below w.heap.size w w' := by
  subst hR
  exact rresolve_any k r g b hr hg hb a n c pl o w h
theorem far_is2 {v u : V} {d : Int} (hv : U16 v) (hu : U16 u) (hd : farI v u = d) (w : World) :
    Calls Try.prog 13 #[valT v, valT u] w fun e' w' => e' = .returned (.int .i64 d) ∧ Below w.heap.size w w' :=
  (far_of hv hu w).mono fun e w' ⟨he, hw⟩ => ⟨by rw [he, hd], hw⟩

/-- A value in a block of its own. -/
def NewC (w : World) (N : Nat) (p : V) : Prop := N < w.heap.size ∧ ∀ j u, (cells3 p)[j]? = some u → w.cell? ((⟨N, 0, none⟩ : Addr).add j) = some u
theorem NewC.made (w : World) (p : V) (T : TypeId) : NewC (w.alloc (.cells #[.int .u16 p.1, .int .u16 p.2.1, .int .u16 p.2.2] T)) w.heap.size p := ⟨by simp, new3 w p T _ rfl⟩
theorem add_at (N j : Nat) : (⟨N, 0, none⟩ : Addr).add j = ⟨N, 0 + j, none⟩ := by unfold Addr.add; split <;> simp_all
theorem NewC.past {w : World} {N : Nat} {p : V} (h : NewC w N p) (o : Obj) : NewC (w.alloc o) N p := by
  refine ⟨by have := h.1; simp; omega, fun j u hj => ?_⟩
  have e := h.2 j u hj
  rw [add_at] at e ⊢
  rw [World.cell?_alloc_past _ _ _ h.1]
  exact e
theorem NewC.grown {w w' : World} {N : Nat} {p : V} {row : Option Nat} (h : NewC w N p) (hg : w.grownBy w' row) (hne : some N ≠ row) : NewC w' N p := by
  refine ⟨Nat.lt_of_lt_of_le h.1 hg.size, fun j u hj => ?_⟩
  have e := h.2 j u hj
  rw [add_at] at e ⊢
  exact hg.cell e hne

theorem flat_all : ∀ (l : List V), ∀ u ∈ flat l, u.oneCell' = true
  | [], u, h => by cases h
  | t :: l, u, h => by
    rcases List.mem_append.1 h with h | h
    · exact flat_one t u h
    · exact flat_all l u h
theorem infoR : (Try.prog.info? 30).map (fun i => (i.zero, i.size, i.bytes)) = some (some (.agg #[.int .u16 0, .int .u16 0, .int .u16 0]), 3, 6) := by kernel_rfl
theorem TF.drew {w0 w : World} {b7 b8 : Nat} {p q : V} {x : Asked} {ps : List V} (h : TF w0 w b7 b8 p q x ps) : TF w0 w.drew b7 b8 p q x ps := h.below (Below.refl _ _).drew
theorem TF.cells {w0 w : World} {b7 b8 : Nat} {p q : V} {x : Asked} {ps : List V} (h : TF w0 w b7 b8 p q x ps) : w.cell? ⟨w0.heap.size + 1, 1, none⟩ = some (.int .u16 x.place) ∧ w.cell? ⟨w0.heap.size + 1, 2, none⟩ = some (.int .u8 x.byte) ∧ (w.cell? ⟨b7, 0, none⟩ = some (.int .u16 p.1) ∧ w.cell? ⟨b7, 1, none⟩ = some (.int .u16 p.2.1) ∧ w.cell? ⟨b7, 2, none⟩ = some (.int .u16 p.2.2)) :=
  ⟨h.2.1.s.2.1, h.2.1.s.2.2.1, h.2.2.1.2.1⟩

/-- Bytes lie at the head of a block, and can be written. -/
def SpecAt (w : World) (B : Nat) (l : List UInt8) : Prop := B < w.heap.size ∧ (∀ j, j < l.length → w.cell? ⟨B, j, none⟩ = some (.int .u8 ((l[j]?.getD 0).toNat : Nat))) ∧ ∀ j, j < l.length → w.frozen? ⟨B, j, none⟩ = false
theorem SpecAt.below {w w' : World} {B : Nat} {l : List UInt8} (h : SpecAt w B l) (hb : Below w.heap.size w w') : SpecAt w' B l :=
  ⟨Nat.lt_of_lt_of_le h.1 hb.size, fun j hj => (hb.cell (p := ⟨B, j, none⟩) h.1).trans (h.2.1 j hj), fun j hj => (hb.frozen (p := ⟨B, j, none⟩) h.1).trans (h.2.2 j hj)⟩

theorem SpecAt.made (w : World) (S : ByteArray) (C : Nat) (T : TypeId) : SpecAt (w.drew.alloc (.cells (bytesRow S C) T ((bytesRow S C).size, (bytesRow S C).size + 1))) w.heap.size S.data.toList := by
  have hsz : S.data.size ≤ (bytesRow S C).size := by unfold bytesRow; simp
  refine ⟨by show w.heap.size < (w.drew.alloc _).heap.size; simp, fun j hj => ?_, fun j hj => ?_⟩
  · have hj' : j < S.data.size := by simpa using hj
    have e := World.cell?_alloc_mark w.drew (bytesRow S C) T ((bytesRow S C).size, (bytesRow S C).size + 1) j
    have e2 : (⟨w.drew.heap.size, j, none⟩ : Addr) = ⟨w.heap.size, j, none⟩ := rfl
    rw [e2] at e
    rw [e, bytesRow_at S C j hj']
    rw [List.getElem?_eq_getElem hj]
    rfl
  · have hj' : j < S.data.size := by simpa using hj
    have e := World.frozen?_alloc_mark w.drew (bytesRow S C) T (bytesRow S C).size ((bytesRow S C).size + 1) j
    have e2 : (⟨w.drew.heap.size, j, none⟩ : Addr) = ⟨w.heap.size, j, none⟩ := rfl
    rw [e2] at e
    rw [e, decide_eq_false (by omega)]
    rfl

theorem SpecAt.put {w : World} {B : Nat} {l : List UInt8} (h : SpecAt w B l) (j : Nat) (hj : j < l.length) (c : Nat) (hc : c < 256) : SpecAt (w.setCell ⟨B, j, none⟩ (.int .u8 c)) B (l.set j (UInt8.ofNat c)) := by
  have hcc : (UInt8.ofNat c).toNat = c := by simp; omega
  refine ⟨by simp; exact h.1, fun i hi => ?_, fun i hi => ?_⟩
  · rw [List.length_set] at hi
    by_cases e : i = j
    · subst e
      rw [World.cell?_setCell_same _ _ _ (h.2.1 i hi), List.getElem?_set_self hi]
      simp only [Option.getD_some, hcc]
    · rw [World.cell?_setCell_other _ _ _ _ (by intro e2; cases e2; exact e rfl), h.2.1 i hi, List.getElem?_set_ne (fun e2 => e e2.symm)]
  · rw [List.length_set] at hi
    rw [World.frozen?_setCell]
    exact h.2.2 i hi

theorem fmt_is {p : V} {S : ByteArray} (hp : U16 p) (hS : bs (formL p.1 p.2.1 p.2.2) = S) (w : World) : Calls Try.prog 7 #[valT p] w fun e w' => e = .returned (.string S) ∧ Below w.heap.size w w' := by
  subst hS
  exact format_any p.1 p.2.1 p.2.2 hp.1 hp.2.1 hp.2.2 w
theorem rfmt_is {p : V} {S : ByteArray} (hp : U16 p) (hS : bs (formL p.1 p.2.1 p.2.2) = S) (w : World) : Calls Try.prog 5 #[valT p] w fun e w' => e = .returned (.string S) ∧ Below w.heap.size w w' := by
  subst hS
  exact rformat_any p.1 p.2.1 p.2.2 hp.1 hp.2.1 hp.2.2 w

theorem spec_str {w : World} {B C k : Nat} {l : List UInt8} {K : ByteArray} (h : SpecAt w B l) (hk : k ≤ l.length) (hK : (⟨(l.take k).toArray⟩ : ByteArray) = K) :
    (convert 31 9 (.slice (some ⟨B, 0, none⟩) k C)).run Try.prog w = .ok (.string K) w := by
  subst hK
  have hl : (l.take k).length = k := by simp; omega
  have := run_convert_bytes_back (P := Try.prog) w 31 9 5 ⟨B, 0, none⟩ C (l.take k) Try.underlying31 Try.underlying5 Try.underlying9 (fun j hj => by
    have hadd : (⟨B, 0, none⟩ : Addr).add j = ⟨B, j, none⟩ := by unfold Addr.add; split <;> simp_all
    have hj2 : j < l.length := by simp at hj; omega
    rw [hadd, h.2.1 j hj2, List.getElem_take, List.getElem?_eq_getElem hj2]
    rfl)
  rw [hl] at this
  exact this

set_option maxRecDepth 100000 in
set_option maxHeartbeats 8000000 in
theorem colorTells_any (s : ByteArray) (hs : s.size ≤ maxLen) (p q : V) (hp : U16 p) (hq0 : U16 q) (x : Asked) (h1 : x.place < 65536) (h2 : x.byte < 256) (h3 : x.r < 256 ∧ x.g < 256 ∧ x.b < 256) (ps : List V) (w : World) (h : PalS w x.a x.len ps) :
    Calls Try.prog 3 #[.string s, .agg #[.int .u16 p.1, .int .u16 p.2.1, .int .u16 p.2.2, .int .u16 q.1, .int .u16 q.2.1, .int .u16 q.2.2], .agg x.cells] w fun e w' => e = .returned (.bool true) ∧ Below w.heap.size w w' := by
  unfold maxLen at hs
  have H := Lib.hid h
  clear h
  obtain ⟨S, hS⟩ : ∃ S, bs (formL p.1 p.2.1 p.2.2) = S := ⟨_, rfl⟩
  have hS1 : S.size = 18 := by rw [← hS]; simp [Lib.size_eq, formL, hex4]
  have hSl : S.data.toList.length = 18 := by rw [← Lib.size_eq]; exact hS1
  have HS := Lib.hid hS
  have HSL := Lib.hid hSl
  clear hS hSl
  go_enter Try.func3, Try.ntmps3
  go_upto_region 2 with (fail)
  have ht1 : (s.extract 0 (min (s.size : Int) 40).toNat).size ≤ 40 := by simp; omega
  generalize s.extract 0 (min (s.size : Int) 40).toNat = t at *
  have d0 : w.heap.size + 1 < ((w.alloc (.cells #[.int .u16 p.1, .int .u16 p.2.1, .int .u16 p.2.2, .int .u16 q.1, .int .u16 q.2.1, .int .u16 q.2.2] 24)).alloc (.cells x.cells 29)).heap.size := by simp
  have AX : AskAt ((w.alloc (.cells #[.int .u16 p.1, .int .u16 p.2.1, .int .u16 p.2.2, .int .u16 q.1, .int .u16 q.2.1, .int .u16 q.2.2] 24)).alloc (.cells x.cells 29)) (w.heap.size + 1) x := AskAt.newAt _ _ (by simp) x _
  have HB : Below w.heap.size w ((w.alloc (.cells #[.int .u16 p.1, .int .u16 p.2.1, .int .u16 p.2.2, .int .u16 q.1, .int .u16 q.2.1, .int .u16 q.2.2] 24)).alloc (.cells x.cells 29)) := ((Below.refl _ _).alloc (Nat.le_refl _) _).alloc (by simp) _
  have cc : ∀ i, i < 6 → ((w.alloc (.cells #[.int .u16 p.1, .int .u16 p.2.1, .int .u16 p.2.2, .int .u16 q.1, .int .u16 q.2.1, .int .u16 q.2.2] 24)).alloc (.cells x.cells 29)).cell? ⟨w.heap.size, i, none⟩ = (#[.int .u16 p.1, .int .u16 p.2.1, .int .u16 p.2.2, .int .u16 q.1, .int .u16 q.2.1, .int .u16 q.2.2] : Array Value)[i]? := by
    intro i hi
    rw [World.cell?_alloc_past _ _ _ (by simp), World.cell?_alloc_at _ _ _ _ rfl]
  have c0 := cc 0 (by decide)
  have c1 := cc 1 (by decide)
  have c2 := cc 2 (by decide)
  have c3 := cc 3 (by decide)
  have c4 := cc 4 (by decide)
  have c5 := cc 5 (by decide)
  clear cc
  generalize ((w.alloc (.cells #[.int .u16 p.1, .int .u16 p.2.1, .int .u16 p.2.2, .int .u16 q.1, .int .u16 q.2.1, .int .u16 q.2.2] 24)).alloc (.cells x.cells 29)) = wa at *
  simp only [List.getElem?_toArray, List.getElem?_cons_zero, List.getElem?_cons_succ] at c0 c1 c2 c3 c4 c5
  have HAX := Lib.hid AX
  have HHB := Lib.hid HB
  have n1 : ¬ w.heap.size = wa.heap.size := by omega
  have n2 : ¬ w.heap.size = wa.heap.size + 1 := by omega
  have l1 : w.heap.size < wa.heap.size := by omega
  have l2 : w.heap.size < wa.heap.size + 1 := by omega
  clear AX HB
  go_cut [7, 8] (fun y z wc => ∃ b7 b8 : Nat, y = .pointer (some ⟨b7, 0, none⟩) ∧ z = .pointer (some ⟨b8, 0, none⟩) ∧ Hid (TF w wc b7 b8 p q x ps))
  case first =>
    go_region
    all_goals
      go_wp2_with fail
      go_meet
      case rel => first
        | exact ⟨_, _, rfl, rfl, Lib.hid (TF.drew ⟨((HHB.out.alloc (by omega) _).alloc (by simp; omega) _), ((HAX.out.below ((Below.refl _ _).alloc (Nat.le_refl _) _)).below ((Below.refl _ _).alloc (Nat.le_refl _) _)), (V3.newAt wa _ rfl _ _ _ _).past _, V3.newAt (wa.alloc _) (wa.heap.size + 1) (by simp) _ _ _ _, H.out.below ((HHB.out.alloc (by omega) _).alloc (by simp; omega) _)⟩)⟩
        | exact ⟨_, _, rfl, rfl, Lib.hid (TF.drew ⟨((HHB.out.alloc (by omega) _).alloc (by simp; omega) _), ((HAX.out.below ((Below.refl _ _).alloc (Nat.le_refl _) _)).below ((Below.refl _ _).alloc (Nat.le_refl _) _)), V3.newAt (wa.alloc _) (wa.heap.size + 1) (by simp) _ _ _ _, (V3.newAt wa _ rfl _ _ _ _).past _, H.out.below ((HHB.out.alloc (by omega) _).alloc (by simp; omega) _)⟩)⟩
  case rest =>
    obtain ⟨b7, b8, rfl, rfl, hF⟩ := hcut
    obtain ⟨wx, rfl⟩ : ∃ wx : World, wx = wc := ⟨_, rfl⟩
    clear c0 c1 c2 c3 c4 c5 n1 n2 l1 l2 d0 HAX HHB H
    obtain ⟨y0, y1, y2⟩ := hF.out.2.2.1.2.1
    go_wp2_with fail
    refine (rformat_any p.1 p.2.1 p.2.2 hp.1 hp.2.1 hp.2.2 _).mono ?_
    rintro e w6 ⟨rfl, hb6⟩
    rw [HS.out]
    have kc := run_bytes_of_string (P := Try.prog) w6 9 31 5 S Try.underlying9 Try.underlying31 Try.underlying5
    have hcap := grownCap_ge w6 S.size 0 5
    have hcap2 := grownCap_le_maxLen w6 S.size 0 5 (by rw [hS1]; decide)
    generalize grownCap w6 S.size 0 5 = C at *
    have SP := SpecAt.made w6 S C 5
    have BX : Below wx.heap.size wx (w6.drew.alloc (.cells (bytesRow S C) 5 ((bytesRow S C).size, (bytesRow S C).size + 1))) := hb6.drew.alloc hb6.size _
    have lB : wx.heap.size ≤ w6.heap.size := hb6.size
    generalize w6.drew.alloc (.cells (bytesRow S C) 5 ((bytesRow S C).size, (bytesRow S C).size + 1)) = w7 at *
    generalize w6.heap.size = B at *
    rw [hS1] at hcap kc
    have lC : (18 : Int) ≤ (C : Int) := by omega
    unfold maxLen at hcap2
    have HSP := Lib.hid SP
    have HBX := Lib.hid BX
    clear SP BX y0 y1 y2 hb6
    obtain ⟨j, hj⟩ : ∃ j : Nat, j = x.place % 18 := ⟨_, rfl⟩
    have hj2 : (x.place : Int).tmod 18 = (j : Int) := by rw [Int.tmod_eq_emod_of_nonneg (by omega)]; omega
    have hj5 : (x.place : Int) % 18 = (j : Int) := by omega
    have hj3 : j < 18 := by omega
    have w1 : IntKind.i64.wrap (x.place : Int) = (x.place : Int) := IntWalk.i64_in _ (by omega)
    have hj4 : (j : Int) < 18 := by omega
    clear hj
    go_upto_region 4 with (fail)
    clear kc
    have RT := (hF.out.below HBX.out).cells
    have BS : Below wx.heap.size wx (w7.setCell ⟨B, j, none⟩ (.int .u8 x.byte)).drew := (HBX.out.setCell lB _).drew
    refine wp_region_held_drew (S := fun w' => w'.cell? ⟨w.heap.size + 1, 1, none⟩ = some (.int .u16 x.place) ∧ w'.cell? ⟨w.heap.size + 1, 2, none⟩ = some (.int .u8 x.byte)) (by kernel_rfl) ?_ (fun hHeld => ?_)
    · exact ⟨RT.1, RT.2.1⟩
    refine take_at (i := 0) (v := ?_) rfl (by kernel_rfl) (by kernel_rfl) (by kernel_rfl) (fun _ _ _ h => h) (by kernel_rfl) (by assumption) ?_ ?_
    rotate_left
    · (intro w hSw; (try dsimp only at hSw); go_simp; try with_reducible rfl)
    simp only [Act.put, List.setIfInBounds_toArray, List.set_cons_zero, List.set_cons_succ]
    refine take_at (i := 1) (v := ?_) rfl (by kernel_rfl) (by kernel_rfl) (by kernel_rfl) (fun _ _ _ h => h) (by kernel_rfl) (by assumption) ?_ ?_
    rotate_left
    · (intro w hSw; (try dsimp only at hSw); go_simp; try with_reducible rfl)
    simp only [Act.put, List.setIfInBounds_toArray, List.set_cons_zero, List.set_cons_succ]
    refine take_at (i := 2) (v := ?_) rfl (by kernel_rfl) (by kernel_rfl) (by kernel_rfl) (fun _ _ _ h => h) (by kernel_rfl) (by assumption) ?_ ?_
    rotate_left
    · (intro w hSw; (try dsimp only at hSw); go_simp; try with_reducible rfl)
    simp only [Act.put, List.setIfInBounds_toArray, List.set_cons_zero, List.set_cons_succ]
    refine take_at (i := 3) (v := ?_) rfl (by kernel_rfl) (by kernel_rfl) (by kernel_rfl) (fun _ _ _ h => h) (by kernel_rfl) (by assumption) ?_ ?_
    rotate_left
    · (intro w hSw; (try dsimp only at hSw); go_simp; try with_reducible rfl)
    simp only [Act.put, List.setIfInBounds_toArray, List.set_cons_zero, List.set_cons_succ]
    refine take_at (i := 4) (v := ?_) rfl (by kernel_rfl) (by kernel_rfl) (by kernel_rfl) (fun _ _ _ h => h) (by kernel_rfl) (by assumption) ?_ ?_
    rotate_left
    · (intro w hSw; (try dsimp only at hSw); go_simp; try with_reducible rfl)
    simp only [Act.put, List.setIfInBounds_toArray, List.set_cons_zero, List.set_cons_succ]
    refine take_at (i := 5) (v := ?_) rfl (by kernel_rfl) (by kernel_rfl) (by kernel_rfl) (fun _ _ _ h => h) (by kernel_rfl) (by assumption) ?_ ?_
    rotate_left
    · (intro w hSw; (try dsimp only at hSw); go_simp; try with_reducible rfl)
    simp only [Act.put, List.setIfInBounds_toArray, List.set_cons_zero, List.set_cons_succ]
    refine take_at (i := 6) (v := ?_) rfl (by kernel_rfl) (by kernel_rfl) (by kernel_rfl) (fun _ _ _ h => h) (by kernel_rfl) (by assumption) ?_ ?_
    rotate_left
    · (intro w hSw; (try dsimp only at hSw); go_simp; try with_reducible rfl)
    simp only [Act.put, List.setIfInBounds_toArray, List.set_cons_zero, List.set_cons_succ]
    refine take_at (i := 7) (v := ?_) rfl (by kernel_rfl) (by kernel_rfl) (by kernel_rfl) (fun _ _ _ h => h) (by kernel_rfl) (by assumption) ?_ ?_
    rotate_left
    · (intro w hSw; (try dsimp only at hSw); go_simp; try with_reducible rfl)
    simp only [Act.put, List.setIfInBounds_toArray, List.set_cons_zero, List.set_cons_succ]
    refine take_at (i := 8) (v := ?_) rfl (by kernel_rfl) (by kernel_rfl) (by kernel_rfl) (fun _ _ _ h => h) (by kernel_rfl) (by assumption) ?_ ?_
    rotate_left
    · (intro w hSw; (try dsimp only at hSw); go_simp; try with_reducible rfl)
    simp only [Act.put, List.setIfInBounds_toArray, List.set_cons_zero, List.set_cons_succ]
    refine take_at (i := 9) (v := ?_) rfl (by kernel_rfl) (by kernel_rfl) (by kernel_rfl) (fun _ _ _ h => h) (by kernel_rfl) (by assumption) ?_ ?_
    rotate_left
    · (intro w hSw; (try dsimp only at hSw); go_simp; try with_reducible rfl)
    simp only [Act.put, List.setIfInBounds_toArray, List.set_cons_zero, List.set_cons_succ]
    refine do_at (i := 10) rfl (by kernel_rfl) (by kernel_rfl) (fun K hK => ?_)
    obtain ⟨z1, z2, z3⟩ := HSP.out
    have c0 := z2 j (by rw [HSL.out]; exact hj3)
    have c1 := z3 j (by rw [HSL.out]; exact hj3)
    go_simp
    refine hK.out _ _ ?_ (fun hHeld => ?_)
    · exact ⟨(hF.out.below BS).cells.1, (hF.out.below BS).cells.2.1⟩
    clear hK K
    try simp only [Act.put, List.setIfInBounds_toArray, List.set_cons_zero, List.set_cons_succ]
    refine wpAnyH_done (by kernel_rfl) ?_ _
    have RQ : Below wx.heap.size wx (w7.setCell ⟨B, j, none⟩ (.int .u8 x.byte)).drew ∧ SpecAt (w7.setCell ⟨B, j, none⟩ (.int .u8 x.byte)).drew B (S.data.toList.set j (UInt8.ofNat x.byte)) :=
      ⟨BS, (HSP.out.put j (by rw [HSL.out]; exact hj3) x.byte h2).below (Below.refl _ _).drew⟩
    clear z1 z2 z3 c0 c1 HSP HBX RT BS hHeld
    generalize (w7.setCell ⟨B, j, none⟩ (.int .u8 x.byte)).drew = w9 at *
    obtain ⟨l2, hl2⟩ : ∃ l, S.data.toList.set j (UInt8.ofNat x.byte) = l := ⟨_, rfl⟩
    have hl3 : l2.length = 18 := by rw [← hl2, List.length_set]; exact HSL.out
    rw [hl2] at RQ
    clear hl2
    obtain ⟨m, hm⟩ : ∃ m : Nat, m = x.place % 19 := ⟨_, rfl⟩
    have hm2 : (x.place : Int).tmod 19 = (m : Int) := by rw [Int.tmod_eq_emod_of_nonneg (by omega)]; omega
    have hm5 : (x.place : Int) % 19 = (m : Int) := by omega
    have hm3 : m ≤ 18 := by omega
    have hm4 : (m : Int) ≤ (C : Int) := by omega
    obtain ⟨K1, hK1⟩ : ∃ K, (⟨(l2.take 18).toArray⟩ : ByteArray) = K := ⟨_, rfl⟩
    obtain ⟨K2, hK2⟩ : ∃ K, (⟨(l2.take m).toArray⟩ : ByteArray) = K := ⟨_, rfl⟩
    have hk1 : K1.size ≤ 4096 := by rw [← hK1, Lib.size_eq]; simp; omega
    have hk2 : K2.size ≤ 4096 := by rw [← hK2, Lib.size_eq]; simp; omega
    have ht2 : ((⟨#[114, 103, 98, 58]⟩ : ByteArray) ++ t).size ≤ 4096 := by rw [Lib.size_eq]; simp; omega
    have ht3 : ((⟨#[35]⟩ : ByteArray) ++ t).size ≤ 4096 := by rw [Lib.size_eq]; simp; omega
    have w19 : IntKind.i64.wrap 19 = 19 := by decide
    have a4 : ¬ 9223372036854775807 < 4 + t.size := by omega
    have a1 : ¬ 9223372036854775807 < 1 + t.size := by omega
    have HK1 := Lib.hid hK1
    have HK2 := Lib.hid hK2
    have HL2 := Lib.hid hl3
    have T2 := Lib.hid ht2
    have T3 := Lib.hid ht3
    clear hK1 hK2 hl3 hj2 hj3 hj4 hj5 hm ht2 ht3
    go_upto_region 5 with (fail)
    have RQ' := And.intro RQ.1.drew (RQ.2.below (Below.refl _ _).drew)
    clear RQ
    have RQ := RQ'
    clear RQ'
    refine wp_region_held_drew (S := fun w' => w'.cell? ⟨w.heap.size + 1, 1, none⟩ = some (.int .u16 x.place) ∧ (w'.cell? ⟨b7, 0, none⟩ = some (.int .u16 p.1) ∧ w'.cell? ⟨b7, 1, none⟩ = some (.int .u16 p.2.1) ∧ w'.cell? ⟨b7, 2, none⟩ = some (.int .u16 p.2.2)) ∧ SpecAt w' B l2) (by kernel_rfl) ?_ (fun hHeld => ?_)
    · exact ⟨(hF.out.below RQ.1).cells.1, (hF.out.below RQ.1).cells.2.2, RQ.2⟩
    refine take_at (i := 0) (v := ?_) rfl (by kernel_rfl) (by kernel_rfl) (by kernel_rfl) (fun _ _ _ h => h) (by kernel_rfl) (by assumption) ?_ ?_
    rotate_left
    · (intro w hSw; (try dsimp only at hSw); go_simp; try with_reducible rfl)
    simp only [Act.put, List.setIfInBounds_toArray, List.set_cons_zero, List.set_cons_succ]
    refine do_at (i := 1) rfl (by kernel_rfl) (by kernel_rfl) (fun K hK => ?_)
    go_simp
    refine (parses_any t (by omega) _).mono ?_
    rintro e w6 ⟨rfl, hb6⟩
    have RQ' := And.intro (bstep RQ.1 hb6) (RQ.2.below hb6)
    clear RQ hb6
    have RQ := RQ'
    clear RQ'
    go_wp2_with fail
    refine hK.out _ _ ?_ (fun hHeld => ?_)
    · exact ⟨(hF.out.below RQ.1).cells.1, (hF.out.below RQ.1).cells.2.2, RQ.2⟩
    clear hK K
    try simp only [Act.put, List.setIfInBounds_toArray, List.set_cons_zero, List.set_cons_succ]
    refine take_at (i := 2) (v := ?_) rfl (by kernel_rfl) (by kernel_rfl) (by kernel_rfl) (fun _ _ _ h => h) (by kernel_rfl) (by assumption) ?_ ?_
    rotate_left
    · (intro w hSw; (try dsimp only at hSw); go_simp; try with_reducible rfl)
    simp only [Act.put, List.setIfInBounds_toArray, List.set_cons_zero, List.set_cons_succ]
    refine take_at (i := 3) (v := ?_) rfl (by kernel_rfl) (by kernel_rfl) (by kernel_rfl) (fun _ _ _ h => h) (by kernel_rfl) (by assumption) ?_ ?_
    rotate_left
    · (intro w hSw; (try dsimp only at hSw); go_simp; try with_reducible rfl)
    simp only [Act.put, List.setIfInBounds_toArray, List.set_cons_zero, List.set_cons_succ]
    refine take_at (i := 4) (v := ?_) rfl (by kernel_rfl) (by kernel_rfl) (by kernel_rfl) (fun _ _ _ h => h) (by kernel_rfl) (by assumption) ?_ ?_
    rotate_left
    · (intro w hSw; (try dsimp only at hSw); go_simp; try with_reducible rfl)
    simp only [Act.put, List.setIfInBounds_toArray, List.set_cons_zero, List.set_cons_succ]
    refine take_at (i := 5) (v := ?_) rfl (by kernel_rfl) (by kernel_rfl) (by kernel_rfl) (fun _ _ _ h => h) (by kernel_rfl) (by assumption) ?_ ?_
    rotate_left
    · (intro w hSw; (try dsimp only at hSw); go_simp; try with_reducible rfl)
    simp only [Act.put, List.setIfInBounds_toArray, List.set_cons_zero, List.set_cons_succ]
    refine do_at (i := 6) rfl (by kernel_rfl) (by kernel_rfl) (fun K hK => ?_)
    go_simp
    refine (parses_any _ T2.out _).mono ?_
    rintro e w6 ⟨rfl, hb6⟩
    have RQ' := And.intro (bstep RQ.1 hb6) (RQ.2.below hb6)
    clear RQ hb6
    have RQ := RQ'
    clear RQ'
    go_wp2_with fail
    refine hK.out _ _ ?_ (fun hHeld => ?_)
    · exact ⟨(hF.out.below RQ.1).cells.1, (hF.out.below RQ.1).cells.2.2, RQ.2⟩
    clear hK K
    try simp only [Act.put, List.setIfInBounds_toArray, List.set_cons_zero, List.set_cons_succ]
    refine take_at (i := 7) (v := ?_) rfl (by kernel_rfl) (by kernel_rfl) (by kernel_rfl) (fun _ _ _ h => h) (by kernel_rfl) (by assumption) ?_ ?_
    rotate_left
    · (intro w hSw; (try dsimp only at hSw); go_simp; try with_reducible rfl)
    simp only [Act.put, List.setIfInBounds_toArray, List.set_cons_zero, List.set_cons_succ]
    refine take_at (i := 8) (v := ?_) rfl (by kernel_rfl) (by kernel_rfl) (by kernel_rfl) (fun _ _ _ h => h) (by kernel_rfl) (by assumption) ?_ ?_
    rotate_left
    · (intro w hSw; (try dsimp only at hSw); go_simp; try with_reducible rfl)
    simp only [Act.put, List.setIfInBounds_toArray, List.set_cons_zero, List.set_cons_succ]
    refine take_at (i := 9) (v := ?_) rfl (by kernel_rfl) (by kernel_rfl) (by kernel_rfl) (fun _ _ _ h => h) (by kernel_rfl) (by assumption) ?_ ?_
    rotate_left
    · (intro w hSw; (try dsimp only at hSw); go_simp; try with_reducible rfl)
    simp only [Act.put, List.setIfInBounds_toArray, List.set_cons_zero, List.set_cons_succ]
    refine take_at (i := 10) (v := ?_) rfl (by kernel_rfl) (by kernel_rfl) (by kernel_rfl) (fun _ _ _ h => h) (by kernel_rfl) (by assumption) ?_ ?_
    rotate_left
    · (intro w hSw; (try dsimp only at hSw); go_simp; try with_reducible rfl)
    simp only [Act.put, List.setIfInBounds_toArray, List.set_cons_zero, List.set_cons_succ]
    refine take_at (i := 11) (v := ?_) rfl (by kernel_rfl) (by kernel_rfl) (by kernel_rfl) (fun _ _ _ h => h) (by kernel_rfl) (by assumption) ?_ ?_
    rotate_left
    · (intro w hSw; (try dsimp only at hSw); go_simp; try with_reducible rfl)
    simp only [Act.put, List.setIfInBounds_toArray, List.set_cons_zero, List.set_cons_succ]
    refine do_at (i := 12) rfl (by kernel_rfl) (by kernel_rfl) (fun K hK => ?_)
    go_simp
    refine (parses_any _ T3.out _).mono ?_
    rintro e w6 ⟨rfl, hb6⟩
    have RQ' := And.intro (bstep RQ.1 hb6) (RQ.2.below hb6)
    clear RQ hb6
    have RQ := RQ'
    clear RQ'
    go_wp2_with fail
    refine hK.out _ _ ?_ (fun hHeld => ?_)
    · exact ⟨(hF.out.below RQ.1).cells.1, (hF.out.below RQ.1).cells.2.2, RQ.2⟩
    clear hK K
    try simp only [Act.put, List.setIfInBounds_toArray, List.set_cons_zero, List.set_cons_succ]
    refine take_at (i := 13) (v := ?_) rfl (by kernel_rfl) (by kernel_rfl) (by kernel_rfl) (fun _ _ _ h => h) (by kernel_rfl) (by assumption) ?_ ?_
    rotate_left
    · (intro w hSw; (try dsimp only at hSw); go_simp; try with_reducible rfl)
    simp only [Act.put, List.setIfInBounds_toArray, List.set_cons_zero, List.set_cons_succ]
    refine take_at (i := 14) (v := ?_) rfl (by kernel_rfl) (by kernel_rfl) (by kernel_rfl) (fun _ _ _ h => h) (by kernel_rfl) (by assumption) ?_ ?_
    rotate_left
    · (intro w hSw; (try dsimp only at hSw); go_simp; try with_reducible rfl)
    simp only [Act.put, List.setIfInBounds_toArray, List.set_cons_zero, List.set_cons_succ]
    refine take_at (i := 15) (v := ?_) rfl (by kernel_rfl) (by kernel_rfl) (by kernel_rfl) (fun _ _ _ h => h) (by kernel_rfl) (by assumption) ?_ ?_
    rotate_left
    · (intro w hSw; (try dsimp only at hSw); go_simp; try with_reducible rfl)
    simp only [Act.put, List.setIfInBounds_toArray, List.set_cons_zero, List.set_cons_succ]
    refine take_at (i := 16) (v := ?_) rfl (by kernel_rfl) (by kernel_rfl) (by kernel_rfl) (fun _ _ _ h => h) (by kernel_rfl) (by assumption) ?_ ?_
    rotate_left
    · (intro w hSw; (try dsimp only at hSw); go_simp; try with_reducible rfl)
    simp only [Act.put, List.setIfInBounds_toArray, List.set_cons_zero, List.set_cons_succ]
    refine take_at (i := 17) (v := ?_) rfl (by kernel_rfl) (by kernel_rfl) (by kernel_rfl) (fun _ _ _ h => h) (by kernel_rfl) (by assumption) ?_ ?_
    rotate_left
    · (intro w hSw; have kc := spec_str (C := C) hSw.2.2 (k := 18) (K := K1) (by rw [HL2.out]; decide) HK1.out; (try dsimp only at hSw); go_simp; try with_reducible rfl)
    simp only [Act.put, List.setIfInBounds_toArray, List.set_cons_zero, List.set_cons_succ]
    refine do_at (i := 18) rfl (by kernel_rfl) (by kernel_rfl) (fun K hK => ?_)
    go_simp
    refine (parses_any K1 hk1 _).mono ?_
    rintro e w6 ⟨rfl, hb6⟩
    have RQ' := And.intro (bstep RQ.1 hb6) (RQ.2.below hb6)
    clear RQ hb6
    have RQ := RQ'
    clear RQ'
    go_wp2_with fail
    refine hK.out _ _ ?_ (fun hHeld => ?_)
    · exact ⟨(hF.out.below RQ.1).cells.1, (hF.out.below RQ.1).cells.2.2, RQ.2⟩
    clear hK K
    try simp only [Act.put, List.setIfInBounds_toArray, List.set_cons_zero, List.set_cons_succ]
    refine take_at (i := 19) (v := ?_) rfl (by kernel_rfl) (by kernel_rfl) (by kernel_rfl) (fun _ _ _ h => h) (by kernel_rfl) (by assumption) ?_ ?_
    rotate_left
    · (intro w hSw; (try dsimp only at hSw); go_simp; try with_reducible rfl)
    simp only [Act.put, List.setIfInBounds_toArray, List.set_cons_zero, List.set_cons_succ]
    refine take_at (i := 20) (v := ?_) rfl (by kernel_rfl) (by kernel_rfl) (by kernel_rfl) (fun _ _ _ h => h) (by kernel_rfl) (by assumption) ?_ ?_
    rotate_left
    · (intro w hSw; (try dsimp only at hSw); go_simp; try with_reducible rfl)
    simp only [Act.put, List.setIfInBounds_toArray, List.set_cons_zero, List.set_cons_succ]
    refine take_at (i := 21) (v := ?_) rfl (by kernel_rfl) (by kernel_rfl) (by kernel_rfl) (fun _ _ _ h => h) (by kernel_rfl) (by assumption) ?_ ?_
    rotate_left
    · (intro w hSw; (try dsimp only at hSw); go_simp; try with_reducible rfl)
    simp only [Act.put, List.setIfInBounds_toArray, List.set_cons_zero, List.set_cons_succ]
    refine take_at (i := 22) (v := ?_) rfl (by kernel_rfl) (by kernel_rfl) (by kernel_rfl) (fun _ _ _ h => h) (by kernel_rfl) (by assumption) ?_ ?_
    rotate_left
    · (intro w hSw; (try dsimp only at hSw); go_simp; try with_reducible rfl)
    simp only [Act.put, List.setIfInBounds_toArray, List.set_cons_zero, List.set_cons_succ]
    refine take_at (i := 23) (v := ?_) rfl (by kernel_rfl) (by kernel_rfl) (by kernel_rfl) (fun _ _ _ h => h) (by kernel_rfl) (by assumption) ?_ ?_
    rotate_left
    · (intro w hSw; (try dsimp only at hSw); go_simp; try with_reducible rfl)
    simp only [Act.put, List.setIfInBounds_toArray, List.set_cons_zero, List.set_cons_succ]
    refine take_at (i := 24) (v := ?_) rfl (by kernel_rfl) (by kernel_rfl) (by kernel_rfl) (fun _ _ _ h => h) (by kernel_rfl) (by assumption) ?_ ?_
    rotate_left
    · (intro w hSw; (try dsimp only at hSw); go_simp; try with_reducible rfl)
    simp only [Act.put, List.setIfInBounds_toArray, List.set_cons_zero, List.set_cons_succ]
    refine take_at (i := 25) (v := ?_) rfl (by kernel_rfl) (by kernel_rfl) (by kernel_rfl) (fun _ _ _ h => h) (by kernel_rfl) (by assumption) ?_ ?_
    rotate_left
    · (intro w hSw; (try dsimp only at hSw); go_simp; try with_reducible rfl)
    simp only [Act.put, List.setIfInBounds_toArray, List.set_cons_zero, List.set_cons_succ]
    refine take_at (i := 26) (v := ?_) rfl (by kernel_rfl) (by kernel_rfl) (by kernel_rfl) (fun _ _ _ h => h) (by kernel_rfl) (by assumption) ?_ ?_
    rotate_left
    · (intro w hSw; (try dsimp only at hSw); go_simp; try with_reducible rfl)
    simp only [Act.put, List.setIfInBounds_toArray, List.set_cons_zero, List.set_cons_succ]
    refine take_at (i := 27) (v := ?_) rfl (by kernel_rfl) (by kernel_rfl) (by kernel_rfl) (fun _ _ _ h => h) (by kernel_rfl) (by assumption) ?_ ?_
    rotate_left
    · (intro w hSw; (try dsimp only at hSw); go_simp; try with_reducible rfl)
    simp only [Act.put, List.setIfInBounds_toArray, List.set_cons_zero, List.set_cons_succ]
    refine take_at (i := 28) (v := ?_) rfl (by kernel_rfl) (by kernel_rfl) (by kernel_rfl) (fun _ _ _ h => h) (by kernel_rfl) (by assumption) ?_ ?_
    rotate_left
    · (intro w hSw; (try dsimp only at hSw); go_simp; try with_reducible rfl)
    simp only [Act.put, List.setIfInBounds_toArray, List.set_cons_zero, List.set_cons_succ]
    refine take_at (i := 29) (v := ?_) rfl (by kernel_rfl) (by kernel_rfl) (by kernel_rfl) (fun _ _ _ h => h) (by kernel_rfl) (by assumption) ?_ ?_
    rotate_left
    · (intro w hSw; (try dsimp only at hSw); go_simp; try with_reducible rfl)
    simp only [Act.put, List.setIfInBounds_toArray, List.set_cons_zero, List.set_cons_succ]
    refine take_at (i := 30) (v := ?_) rfl (by kernel_rfl) (by kernel_rfl) (by kernel_rfl) (fun _ _ _ h => h) (by kernel_rfl) (by assumption) ?_ ?_
    rotate_left
    · (intro w hSw; (try dsimp only at hSw); go_simp; try with_reducible rfl)
    simp only [Act.put, List.setIfInBounds_toArray, List.set_cons_zero, List.set_cons_succ]
    refine take_at (i := 31) (v := ?_) rfl (by kernel_rfl) (by kernel_rfl) (by kernel_rfl) (fun _ _ _ h => h) (by kernel_rfl) (by assumption) ?_ ?_
    rotate_left
    · (intro w hSw; have kc := spec_str (C := C) hSw.2.2 (k := m) (K := K2) (by rw [HL2.out]; exact hm3) HK2.out; (try dsimp only at hSw); go_simp; try with_reducible rfl)
    simp only [Act.put, List.setIfInBounds_toArray, List.set_cons_zero, List.set_cons_succ]
    refine do_at (i := 32) rfl (by kernel_rfl) (by kernel_rfl) (fun K hK => ?_)
    go_simp
    refine (parses_any K2 hk2 _).mono ?_
    rintro e w6 ⟨rfl, hb6⟩
    have RQ' := And.intro (bstep RQ.1 hb6) (RQ.2.below hb6)
    clear RQ hb6
    have RQ := RQ'
    clear RQ'
    go_wp2_with fail
    refine hK.out _ _ ?_ (fun hHeld => ?_)
    · exact ⟨(hF.out.below RQ.1).cells.1, (hF.out.below RQ.1).cells.2.2, RQ.2⟩
    clear hK K
    try simp only [Act.put, List.setIfInBounds_toArray, List.set_cons_zero, List.set_cons_succ]
    refine take_at (i := 33) (v := ?_) rfl (by kernel_rfl) (by kernel_rfl) (by kernel_rfl) (fun _ _ _ h => h) (by kernel_rfl) (by assumption) ?_ ?_
    rotate_left
    · (intro w hSw; (try dsimp only at hSw); go_simp; try with_reducible rfl)
    simp only [Act.put, List.setIfInBounds_toArray, List.set_cons_zero, List.set_cons_succ]
    refine take_at (i := 34) (v := ?_) rfl (by kernel_rfl) (by kernel_rfl) (by kernel_rfl) (fun _ _ _ h => h) (by kernel_rfl) (by assumption) ?_ ?_
    rotate_left
    · (intro w hSw; (try dsimp only at hSw); go_simp; try with_reducible rfl)
    simp only [Act.put, List.setIfInBounds_toArray, List.set_cons_zero, List.set_cons_succ]
    refine take_at (i := 35) (v := ?_) rfl (by kernel_rfl) (by kernel_rfl) (by kernel_rfl) (fun _ _ _ h => h) (by kernel_rfl) (by assumption) ?_ ?_
    rotate_left
    · (intro w hSw; (try dsimp only at hSw); go_simp; try with_reducible rfl)
    simp only [Act.put, List.setIfInBounds_toArray, List.set_cons_zero, List.set_cons_succ]
    refine take_at (i := 36) (v := ?_) rfl (by kernel_rfl) (by kernel_rfl) (by kernel_rfl) (fun _ _ _ h => h) (by kernel_rfl) (by assumption) ?_ ?_
    rotate_left
    · (intro w hSw; (try dsimp only at hSw); go_simp; try with_reducible rfl)
    simp only [Act.put, List.setIfInBounds_toArray, List.set_cons_zero, List.set_cons_succ]
    refine take_at (i := 38) (v := ?_) rfl (by kernel_rfl) (by kernel_rfl) (by kernel_rfl) (fun _ _ _ h => h) (by kernel_rfl) (by assumption) ?_ ?_
    rotate_left
    · (intro w hSw; (try dsimp only at hSw); go_simp; try with_reducible rfl)
    simp only [Act.put, List.setIfInBounds_toArray, List.set_cons_zero, List.set_cons_succ]
    refine do_at (i := 37) rfl (by kernel_rfl) (by kernel_rfl) (fun K hK => ?_)
    go_simp
    refine (fmt_is hp HS.out _).mono ?_
    rintro e w6 ⟨rfl, hb6⟩
    have RQ' := And.intro (bstep RQ.1 hb6) (RQ.2.below hb6)
    clear RQ hb6
    have RQ := RQ'
    clear RQ'
    go_wp2_with fail
    refine hK.out _ _ ?_ (fun hHeld => ?_)
    · exact ⟨(hF.out.below RQ.1).cells.1, (hF.out.below RQ.1).cells.2.2, RQ.2⟩
    clear hK K
    try simp only [Act.put, List.setIfInBounds_toArray, List.set_cons_zero, List.set_cons_succ]
    refine do_at (i := 39) rfl (by kernel_rfl) (by kernel_rfl) (fun K hK => ?_)
    go_simp
    refine (rfmt_is hp HS.out _).mono ?_
    rintro e w6 ⟨rfl, hb6⟩
    have RQ' := And.intro (bstep RQ.1 hb6) (RQ.2.below hb6)
    clear RQ hb6
    have RQ := RQ'
    clear RQ'
    go_wp2_with fail
    refine hK.out _ _ ?_ (fun hHeld => ?_)
    · exact ⟨(hF.out.below RQ.1).cells.1, (hF.out.below RQ.1).cells.2.2, RQ.2⟩
    clear hK K
    try simp only [Act.put, List.setIfInBounds_toArray, List.set_cons_zero, List.set_cons_succ]
    refine take_at (i := 40) (v := ?_) rfl (by kernel_rfl) (by kernel_rfl) (by kernel_rfl) (fun _ _ _ h => h) (by kernel_rfl) (by assumption) ?_ ?_
    rotate_left
    · (intro w hSw; (try dsimp only at hSw); go_simp; try with_reducible rfl)
    simp only [Act.put, List.setIfInBounds_toArray, List.set_cons_zero, List.set_cons_succ]
    refine take_at (i := 41) (v := ?_) rfl (by kernel_rfl) (by kernel_rfl) (by kernel_rfl) (fun _ _ _ h => h) (by kernel_rfl) (by assumption) ?_ ?_
    rotate_left
    · (intro w hSw; (try dsimp only at hSw); go_simp; try with_reducible rfl)
    simp only [Act.put, List.setIfInBounds_toArray, List.set_cons_zero, List.set_cons_succ]
    refine wpAnyH_done (by kernel_rfl) ?_ _
    clear hHeld a4 a1 w19 hm2 hm3 hm4 hm5 hk1 hk2 HK1 HK2 HL2 T2 T3 ht1 HS HSL hS1 lC lB w1
    obtain ⟨D1, hD1⟩ : ∃ D, defV x.n = D := ⟨_, rfl⟩
    obtain ⟨E1, hE1⟩ : ∃ E, defB x.n = E := ⟨_, rfl⟩
    obtain ⟨D2, hD2⟩ : ∃ D, defV (x.place : Int) = D := ⟨_, rfl⟩
    obtain ⟨E2, hE2⟩ : ∃ E, defB (x.place : Int) = E := ⟨_, rfl⟩
    have HD1 := Lib.hid hD1
    have HE1 := Lib.hid hE1
    have HD2 := Lib.hid hD2
    have HE2 := Lib.hid hE2
    have KX := RQ.1
    clear hD1 hE1 hD2 hE2 RQ
    obtain ⟨y0, y1, -⟩ := (hF.out.below KX).2.1.s
    go_wp2_with fail
    refine (default_any x.n _).mono ?_
    rintro e u0 ⟨rfl, hbu⟩
    rw [HD1.out, HE1.out]
    go_upto_region 8 with (fail)
    have KX' : Below wx.heap.size wx (u0.alloc (.cells #[.int .u16 D1.1, .int .u16 D1.2.1, .int .u16 D1.2.2] 35)) := (bstep KX hbu).alloc (bstep KX hbu).size _
    have VV0 : V3 (u0.alloc (.cells #[.int .u16 D1.1, .int .u16 D1.2.1, .int .u16 D1.2.2] 35)) u0.heap.size D1.1 D1.2.1 D1.2.2 := V3.newAt _ _ rfl _ _ _ _
    clear KX y0 y1 hbu 
    have KX := KX'
    clear KX'
    generalize u0.alloc (.cells #[.int .u16 D1.1, .int .u16 D1.2.1, .int .u16 D1.2.2] 35) = x0 at *
    generalize u0.heap.size = o0 at *
    obtain ⟨y0, y1, -⟩ := (hF.out.below KX).2.1.s
    go_wp2_with fail
    refine (rdefault_any x.n _).mono ?_
    rintro e u1 ⟨rfl, hbu⟩
    rw [HD1.out, HE1.out]
    go_upto_region 9 with (fail)
    have KX' : Below wx.heap.size wx (u1.alloc (.cells #[.int .u16 D1.1, .int .u16 D1.2.1, .int .u16 D1.2.2] 30)) := (bstep KX hbu).alloc (bstep KX hbu).size _
    have VV1 : V3 (u1.alloc (.cells #[.int .u16 D1.1, .int .u16 D1.2.1, .int .u16 D1.2.2] 30)) u1.heap.size D1.1 D1.2.1 D1.2.2 := V3.newAt _ _ rfl _ _ _ _
    have VV0' := (VV0.below hbu).past (.cells #[.int .u16 D1.1, .int .u16 D1.2.1, .int .u16 D1.2.2] 30)
    clear KX y0 y1 hbu VV0
    have KX := KX'
    clear KX'
    have VV0 := VV0'
    clear VV0'
    generalize u1.alloc (.cells #[.int .u16 D1.1, .int .u16 D1.2.1, .int .u16 D1.2.2] 30) = x1 at *
    generalize u1.heap.size = o1 at *
    obtain ⟨y0, y1, -⟩ := (hF.out.below KX).2.1.s
    go_wp2_with fail
    refine (default_any (x.place : Int) _).mono ?_
    rintro e u2 ⟨rfl, hbu⟩
    rw [HD2.out, HE2.out]
    go_upto_region 10 with (fail)
    have KX' : Below wx.heap.size wx (u2.alloc (.cells #[.int .u16 D2.1, .int .u16 D2.2.1, .int .u16 D2.2.2] 35)) := (bstep KX hbu).alloc (bstep KX hbu).size _
    have VV2 : V3 (u2.alloc (.cells #[.int .u16 D2.1, .int .u16 D2.2.1, .int .u16 D2.2.2] 35)) u2.heap.size D2.1 D2.2.1 D2.2.2 := V3.newAt _ _ rfl _ _ _ _
    have VV0' := (VV0.below hbu).past (.cells #[.int .u16 D2.1, .int .u16 D2.2.1, .int .u16 D2.2.2] 35)
    have VV1' := (VV1.below hbu).past (.cells #[.int .u16 D2.1, .int .u16 D2.2.1, .int .u16 D2.2.2] 35)
    clear KX y0 y1 hbu VV0 VV1
    have KX := KX'
    clear KX'
    have VV0 := VV0'
    clear VV0'
    have VV1 := VV1'
    clear VV1'
    generalize u2.alloc (.cells #[.int .u16 D2.1, .int .u16 D2.2.1, .int .u16 D2.2.2] 35) = x2 at *
    generalize u2.heap.size = o2 at *
    obtain ⟨y0, y1, -⟩ := (hF.out.below KX).2.1.s
    go_wp2_with fail
    refine (rdefault_any (x.place : Int) _).mono ?_
    rintro e u3 ⟨rfl, hbu⟩
    rw [HD2.out, HE2.out]
    go_upto_region 11 with (fail)
    have KX' : Below wx.heap.size wx (u3.alloc (.cells #[.int .u16 D2.1, .int .u16 D2.2.1, .int .u16 D2.2.2] 30)) := (bstep KX hbu).alloc (bstep KX hbu).size _
    have VV3 : V3 (u3.alloc (.cells #[.int .u16 D2.1, .int .u16 D2.2.1, .int .u16 D2.2.2] 30)) u3.heap.size D2.1 D2.2.1 D2.2.2 := V3.newAt _ _ rfl _ _ _ _
    have VV0' := (VV0.below hbu).past (.cells #[.int .u16 D2.1, .int .u16 D2.2.1, .int .u16 D2.2.2] 30)
    have VV1' := (VV1.below hbu).past (.cells #[.int .u16 D2.1, .int .u16 D2.2.1, .int .u16 D2.2.2] 30)
    have VV2' := (VV2.below hbu).past (.cells #[.int .u16 D2.1, .int .u16 D2.2.1, .int .u16 D2.2.2] 30)
    clear KX y0 y1 hbu VV0 VV1 VV2
    have KX := KX'
    clear KX'
    have VV0 := VV0'
    clear VV0'
    have VV1 := VV1'
    clear VV1'
    have VV2 := VV2'
    clear VV2'
    generalize u3.alloc (.cells #[.int .u16 D2.1, .int .u16 D2.2.1, .int .u16 D2.2.2] 30) = x3 at *
    generalize u3.heap.size = o3 at *
    have hq := eqVal
    have q1 : eq3 D1.1 D1.2.1 D1.2.2 D1.1 D1.2.1 D1.2.2 = true := by simp [eq3]
    have q2 : eq3 D2.1 D2.2.1 D2.2.2 D2.1 D2.2.1 D2.2.2 = true := by simp [eq3]
    obtain ⟨r0, r1, r2⟩ := VV0.2.1
    obtain ⟨r3, r4, r5⟩ := VV1.2.1
    obtain ⟨r6, r7, r8⟩ := VV2.2.1
    obtain ⟨r9, r10, r11⟩ := VV3.2.1
    go_upto_block 0 with (fail)
    clear r0 r1 r2 r3 r4 r5 r6 r7 r8 r9 r10 r11 VV0 VV1 VV2 VV3 q1 q2 hq HD1 HE1 HD2 HE2
    have KH := Lib.hid KX
    clear KX
    obtain ⟨ib, hi, hz0, hz1, hz2⟩ := info_parts infoR
    have HLEN := Lib.hid hF.out.2.2.2.2.len.1
    go_cut [18] (fun v wc => ∃ (m : Nat) (vp : Value), vp = v ∧ m ≤ x.len ∧ m ≤ 20 ∧ Hid (Below wx.heap.size wx wc) ∧ Hid (wc.ownsRow wx.heap.size 30 3 vp m (flat (ps.take m))))
    case first =>
      have hmx := hF.out.2.2.2.2.len.2
      unfold maxLen at hmx
      go_wp2_with fail
      go_loopw [18, 19] (fun v i wr => ∃ k : Nat, k ≤ x.len ∧ k ≤ 20 ∧ i = .int .i64 k ∧ Hid (Below wx.heap.size wx wr) ∧ Hid (wr.ownsRow wx.heap.size 30 3 v k (flat (ps.take k)))) (fun _ i _ => x.len - (intOf i).toNat)
      case atStart => exact ⟨0, Nat.zero_le _, Nat.zero_le _, rfl, KH, Lib.hid (World.ownsRow_nil _ _ _ _)⟩
      case round =>
        obtain ⟨k, hk, hk20, rfl, hK, hO⟩ := hrel
        clear KH
        have TFr := hF.out.below hK.out
        obtain ⟨-, -, -, -, -, -, -, y7⟩ := TFr.2.1.s
        have y8 := TFr.2.1.1
        by_cases hlt : k < x.len ∧ k < 20
        · obtain ⟨hl1, hl2⟩ := hlt
          obtain ⟨b, off, ha, hp2⟩ : ∃ b off, x.a = some ⟨b, off, none⟩ ∧ PalAt wr b off x.len ps := by
            rcases TFr.2.2.2.2 with ⟨h0, _⟩ | h
            · omega
            · exact h
          rw [ha] at y7
          obtain ⟨hu, c0, c1, c2⟩ := hp2.2.2.2 k hl1
          have HS := Lib.hid (flat_snoc ps k (by rw [HLEN.out]; exact hl1))
          have hb1 := hp2.1
          clear hp2 TFr ha
          change U16 (at3 ps k) at hu
          change wr.cell? _ = some (.int .u16 (at3 ps k).1) at c0
          change wr.cell? _ = some (.int .u16 (at3 ps k).2.1) at c1
          change wr.cell? _ = some (.int .u16 (at3 ps k).2.2) at c2
          generalize at3 ps k = u at *
          have hsz := Lib.hid hK.out.size
          go_wp2_with (at_builtin; refine wpList_append_own _ rfl (.tmp 140) (.tmp 146) 40 rfl wx.heap.size 30 ib (.agg #[.int .u16 0, .int .u16 0, .int .u16 0]) 3 6 Try.underlying40 hi hz0 hz1 hz2 rfl (by decide) _ _ _ rfl (hO.out.alloc _) ⟨wr.heap.size, 0, none⟩ 1 1 (cells3 u) rfl rfl ?c1 ?c2 ?c3 ?c4 ?c5 ?_)
          case c1 => exact new3 _ _ _ _ rfl
          case c2 => exact flat_one u
          case c3 => unfold maxLen; omega
          case c4 => omega
          case c5 => have := hsz.out; simp; omega
          intro p' w' own' grow' _
          go_wp2
          go_roundw
          case rel => exact ⟨k + 1, by omega, by omega, by go_num, Lib.hid ((hK.out.alloc hK.out.size _).grown grow' (by have := hsz.out; simp; omega) (fun j hj => (hO.out.lt j hj).1)), Lib.hid (by rw [HS.out]; exact own')⟩
          case measure => simp [intOf]; omega
        · clear TFr
          by_cases hkl : k < x.len
          · have hk0 : ¬ k < 20 := by omega
            go_wp2
            go_meet
            case rel => exact ⟨k, _, rfl, hk, hk20, hK, hO⟩
          · go_wp2
            go_meet
            case rel => exact ⟨k, _, rfl, hk, hk20, hK, hO⟩
    case rest =>
      obtain ⟨m, vp, rfl, hm1, hm2, hK, hO⟩ := hcut
      obtain ⟨wz, rfl⟩ : ∃ wz : World, wz = wc := ⟨_, rfl⟩
      clear KH
      have HP := Lib.hid (RowOf.own hO.out)
      have HO := Lib.hid hO.out
      have hml : (ps.take m).length = m := by rw [List.length_take, HLEN.out]; omega
      have hflm : (flat (ps.take m)).length = m * 3 := hO.out.1
      have HFL := Lib.hid hflm
      have RT := (hF.out.below hK.out).cells
      clear hO hflm
      go_upto_region 18 with (fail)
      go_cut [20] (fun v wc => Hid (Below wz.heap.size wz wc) ∧ Hid (wc.ownsRow wz.heap.size 30 3 v (m + 1) (flat (ps.take m ++ [p]))))
      case first =>
        refine wp_region_held_drew (S := fun w' => w'.cell? ⟨b7, 0, none⟩ = some (.int .u16 p.1) ∧ w'.cell? ⟨b7, 1, none⟩ = some (.int .u16 p.2.1) ∧ w'.cell? ⟨b7, 2, none⟩ = some (.int .u16 p.2.2)) (by kernel_rfl) RT.2.2 (fun hHeld => ?_)
        have BZ : Below wz.heap.size wz wz.drew := (Below.refl _ _).drew
        clear RT
        generalize wz.drew = g0 at *
        refine take_at (i := 1) (v := ?_) rfl (by kernel_rfl) (by kernel_rfl) (by kernel_rfl) (fun _ _ _ h => h) (by kernel_rfl) (by assumption) ?_ ?_
        rotate_left
        · (intro w hSw; (try dsimp only at hSw); go_simp; try with_reducible rfl)
        simp only [Act.put, List.setIfInBounds_toArray, List.set_cons_zero, List.set_cons_succ]
        refine take_at (i := 3) (v := ?_) rfl (by kernel_rfl) (by kernel_rfl) (by kernel_rfl) (fun _ _ _ h => h) (by kernel_rfl) (by assumption) ?_ ?_
        rotate_left
        · (intro w hSw; (try dsimp only at hSw); go_simp; try with_reducible rfl)
        simp only [Act.put, List.setIfInBounds_toArray, List.set_cons_zero, List.set_cons_succ]
        refine two_at (i := 0) (j := 4) rfl rfl (by kernel_rfl) (by kernel_rfl) (by kernel_rfl) (fun K0 hK0 => ?_) (fun K0 hK0 => ?_)
        · go_simp
          have RA : (g0.alloc (.cells #[] 30)).ownsRow wz.heap.size 30 3 (.slice (some ⟨g0.heap.size, 0, none⟩) 0 0) 0 [] := World.ownsRow_made g0 #[] 0 BZ.size (by decide) rfl
          have BZ' : Below wz.heap.size wz (g0.alloc (.cells #[] 30)) := BZ.alloc BZ.size _
          have zA : ∃ A, g0.heap.size = A := ⟨_, rfl⟩
          obtain ⟨A, zA⟩ := zA
          rw [zA] at RA
          try rw [zA]
          refine hK0.out _ _ ((hF.out.below (bstep hK.out BZ')).cells.2.2) (fun hHeld => ?_)
          clear hK0 K0 BZ
          have BZ := BZ'
          clear BZ'
          generalize g0.alloc (.cells #[] 30) = g1 at *
          try simp only [Act.put, List.setIfInBounds_toArray, List.set_cons_zero, List.set_cons_succ]
          refine two_at (i := 2) (j := 4) rfl rfl (by kernel_rfl) (by kernel_rfl) (by kernel_rfl) (fun K0 hK0 => ?_) (fun K0 hK0 => ?_)
          · refine wp_append_any (.tmp 148) (.tmp 149) 40 rfl wz.heap.size 30 ib (.agg #[.int .u16 0, .int .u16 0, .int .u16 0]) 3 6 Try.underlying40 hi hz0 hz1 hz2 rfl (by decide) (.slice (some ⟨A, 0, none⟩) 0 0) 0 [] (by simp [Act.eval]) RA m (flat (ps.take m)) (by simp only [Act.eval]; exact HP.out.below BZ (Nat.le_refl _)) HFL.out (flat_all _) (by unfold maxLen; omega) (by omega) BZ.size ?_
            intro v1 g2 own1 grow1
            have BZ' := BZ.grown grow1 BZ.size (fun k hk => (RA.lt k hk).1)
            clear RA grow1
            have RA := own1
            clear own1
            refine hK0.out _ _ ((hF.out.below (bstep hK.out BZ')).cells.2.2) (fun hHeld => ?_)
            clear hK0 K0 BZ
            have BZ := BZ'
            clear BZ'
            try simp only [Act.put, List.setIfInBounds_toArray, List.set_cons_zero, List.set_cons_succ]
            refine do_at (i := 4) rfl (by kernel_rfl) (by kernel_rfl) (fun K0 hK0 => ?_)
            go_simp
            have NA : NewC (g2.alloc (.cells #[.int .u16 p.1, .int .u16 p.2.1, .int .u16 p.2.2] 30)) g2.heap.size p := NewC.made g2 p _
            have BZ' : Below wz.heap.size wz (g2.alloc (.cells #[.int .u16 p.1, .int .u16 p.2.1, .int .u16 p.2.2] 30)) := BZ.alloc BZ.size _
            have RA' := RA.alloc (.cells #[.int .u16 p.1, .int .u16 p.2.1, .int .u16 p.2.2] 30)
            clear RA
            have RA := RA'
            clear RA'
            have zN : ∃ N, g2.heap.size = N := ⟨_, rfl⟩
            obtain ⟨N, zN⟩ := zN
            rw [zN] at NA
            try rw [zN]
            refine hK0.out _ _ ((hF.out.below (bstep hK.out BZ')).cells.2.2) (fun hHeld => ?_)
            clear hK0 K0 BZ
            have BZ := BZ'
            clear BZ'
            generalize g2.alloc (.cells #[.int .u16 p.1, .int .u16 p.2.1, .int .u16 p.2.2] 30) = g3 at *
            try simp only [Act.put, List.setIfInBounds_toArray, List.set_cons_zero, List.set_cons_succ]
            refine do_at (i := 5) rfl (by kernel_rfl) (by kernel_rfl) (fun K0 hK0 => ?_)
            refine wp_append_any (.tmp 150) (.tmp 152) 40 rfl wz.heap.size 30 ib (.agg #[.int .u16 0, .int .u16 0, .int .u16 0]) 3 6 Try.underlying40 hi hz0 hz1 hz2 rfl (by decide) v1 (0 + m) ([] ++ flat (ps.take m)) (by simp [Act.eval]) RA 1 (cells3 p) (by simp only [Act.eval]; exact .inr ⟨N, 1, rfl, NA.1, NA.2⟩) rfl (flat_one p) (by unfold maxLen; omega) (by omega) BZ.size ?_
            intro v2 g4 own2 grow2
            have BZ' := BZ.grown grow2 BZ.size (fun k hk => (RA.lt k hk).1)
            clear RA grow2 NA
            refine hK0.out _ _ ((hF.out.below (bstep hK.out BZ')).cells.2.2) (fun hHeld => ?_)
            clear hK0 K0 BZ
            have BZ := BZ'
            clear BZ'
            try simp only [Act.put, List.setIfInBounds_toArray, List.set_cons_zero, List.set_cons_succ]
            refine take_at (i := 6) (v := ?_) rfl (by kernel_rfl) (by kernel_rfl) (by kernel_rfl) (fun _ _ _ h => h) (by kernel_rfl) (by assumption) ?_ ?_
            rotate_left
            · (intro w hSw; (try dsimp only at hSw); go_simp; try with_reducible rfl)
            simp only [Act.put, List.setIfInBounds_toArray, List.set_cons_zero, List.set_cons_succ]
            refine wpAnyH_done (by kernel_rfl) ?_ _
            go_wp2_with fail
            go_meet
            case rel => exact ⟨Lib.hid BZ, Lib.hid (by rw [flat_append, Nat.zero_add] at *; simpa [flat] using own2)⟩
          · go_simp
            have NA : NewC (g1.alloc (.cells #[.int .u16 p.1, .int .u16 p.2.1, .int .u16 p.2.2] 30)) g1.heap.size p := NewC.made g1 p _
            have BZ' : Below wz.heap.size wz (g1.alloc (.cells #[.int .u16 p.1, .int .u16 p.2.1, .int .u16 p.2.2] 30)) := BZ.alloc BZ.size _
            have HNE : some g1.heap.size ≠ (Value.slice (some ⟨A, 0, none⟩) 0 0).ownBlock := fun e => by have := (RA.lt _ e.symm).2; omega
            have RA' := RA.alloc (.cells #[.int .u16 p.1, .int .u16 p.2.1, .int .u16 p.2.2] 30)
            clear RA
            have RA := RA'
            clear RA'
            have zN : ∃ N, g1.heap.size = N := ⟨_, rfl⟩
            obtain ⟨N, zN⟩ := zN
            rw [zN] at NA
            rw [zN] at HNE
            try rw [zN]
            refine hK0.out _ _ ((hF.out.below (bstep hK.out BZ')).cells.2.2) (fun hHeld => ?_)
            clear hK0 K0 BZ
            have BZ := BZ'
            clear BZ'
            generalize g1.alloc (.cells #[.int .u16 p.1, .int .u16 p.2.1, .int .u16 p.2.2] 30) = g2 at *
            try simp only [Act.put, List.setIfInBounds_toArray, List.set_cons_zero, List.set_cons_succ]
            refine do_at (i := 2) rfl (by kernel_rfl) (by kernel_rfl) (fun K0 hK0 => ?_)
            refine wp_append_any (.tmp 148) (.tmp 149) 40 rfl wz.heap.size 30 ib (.agg #[.int .u16 0, .int .u16 0, .int .u16 0]) 3 6 Try.underlying40 hi hz0 hz1 hz2 rfl (by decide) (.slice (some ⟨A, 0, none⟩) 0 0) 0 [] (by simp [Act.eval]) RA m (flat (ps.take m)) (by simp only [Act.eval]; exact HP.out.below BZ (Nat.le_refl _)) HFL.out (flat_all _) (by unfold maxLen; omega) (by omega) BZ.size ?_
            intro v1 g3 own1 grow1
            have BZ' := BZ.grown grow1 BZ.size (fun k hk => (RA.lt k hk).1)
            have NA' := NA.grown grow1 HNE
            clear NA HNE
            have NA := NA'
            clear NA'
            clear RA grow1
            have RA := own1
            clear own1
            refine hK0.out _ _ ((hF.out.below (bstep hK.out BZ')).cells.2.2) (fun hHeld => ?_)
            clear hK0 K0 BZ
            have BZ := BZ'
            clear BZ'
            try simp only [Act.put, List.setIfInBounds_toArray, List.set_cons_zero, List.set_cons_succ]
            refine do_at (i := 5) rfl (by kernel_rfl) (by kernel_rfl) (fun K0 hK0 => ?_)
            refine wp_append_any (.tmp 150) (.tmp 152) 40 rfl wz.heap.size 30 ib (.agg #[.int .u16 0, .int .u16 0, .int .u16 0]) 3 6 Try.underlying40 hi hz0 hz1 hz2 rfl (by decide) v1 (0 + m) ([] ++ flat (ps.take m)) (by simp [Act.eval]) RA 1 (cells3 p) (by simp only [Act.eval]; exact .inr ⟨N, 1, rfl, NA.1, NA.2⟩) rfl (flat_one p) (by unfold maxLen; omega) (by omega) BZ.size ?_
            intro v2 g4 own2 grow2
            have BZ' := BZ.grown grow2 BZ.size (fun k hk => (RA.lt k hk).1)
            clear RA grow2 NA
            refine hK0.out _ _ ((hF.out.below (bstep hK.out BZ')).cells.2.2) (fun hHeld => ?_)
            clear hK0 K0 BZ
            have BZ := BZ'
            clear BZ'
            try simp only [Act.put, List.setIfInBounds_toArray, List.set_cons_zero, List.set_cons_succ]
            refine take_at (i := 6) (v := ?_) rfl (by kernel_rfl) (by kernel_rfl) (by kernel_rfl) (fun _ _ _ h => h) (by kernel_rfl) (by assumption) ?_ ?_
            rotate_left
            · (intro w hSw; (try dsimp only at hSw); go_simp; try with_reducible rfl)
            simp only [Act.put, List.setIfInBounds_toArray, List.set_cons_zero, List.set_cons_succ]
            refine wpAnyH_done (by kernel_rfl) ?_ _
            go_wp2_with fail
            go_meet
            case rel => exact ⟨Lib.hid BZ, Lib.hid (by rw [flat_append, Nat.zero_add] at *; simpa [flat] using own2)⟩
        · go_simp
          have NA : NewC (g0.alloc (.cells #[.int .u16 p.1, .int .u16 p.2.1, .int .u16 p.2.2] 30)) g0.heap.size p := NewC.made g0 p _
          have BZ' : Below wz.heap.size wz (g0.alloc (.cells #[.int .u16 p.1, .int .u16 p.2.1, .int .u16 p.2.2] 30)) := BZ.alloc BZ.size _
          have zN : ∃ N, g0.heap.size = N := ⟨_, rfl⟩
          obtain ⟨N, zN⟩ := zN
          rw [zN] at NA
          try rw [zN]
          refine hK0.out _ _ ((hF.out.below (bstep hK.out BZ')).cells.2.2) (fun hHeld => ?_)
          clear hK0 K0 BZ
          have BZ := BZ'
          clear BZ'
          generalize g0.alloc (.cells #[.int .u16 p.1, .int .u16 p.2.1, .int .u16 p.2.2] 30) = g1 at *
          try simp only [Act.put, List.setIfInBounds_toArray, List.set_cons_zero, List.set_cons_succ]
          refine do_at (i := 0) rfl (by kernel_rfl) (by kernel_rfl) (fun K0 hK0 => ?_)
          go_simp
          have RA : (g1.alloc (.cells #[] 30)).ownsRow wz.heap.size 30 3 (.slice (some ⟨g1.heap.size, 0, none⟩) 0 0) 0 [] := World.ownsRow_made g1 #[] 0 BZ.size (by decide) rfl
          have BZ' : Below wz.heap.size wz (g1.alloc (.cells #[] 30)) := BZ.alloc BZ.size _
          have NA' := NA.past (.cells #[] 30)
          have HNE : some N ≠ (Value.slice (some ⟨g1.heap.size, 0, none⟩) 0 0).ownBlock := by
            intro e
            have h1 : N = g1.heap.size := by simpa [Value.ownBlock] using e
            have := NA.1
            omega
          clear NA
          have NA := NA'
          clear NA'
          have zA : ∃ A, g1.heap.size = A := ⟨_, rfl⟩
          obtain ⟨A, zA⟩ := zA
          rw [zA] at RA
          rw [zA] at HNE
          try rw [zA]
          refine hK0.out _ _ ((hF.out.below (bstep hK.out BZ')).cells.2.2) (fun hHeld => ?_)
          clear hK0 K0 BZ
          have BZ := BZ'
          clear BZ'
          generalize g1.alloc (.cells #[] 30) = g2 at *
          try simp only [Act.put, List.setIfInBounds_toArray, List.set_cons_zero, List.set_cons_succ]
          refine do_at (i := 2) rfl (by kernel_rfl) (by kernel_rfl) (fun K0 hK0 => ?_)
          refine wp_append_any (.tmp 148) (.tmp 149) 40 rfl wz.heap.size 30 ib (.agg #[.int .u16 0, .int .u16 0, .int .u16 0]) 3 6 Try.underlying40 hi hz0 hz1 hz2 rfl (by decide) (.slice (some ⟨A, 0, none⟩) 0 0) 0 [] (by simp [Act.eval]) RA m (flat (ps.take m)) (by simp only [Act.eval]; exact HP.out.below BZ (Nat.le_refl _)) HFL.out (flat_all _) (by unfold maxLen; omega) (by omega) BZ.size ?_
          intro v1 g3 own1 grow1
          have BZ' := BZ.grown grow1 BZ.size (fun k hk => (RA.lt k hk).1)
          have NA' := NA.grown grow1 HNE
          clear NA HNE
          have NA := NA'
          clear NA'
          clear RA grow1
          have RA := own1
          clear own1
          refine hK0.out _ _ ((hF.out.below (bstep hK.out BZ')).cells.2.2) (fun hHeld => ?_)
          clear hK0 K0 BZ
          have BZ := BZ'
          clear BZ'
          try simp only [Act.put, List.setIfInBounds_toArray, List.set_cons_zero, List.set_cons_succ]
          refine do_at (i := 5) rfl (by kernel_rfl) (by kernel_rfl) (fun K0 hK0 => ?_)
          refine wp_append_any (.tmp 150) (.tmp 152) 40 rfl wz.heap.size 30 ib (.agg #[.int .u16 0, .int .u16 0, .int .u16 0]) 3 6 Try.underlying40 hi hz0 hz1 hz2 rfl (by decide) v1 (0 + m) ([] ++ flat (ps.take m)) (by simp [Act.eval]) RA 1 (cells3 p) (by simp only [Act.eval]; exact .inr ⟨N, 1, rfl, NA.1, NA.2⟩) rfl (flat_one p) (by unfold maxLen; omega) (by omega) BZ.size ?_
          intro v2 g4 own2 grow2
          have BZ' := BZ.grown grow2 BZ.size (fun k hk => (RA.lt k hk).1)
          clear RA grow2 NA
          refine hK0.out _ _ ((hF.out.below (bstep hK.out BZ')).cells.2.2) (fun hHeld => ?_)
          clear hK0 K0 BZ
          have BZ := BZ'
          clear BZ'
          try simp only [Act.put, List.setIfInBounds_toArray, List.set_cons_zero, List.set_cons_succ]
          refine take_at (i := 6) (v := ?_) rfl (by kernel_rfl) (by kernel_rfl) (by kernel_rfl) (fun _ _ _ h => h) (by kernel_rfl) (by assumption) ?_ ?_
          rotate_left
          · (intro w hSw; (try dsimp only at hSw); go_simp; try with_reducible rfl)
          simp only [Act.put, List.setIfInBounds_toArray, List.set_cons_zero, List.set_cons_succ]
          refine wpAnyH_done (by kernel_rfl) ?_ _
          go_wp2_with fail
          go_meet
          case rel => exact ⟨Lib.hid BZ, Lib.hid (by rw [flat_append, Nat.zero_add] at *; simpa [flat] using own2)⟩
      case rest =>
        obtain ⟨hZ, hA⟩ := hcut
        obtain ⟨wy, rfl⟩ : ∃ wy : World, wy = wc := ⟨_, rfl⟩
        have hu : ∀ i, i < m → U16 (at3 (ps.take m) i) := by
          intro i hi
          have e : at3 (ps.take m) i = at3 ps i := by unfold at3; rw [List.getElem?_take_of_lt hi]
          rw [e]
          rcases hF.out.2.2.2.2 with ⟨h0, _⟩ | ⟨b, off, _, hp2⟩
          · omega
          · exact (hp2.2.2.2 i (by omega)).1
        have hal : (ps.take m ++ [p]).length = m + 1 := by simp [hml]
        have hau : ∀ i, i < m + 1 → U16 (at3 (ps.take m ++ [p]) i) := by
          intro i hi
          by_cases e : i < m
          · have e2 : at3 (ps.take m ++ [p]) i = at3 (ps.take m) i := by unfold at3; rw [List.getElem?_append_left (by omega)]
            rw [e2]
            exact hu i e
          · have e2 : at3 (ps.take m ++ [p]) i = p := by
              unfold at3
              have e3 : i - m = 0 := by omega
              rw [List.getElem?_append_right (by omega), hml, e3]
              rfl
            rw [e2]
            exact hp
        obtain ⟨a1, k1, hv1, P1⟩ := palS_of_own hml (by unfold maxLen; omega) hu HO.out
        subst hv1
        have hall := pal_of_own hal (by unfold maxLen; omega) hau hA.out
        obtain ⟨g, k3, hv3, _, P3⟩ : ∃ g cap, u20 = .slice (some ⟨g, 0, none⟩) (m + 1) cap ∧ wz.heap.size ≤ g ∧ PalAt wy g 0 (m + 1) (ps.take m ++ [p]) := by
          rcases hall with ⟨h0, _⟩ | h
          · omega
          · exact h
        subst hv3
        have TFY := Lib.hid (hF.out.below (bstep hK.out hZ.out))
        have HP1 := Lib.hid (P1.below hZ.out)
        have HP3 := Lib.hid P3
        have HU := Lib.hid hu
        have HAU := Lib.hid hau
        have HML := Lib.hid hml
        have HAL := Lib.hid hal
        obtain ⟨Rv, hRv⟩ : ∃ R, resV x.k x.r x.g x.b (ps.take m) q = R := ⟨_, rfl⟩
        obtain ⟨d, hd⟩ : ∃ d, farI p q = d := ⟨_, rfl⟩
        obtain ⟨jj, hjj⟩ : ∃ j, (near q (ps.take m ++ [p]) (m + 1)).1 = j := ⟨_, rfl⟩
        have HR := Lib.hid hRv
        have HD := Lib.hid hd
        have HJ := Lib.hid hjj
        have hq := eqVal
        have q1 : eq3 Rv.1 Rv.2.1 Rv.2.2 Rv.1 Rv.2.1 Rv.2.2 = true := by simp [eq3]
        have m100 : m ≤ 100 := by omega
        have m101 : m + 1 ≤ 100 := by omega
        clear hRv hd hjj hu hal hau hall P1 P3 HO HP HFL hA hZ hK hml HLEN hm1 hm2 hi hz0 hz1 hz2
        go_upto_region 19 with (fail)
        have BZ : Below wy.heap.size wy wy.drew := (Below.refl _ _).drew
        refine wp_region_held_drew (S := fun w' => (w'.cell? ⟨w.heap.size + 1, 3, none⟩ = some (.int .u8 x.k) ∧ w'.cell? ⟨w.heap.size + 1, 4, none⟩ = some (.int .u8 x.r) ∧ w'.cell? ⟨w.heap.size + 1, 5, none⟩ = some (.int .u8 x.g) ∧ w'.cell? ⟨w.heap.size + 1, 6, none⟩ = some (.int .u8 x.b)) ∧ (w'.cell? ⟨b7, 0, none⟩ = some (.int .u16 p.1) ∧ w'.cell? ⟨b7, 1, none⟩ = some (.int .u16 p.2.1) ∧ w'.cell? ⟨b7, 2, none⟩ = some (.int .u16 p.2.2)) ∧ (w'.cell? ⟨b8, 0, none⟩ = some (.int .u16 q.1) ∧ w'.cell? ⟨b8, 1, none⟩ = some (.int .u16 q.2.1) ∧ w'.cell? ⟨b8, 2, none⟩ = some (.int .u16 q.2.2))) (by kernel_rfl) ?_ (fun hHeld => ?_)
        · exact (TFY.out.below BZ).cells2
        refine take_at (i := 0) (v := ?_) rfl (by kernel_rfl) (by kernel_rfl) (by kernel_rfl) (fun _ _ _ h => h) (by kernel_rfl) (by assumption) ?_ ?_
        rotate_left
        · (intro w hSw; (try dsimp only at hSw); go_simp; try with_reducible rfl)
        simp only [Act.put, List.setIfInBounds_toArray, List.set_cons_zero, List.set_cons_succ]
        refine take_at (i := 1) (v := ?_) rfl (by kernel_rfl) (by kernel_rfl) (by kernel_rfl) (fun _ _ _ h => h) (by kernel_rfl) (by assumption) ?_ ?_
        rotate_left
        · (intro w hSw; (try dsimp only at hSw); go_simp; try with_reducible rfl)
        simp only [Act.put, List.setIfInBounds_toArray, List.set_cons_zero, List.set_cons_succ]
        refine take_at (i := 2) (v := ?_) rfl (by kernel_rfl) (by kernel_rfl) (by kernel_rfl) (fun _ _ _ h => h) (by kernel_rfl) (by assumption) ?_ ?_
        rotate_left
        · (intro w hSw; (try dsimp only at hSw); go_simp; try with_reducible rfl)
        simp only [Act.put, List.setIfInBounds_toArray, List.set_cons_zero, List.set_cons_succ]
        refine take_at (i := 4) (v := ?_) rfl (by kernel_rfl) (by kernel_rfl) (by kernel_rfl) (fun _ _ _ h => h) (by kernel_rfl) (by assumption) ?_ ?_
        rotate_left
        · (intro w hSw; (try dsimp only at hSw); go_simp; try with_reducible rfl)
        simp only [Act.put, List.setIfInBounds_toArray, List.set_cons_zero, List.set_cons_succ]
        refine take_at (i := 6) (v := ?_) rfl (by kernel_rfl) (by kernel_rfl) (by kernel_rfl) (fun _ _ _ h => h) (by kernel_rfl) (by assumption) ?_ ?_
        rotate_left
        · (intro w hSw; (try dsimp only at hSw); go_simp; try with_reducible rfl)
        simp only [Act.put, List.setIfInBounds_toArray, List.set_cons_zero, List.set_cons_succ]
        refine take_at (i := 7) (v := ?_) rfl (by kernel_rfl) (by kernel_rfl) (by kernel_rfl) (fun _ _ _ h => h) (by kernel_rfl) (by assumption) ?_ ?_
        rotate_left
        · (intro w hSw; (try dsimp only at hSw); go_simp; try with_reducible rfl)
        simp only [Act.put, List.setIfInBounds_toArray, List.set_cons_zero, List.set_cons_succ]
        refine take_at (i := 8) (v := ?_) rfl (by kernel_rfl) (by kernel_rfl) (by kernel_rfl) (fun _ _ _ h => h) (by kernel_rfl) (by assumption) ?_ ?_
        rotate_left
        · (intro w hSw; (try dsimp only at hSw); go_simp; try with_reducible rfl)
        simp only [Act.put, List.setIfInBounds_toArray, List.set_cons_zero, List.set_cons_succ]
        refine take_at (i := 9) (v := ?_) rfl (by kernel_rfl) (by kernel_rfl) (by kernel_rfl) (fun _ _ _ h => h) (by kernel_rfl) (by assumption) ?_ ?_
        rotate_left
        · (intro w hSw; (try dsimp only at hSw); go_simp; try with_reducible rfl)
        simp only [Act.put, List.setIfInBounds_toArray, List.set_cons_zero, List.set_cons_succ]
        refine do_at (i := 3) rfl (by kernel_rfl) (by kernel_rfl) (fun K hK => ?_)
        go_simp
        refine (as_pal a1 m k1 (ps.take m) m100 HML.out HU.out _ (HP1.out.below BZ)).mono ?_
        rintro e w6 ⟨⟨a2, c2, rfl, P2⟩, hb6⟩
        have BZ' := bstep BZ hb6
        clear BZ
        have BZ := BZ'
        clear BZ' hb6
        go_wp2_with fail
        refine hK.out _ _ ?_ (fun hHeld => ?_)
        · exact (TFY.out.below BZ).cells2
        clear hK K
        try simp only [Act.put, List.setIfInBounds_toArray, List.set_cons_zero, List.set_cons_succ]
        refine do_at (i := 5) rfl (by kernel_rfl) (by kernel_rfl) (fun K hK => ?_)
        go_simp
        refine (res_is h3.1 h3.2.1 h3.2.2 c2 HR.out P2).mono ?_
        clear P2
        rintro e w6 ⟨rfl, hb6⟩
        have BZ' := bstep BZ hb6
        clear BZ
        have BZ := BZ'
        clear BZ' hb6
        go_wp2_with fail
        refine hK.out _ _ ?_ (fun hHeld => ?_)
        · exact (TFY.out.below BZ).cells2
        clear hK K
        try simp only [Act.put, List.setIfInBounds_toArray, List.set_cons_zero, List.set_cons_succ]
        refine do_at (i := 10) rfl (by kernel_rfl) (by kernel_rfl) (fun K hK => ?_)
        go_simp
        refine (rres_is h3.1 h3.2.1 h3.2.2 k1 HR.out (HP1.out.below BZ)).mono ?_
        rintro e w6 ⟨rfl, hb6⟩
        have BZ' := bstep BZ hb6
        clear BZ
        have BZ := BZ'
        clear BZ' hb6
        go_wp2_with fail
        refine hK.out _ _ ?_ (fun hHeld => ?_)
        · exact (TFY.out.below BZ).cells2
        clear hK K
        try simp only [Act.put, List.setIfInBounds_toArray, List.set_cons_zero, List.set_cons_succ]
        refine take_at (i := 11) (v := ?_) rfl (by kernel_rfl) (by kernel_rfl) (by kernel_rfl) (fun _ _ _ h => h) (by kernel_rfl) (by assumption) ?_ ?_
        rotate_left
        · (intro w hSw; (try dsimp only at hSw); go_simp; try with_reducible rfl)
        simp only [Act.put, List.setIfInBounds_toArray, List.set_cons_zero, List.set_cons_succ]
        refine take_at (i := 12) (v := ?_) rfl (by kernel_rfl) (by kernel_rfl) (by kernel_rfl) (fun _ _ _ h => h) (by kernel_rfl) (by assumption) ?_ ?_
        rotate_left
        · (intro w hSw; (try dsimp only at hSw); go_simp; try with_reducible rfl)
        simp only [Act.put, List.setIfInBounds_toArray, List.set_cons_zero, List.set_cons_succ]
        refine take_at (i := 13) (v := ?_) rfl (by kernel_rfl) (by kernel_rfl) (by kernel_rfl) (fun _ _ _ h => h) (by kernel_rfl) (by assumption) ?_ ?_
        rotate_left
        · (intro w hSw; (try dsimp only at hSw); go_simp; try with_reducible rfl)
        simp only [Act.put, List.setIfInBounds_toArray, List.set_cons_zero, List.set_cons_succ]
        refine take_at (i := 14) (v := ?_) rfl (by kernel_rfl) (by kernel_rfl) (by kernel_rfl) (fun _ _ _ h => h) (by kernel_rfl) (by assumption) ?_ ?_
        rotate_left
        · (intro w hSw; (try dsimp only at hSw); go_simp; try with_reducible rfl)
        simp only [Act.put, List.setIfInBounds_toArray, List.set_cons_zero, List.set_cons_succ]
        refine take_at (i := 16) (v := ?_) rfl (by kernel_rfl) (by kernel_rfl) (by kernel_rfl) (fun _ _ _ h => h) (by kernel_rfl) (by assumption) ?_ ?_
        rotate_left
        · (intro w hSw; (try dsimp only at hSw); go_simp; try with_reducible rfl)
        simp only [Act.put, List.setIfInBounds_toArray, List.set_cons_zero, List.set_cons_succ]
        refine take_at (i := 17) (v := ?_) rfl (by kernel_rfl) (by kernel_rfl) (by kernel_rfl) (fun _ _ _ h => h) (by kernel_rfl) (by assumption) ?_ ?_
        rotate_left
        · (intro w hSw; (try dsimp only at hSw); go_simp; try with_reducible rfl)
        simp only [Act.put, List.setIfInBounds_toArray, List.set_cons_zero, List.set_cons_succ]
        refine do_at (i := 15) rfl (by kernel_rfl) (by kernel_rfl) (fun K hK => ?_)
        go_simp
        refine (far_is2 hp hq0 HD.out _).mono ?_
        rintro e w6 ⟨rfl, hb6⟩
        have BZ' := bstep BZ hb6
        clear BZ
        have BZ := BZ'
        clear BZ' hb6
        go_wp2_with fail
        refine hK.out _ _ ?_ (fun hHeld => ?_)
        · exact (TFY.out.below BZ).cells2
        clear hK K
        try simp only [Act.put, List.setIfInBounds_toArray, List.set_cons_zero, List.set_cons_succ]
        refine do_at (i := 18) rfl (by kernel_rfl) (by kernel_rfl) (fun K hK => ?_)
        go_simp
        refine (rfar_is hp hq0 HD.out _).mono ?_
        rintro e w6 ⟨rfl, hb6⟩
        have BZ' := bstep BZ hb6
        clear BZ
        have BZ := BZ'
        clear BZ' hb6
        go_wp2_with fail
        refine hK.out _ _ ?_ (fun hHeld => ?_)
        · exact (TFY.out.below BZ).cells2
        clear hK K
        try simp only [Act.put, List.setIfInBounds_toArray, List.set_cons_zero, List.set_cons_succ]
        refine take_at (i := 19) (v := ?_) rfl (by kernel_rfl) (by kernel_rfl) (by kernel_rfl) (fun _ _ _ h => h) (by kernel_rfl) (by assumption) ?_ ?_
        rotate_left
        · (intro w hSw; (try dsimp only at hSw); go_simp; try with_reducible rfl)
        simp only [Act.put, List.setIfInBounds_toArray, List.set_cons_zero, List.set_cons_succ]
        refine take_at (i := 20) (v := ?_) rfl (by kernel_rfl) (by kernel_rfl) (by kernel_rfl) (fun _ _ _ h => h) (by kernel_rfl) (by assumption) ?_ ?_
        rotate_left
        · (intro w hSw; (try dsimp only at hSw); go_simp; try with_reducible rfl)
        simp only [Act.put, List.setIfInBounds_toArray, List.set_cons_zero, List.set_cons_succ]
        refine take_at (i := 21) (v := ?_) rfl (by kernel_rfl) (by kernel_rfl) (by kernel_rfl) (fun _ _ _ h => h) (by kernel_rfl) (by assumption) ?_ ?_
        rotate_left
        · (intro w hSw; (try dsimp only at hSw); go_simp; try with_reducible rfl)
        simp only [Act.put, List.setIfInBounds_toArray, List.set_cons_zero, List.set_cons_succ]
        refine take_at (i := 22) (v := ?_) rfl (by kernel_rfl) (by kernel_rfl) (by kernel_rfl) (fun _ _ _ h => h) (by kernel_rfl) (by assumption) ?_ ?_
        rotate_left
        · (intro w hSw; (try dsimp only at hSw); go_simp; try with_reducible rfl)
        simp only [Act.put, List.setIfInBounds_toArray, List.set_cons_zero, List.set_cons_succ]
        refine take_at (i := 23) (v := ?_) rfl (by kernel_rfl) (by kernel_rfl) (by kernel_rfl) (fun _ _ _ h => h) (by kernel_rfl) (by assumption) ?_ ?_
        rotate_left
        · (intro w hSw; (try dsimp only at hSw); go_simp; try with_reducible rfl)
        simp only [Act.put, List.setIfInBounds_toArray, List.set_cons_zero, List.set_cons_succ]
        refine take_at (i := 26) (v := ?_) rfl (by kernel_rfl) (by kernel_rfl) (by kernel_rfl) (fun _ _ _ h => h) (by kernel_rfl) (by assumption) ?_ ?_
        rotate_left
        · (intro w hSw; (try dsimp only at hSw); go_simp; try with_reducible rfl)
        simp only [Act.put, List.setIfInBounds_toArray, List.set_cons_zero, List.set_cons_succ]
        refine take_at (i := 27) (v := ?_) rfl (by kernel_rfl) (by kernel_rfl) (by kernel_rfl) (fun _ _ _ h => h) (by kernel_rfl) (by assumption) ?_ ?_
        rotate_left
        · (intro w hSw; (try dsimp only at hSw); go_simp; try with_reducible rfl)
        simp only [Act.put, List.setIfInBounds_toArray, List.set_cons_zero, List.set_cons_succ]
        refine do_at (i := 24) rfl (by kernel_rfl) (by kernel_rfl) (fun K hK => ?_)
        go_simp
        refine (as_pal (some ⟨g, 0, none⟩) (m + 1) k3 (ps.take m ++ [p]) m101 HAL.out HAU.out _ (.inr ⟨g, 0, rfl, HP3.out.below BZ⟩)).mono ?_
        rintro e w6 ⟨⟨a4, c4, rfl, P4⟩, hb6⟩
        have BZ' := bstep BZ hb6
        clear BZ
        have BZ := BZ'
        clear BZ' hb6
        go_wp2_with fail
        refine hK.out _ _ ?_ (fun hHeld => ?_)
        · exact (TFY.out.below BZ).cells2
        clear hK K
        try simp only [Act.put, List.setIfInBounds_toArray, List.set_cons_zero, List.set_cons_succ]
        refine do_at (i := 25) rfl (by kernel_rfl) (by kernel_rfl) (fun K hK => ?_)
        go_simp
        refine (near_is2 hq0 c4 HJ.out P4).mono ?_
        clear P4
        rintro e w6 ⟨rfl, hb6⟩
        have BZ' := bstep BZ hb6
        clear BZ
        have BZ := BZ'
        clear BZ' hb6
        go_wp2_with fail
        refine hK.out _ _ ?_ (fun hHeld => ?_)
        · exact (TFY.out.below BZ).cells2
        clear hK K
        try simp only [Act.put, List.setIfInBounds_toArray, List.set_cons_zero, List.set_cons_succ]
        refine do_at (i := 28) rfl (by kernel_rfl) (by kernel_rfl) (fun K hK => ?_)
        go_simp
        refine (rnear_is2 hq0 k3 HJ.out (HP3.out.below BZ)).mono ?_
        rintro e w6 ⟨rfl, hb6⟩
        have BZ' := bstep BZ hb6
        clear BZ
        have BZ := BZ'
        clear BZ' hb6
        go_wp2_with fail
        refine hK.out _ _ ?_ (fun hHeld => ?_)
        · exact (TFY.out.below BZ).cells2
        clear hK K
        try simp only [Act.put, List.setIfInBounds_toArray, List.set_cons_zero, List.set_cons_succ]
        refine take_at (i := 29) (v := ?_) rfl (by kernel_rfl) (by kernel_rfl) (by kernel_rfl) (fun _ _ _ h => h) (by kernel_rfl) (by assumption) ?_ ?_
        rotate_left
        · (intro w hSw; (try dsimp only at hSw); go_simp; try with_reducible rfl)
        simp only [Act.put, List.setIfInBounds_toArray, List.set_cons_zero, List.set_cons_succ]
        refine take_at (i := 30) (v := ?_) rfl (by kernel_rfl) (by kernel_rfl) (by kernel_rfl) (fun _ _ _ h => h) (by kernel_rfl) (by assumption) ?_ ?_
        rotate_left
        · (intro w hSw; (try dsimp only at hSw); go_simp; try with_reducible rfl)
        simp only [Act.put, List.setIfInBounds_toArray, List.set_cons_zero, List.set_cons_succ]
        refine take_at (i := 31) (v := ?_) rfl (by kernel_rfl) (by kernel_rfl) (by kernel_rfl) (fun _ _ _ h => h) (by kernel_rfl) (by assumption) ?_ ?_
        rotate_left
        · (intro w hSw; (try dsimp only at hSw); go_simp; try with_reducible rfl)
        simp only [Act.put, List.setIfInBounds_toArray, List.set_cons_zero, List.set_cons_succ]
        refine do_at (i := 32) rfl (by kernel_rfl) (by kernel_rfl) (fun K hK => ?_)
        go_simp
        refine (works_any _).mono ?_
        rintro e w6 ⟨rfl, hb6⟩
        have BZ' := bstep BZ hb6
        clear BZ
        have BZ := BZ'
        clear BZ' hb6
        go_wp2_with fail
        refine hK.out _ _ ?_ (fun hHeld => ?_)
        · exact (TFY.out.below BZ).cells2
        clear hK K
        try simp only [Act.put, List.setIfInBounds_toArray, List.set_cons_zero, List.set_cons_succ]
        refine take_at (i := 33) (v := ?_) rfl (by kernel_rfl) (by kernel_rfl) (by kernel_rfl) (fun _ _ _ h => h) (by kernel_rfl) (by assumption) ?_ ?_
        rotate_left
        · (intro w hSw; (try dsimp only at hSw); go_simp; try with_reducible rfl)
        simp only [Act.put, List.setIfInBounds_toArray, List.set_cons_zero, List.set_cons_succ]
        refine take_at (i := 34) (v := ?_) rfl (by kernel_rfl) (by kernel_rfl) (by kernel_rfl) (fun _ _ _ h => h) (by kernel_rfl) (by assumption) ?_ ?_
        rotate_left
        · (intro w hSw; (try dsimp only at hSw); go_simp; try with_reducible rfl)
        simp only [Act.put, List.setIfInBounds_toArray, List.set_cons_zero, List.set_cons_succ]
        refine wpAnyH_done (by kernel_rfl) ?_ _
        go_wp2
        go_ret
        exact ⟨rfl, (TFY.out.below BZ).1⟩
end Go.Proofs.Ythcncghhjlaicaa.Lab
