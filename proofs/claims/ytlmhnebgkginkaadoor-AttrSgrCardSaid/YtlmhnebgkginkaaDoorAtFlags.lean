/- Flags; what a number says as a function: those of flags, of nothing set, of colours. -/
import Derived.Test.YtlmhnebgkginkaaDoorAtSmall
namespace Go.Proofs.YtlmhnebgkginkaaDoor.Lab
open Go Go.RowKit

def U16s (w : World) (v : Value) (cs : List Nat) : Prop :=
  ∃ a c, v = .slice a cs.length c ∧ cs.length ≤ maxLen ∧ (∀ x ∈ cs, x < 65536) ∧ (0 < cs.length → ∃ g o, a = some ⟨g, o, none⟩ ∧ g < w.heap.size ∧ ∀ j, j < cs.length → w.cell? ⟨g, o + j, none⟩ = some (.int .u16 ((cs.getD j 0 : Nat) : Int)))
theorem U16s.below {w w' : World} {v : Value} {cs : List Nat} (h : U16s w v cs) (hb : Below w.heap.size w w') : U16s w' v cs := by
  obtain ⟨a, c, e, hm, hx, h⟩ := h
  refine ⟨a, c, e, hm, hx, fun h0 => ?_⟩
  obtain ⟨g, o, ea, hg, hc⟩ := h h0
  exact ⟨g, o, ea, Nat.lt_of_lt_of_le hg hb.size, fun j hj => (hb.cell (p := ⟨g, o + j, none⟩) hg).trans (hc j hj)⟩
def foldF (f : Nat) (cs : List Nat) : Nat := cs.foldl (fun f c => f &&& (65535 - c)) f
def flagsL (f set : Nat) (cs : List Nat) : Nat := foldF f cs ||| set
theorem foldF_le (cs : List Nat) : ∀ f, foldF f cs ≤ f := by
  induction cs with
  | nil => intro f; exact Nat.le_refl _
  | cons c t ih =>
    intro f
    exact Nat.le_trans (ih _) Nat.and_le_left
theorem foldF_snoc (f : Nat) (cs : List Nat) (c : Nat) : foldF f (cs ++ [c]) = foldF f cs &&& (65535 - c) := by simp [foldF]
theorem flagsL_one (f set c : Nat) : flagsL f set [c] = flagsM f set c := rfl
theorem u16_andN (a b : Nat) (ha : a < 65536) (hb : b < 65536) : bits .andNot .u16 (a : Int) (b : Int) = ((a &&& (65535 - b) : Nat) : Int) := u16_andNot_nat a b ha hb
theorem u16_orN (a b : Nat) (ha : a < 65536) (hb : b < 65536) : bits .or .u16 (a : Int) (b : Int) = ((a ||| b : Nat) : Int) := u16_or_nat a b ha hb

set_option maxHeartbeats 4000000 in
theorem flags_any (w : World) (a : At) (set : Nat) (cs : List Nat) (v : Value) (ha : a.fl < 65536) (hs : set < 65536) (h : U16s w v cs) :
    Calls Tryd.prog 23 #[attV a, .int .u16 (set : Nat), v] w fun e w' => e = .returned (attV { a with fl := flagsL a.fl set cs }) ∧ Below w.heap.size w w' := by
  obtain ⟨ad, c, rfl, hm, hx, hc⟩ := h
  unfold maxLen at hm
  have HC := Lib.hid hc
  have HX := Lib.hid hx
  obtain ⟨n, hn⟩ : ∃ n, n = cs.length := ⟨_, rfl⟩
  have HN := Lib.hid hn
  rw [← hn] at hm ⊢
  clear hc hx hn
  go_enter Tryd.func23, Tryd.ntmps23
  go_wp2
  obtain ⟨w0, hw0⟩ : ∃ w0, w0 = (w.alloc (.cells #[.int .u8 a.fg.k, .int .u8 a.fg.r, .int .u8 a.fg.g, .int .u8 a.fg.b, .int .u8 a.bg.k, .int .u8 a.bg.r, .int .u8 a.bg.g, .int .u8 a.bg.b, .int .u16 (a.fl : Nat)] 26)).alloc (.cells #[.int .u8 0, .int .u8 0, .int .u8 0, .int .u8 0, .int .u8 0, .int .u8 0, .int .u8 0, .int .u8 0, .int .u16 0] 26) := ⟨_, rfl⟩
  have HA := Lib.hid (show AtAt w0 w.heap.size a by rw [hw0]; exact (AtAt.newAt w _ rfl a _).past _)
  have HZ := Lib.hid (show AtAt w0 (w.heap.size + 1) At.zero by rw [hw0]; exact AtAt.newAt _ _ (by simp) At.zero _)
  have HB := Lib.hid (show Below w.heap.size w w0 by rw [hw0]; exact ((Below.refl _ _).alloc (Nat.le_refl _) _).alloc (by simp) _)
  rw [← hw0]
  clear hw0
  go_loopw [11] (fun i wr => ∃ k : Nat, k ≤ n ∧ i = .int .i64 k ∧ Hid (AtAt wr w.heap.size { a with fl := foldF a.fl (cs.take k) }) ∧ Hid (AtAt wr (w.heap.size + 1) At.zero) ∧ Hid (Below w.heap.size w wr)) (fun i _ => n - (intOf i).toNat)
  case atStart => exact ⟨0, Nat.zero_le _, rfl, HA, HZ, HB⟩
  case round =>
    obtain ⟨k, hk, rfl, HA, HZ, HB⟩ := hrel
    obtain ⟨f, hf⟩ : ∃ f, f = foldF a.fl (cs.take k) := ⟨_, rfl⟩
    have hfl : f < 65536 := by rw [hf]; exact Nat.lt_of_le_of_lt (foldF_le _ _) ha
    by_cases hlt : k < n
    · have hkc : k < cs.length := by rw [← HN.out]; exact hlt
      obtain ⟨g, o, rfl, hg, hcell⟩ := HC.out (by omega)
      obtain ⟨x, hxx⟩ : ∃ x, x = cs.getD k 0 := ⟨_, rfl⟩
      have hx6 : x < 65536 := by rw [hxx]; exact HX.out _ (getD_mem 0 hkc)
      have a1 : wr.cell? ⟨g, o + k, none⟩ = some (.int .u16 (x : Nat)) := by rw [hxx]; exact (HB.out.cell (p := ⟨g, o + k, none⟩) hg).trans (hcell k hkc)
      have hbit := u16_andN f x hfl hx6
      have HT := Lib.hid (show foldF a.fl (cs.take (k + 1)) = f &&& (65535 - x) by
        rw [List.take_succ_eq_append_getElem hkc, foldF_snoc, hf, hxx, List.getD_eq_getElem?_getD, List.getElem?_eq_getElem hkc]
        rfl)
      have HA1 := HA.out
      rw [← hf] at HA1
      have a2 := HA1.2.1.2.2.2.2.2.2.2.2
      have a3 := HA1.2.2 8
      have HA2 := Lib.hid (HA1.putFl (f &&& (65535 - x)))
      have HZ2 := Lib.hid (HZ.out.same (w' := wr.setCell ⟨w.heap.size, 8, none⟩ (.int .u16 ((f &&& (65535 - x) : Nat) : Int))) (by simp) (Below.heap_setCell _ _ _ _ (show w.heap.size + 1 ≠ w.heap.size by omega)))
      have HB2 := Lib.hid (HB.out.setCell (p := ⟨w.heap.size, 8, none⟩) (Nat.le_refl _) (.int .u16 ((f &&& (65535 - x) : Nat) : Int)))
      clear hf hxx hcell HA1 HA HZ HB
      dsimp only at a2
      go_wp2
      go_roundw
      case rel => exact ⟨k + 1, by omega, by go_num, by rw [HT.out]; exact HA2, HZ2, HB2⟩
      case measure => simp [intOf]; omega
    · have HT := Lib.hid (show foldF a.fl cs = f by
        rw [hf, List.take_of_length_le (by rw [← HN.out]; omega)])
      have hbit := u16_orN f set hfl hs
      have HA1 := HA.out
      rw [← hf] at HA1
      have HA2 := Lib.hid (HA1.putFl (f ||| set))
      have HZ2 := Lib.hid (HZ.out.same (w' := wr.setCell ⟨w.heap.size, 8, none⟩ (.int .u16 ((f ||| set : Nat) : Int))) (by simp) (Below.heap_setCell _ _ _ _ (show w.heap.size + 1 ≠ w.heap.size by omega)))
      have HB2 := Lib.hid (HB.out.setCell (p := ⟨w.heap.size, 8, none⟩) (Nat.le_refl _) (.int .u16 ((f ||| set : Nat) : Int)))
      obtain ⟨z0, ⟨z1, z2, z3, z4, z5, z6, z7, z8, z9⟩, zf⟩ := HZ2.out
      obtain ⟨c0, ⟨c1, c2, c3, c4, c5, c6, c7, c8, c9⟩, cf⟩ := HA2.out
      have a2 := HA1.2.1.2.2.2.2.2.2.2.2
      have a3 := HA1.2.2 8
      clear hf HA1 HA HZ HB
      dsimp only at a2 c1 c2 c3 c4 c5 c6 c7 c8 c9
      have Z := HZ2.out.putA { a with fl := f ||| set }
      have HB3 := Lib.hid ((putA_but (wr.setCell ⟨w.heap.size, 8, none⟩ (.int .u16 ((f ||| set : Nat) : Int))) (w.heap.size + 1) { a with fl := f ||| set }).below (C := w.heap.size) (Nat.le_succ _) HB2.out.size)
      have HB4 := Lib.hid (HB2.out.trans HB3.out)
      have HE := Lib.hid (show flagsL a.fl set cs = f ||| set by unfold flagsL; rw [HT.out])
      clear HB2 HB3 HA2 HZ2
      go_wp2
      simp only [putA, putC, Nat.zero_add, Nat.reduceAdd] at Z HB4
      obtain ⟨y0, ⟨y1, y2, y3, y4, y5, y6, y7, y8, y9⟩, yf⟩ := Z
      rw [HE.out]
      exact bodyPost_ret (v := attV { a with fl := f ||| set }) (by simp [results, Tryd.results23, go_sem, y1, y2, y3, y4, y5, y6, y7, y8, y9]) rfl ⟨rfl, HB4.out⟩

/-- What a number says. -/
inductive Sy where
  | zero
  | flags (s c : Nat)
  | idx (bg : Bool) (more less : Nat)
  | none (bg : Bool)
  | told (bg : Bool)
deriving DecidableEq
def putN (bg : Bool) : Nat := if bg then 51 else 50
def At.setC (a : At) (bg : Bool) (c : Option Cl) : At := if bg then a.setBg c else a.setFg c
/-- The function that a number says. -/
def SayAt (w : World) (V : Value) : Sy → Prop
  | .zero => V = .func (.func 48) #[] #[]
  | .flags s c => s < 65536 ∧ c < 65536 ∧ ∃ b1 b2, V = .func (.func 47) #[] #[.pointer (some ⟨b1, 0, none⟩), .pointer (some ⟨b2, 0, none⟩)] ∧ Box w b1 (.int .u16 (s : Nat)) ∧ Box w b2 (.int .u16 (c : Nat))
  | .idx bg more less => more ≤ 1000 ∧ less ≤ 1000 ∧ ∃ b1 b2 b3, V = .func (.func 65) #[] #[.pointer (some ⟨b1, 0, none⟩), .pointer (some ⟨b2, 0, none⟩), .pointer (some ⟨b3, 0, none⟩)] ∧ Box w b1 (.func (.func (putN bg)) #[] #[]) ∧ Box w b2 (.int .i64 (more : Nat)) ∧ Box w b3 (.int .i64 (less : Nat))
  | .none bg => ∃ b1, V = .func (.func 66) #[] #[.pointer (some ⟨b1, 0, none⟩)] ∧ Box w b1 (.func (.func (putN bg)) #[] #[])
  | .told bg => ∃ b1, V = .func (.func 67) #[] #[.pointer (some ⟨b1, 0, none⟩)] ∧ Box w b1 (.func (.func (putN bg)) #[] #[])
theorem SayAt.keep {w w' : World} {V : Value} {s : Sy} (h : SayAt w V s) (k : ∀ b v, Box w b v → Box w' b v) : SayAt w' V s := by
  cases s with
  | zero => exact h
  | flags s c =>
    obtain ⟨h1, h2, b1, b2, e, x1, x2⟩ := h
    exact ⟨h1, h2, b1, b2, e, k _ _ x1, k _ _ x2⟩
  | idx bg m l =>
    obtain ⟨h1, h2, b1, b2, b3, e, x1, x2, x3⟩ := h
    exact ⟨h1, h2, b1, b2, b3, e, k _ _ x1, k _ _ x2, k _ _ x3⟩
  | none bg =>
    obtain ⟨b1, e, x1⟩ := h
    exact ⟨b1, e, k _ _ x1⟩
  | told bg =>
    obtain ⟨b1, e, x1⟩ := h
    exact ⟨b1, e, k _ _ x1⟩
theorem SayAt.below {w w' : World} {V : Value} {s : Sy} (h : SayAt w V s) (hb : Below w.heap.size w w') : SayAt w' V s := h.keep fun _ _ x => x.below hb
theorem SayAt.but {w w' : World} {V : Value} {s : Sy} {B : Nat} {a : At} {v : Value} (h : SayAt w V s) (k : RdAt w B a v) (hb : But B w w') : SayAt w' V s := h.keep fun _ _ x => x.but k hb

set_option maxHeartbeats 1000000 in
/-- The function that makes one of flags. -/
theorem mk_flags (s c : Nat) (hs : s < 65536) (hc : c < 65536) (w : World) : Calls Tryd.prog 46 #[.int .u16 (s : Nat), .int .u16 (c : Nat)] w fun e w' => ∃ b1 b2, e = .returned (.func (.func 47) #[] #[.pointer (some ⟨b1, 0, none⟩), .pointer (some ⟨b2, 0, none⟩)]) ∧ SayAt w' (.func (.func 47) #[] #[.pointer (some ⟨b1, 0, none⟩), .pointer (some ⟨b2, 0, none⟩)]) (.flags s c) ∧ Below w.heap.size w w' := by
  have H1 := Lib.hid (show Box ((w.alloc (.cells #[.int .u16 (s : Nat)] 24)).alloc (.cells #[.int .u16 (c : Nat)] 24)) w.heap.size (.int .u16 (s : Nat)) from (Box.newAt w _ rfl _ _).below ((Below.refl _ _).alloc (Nat.le_refl _) _))
  have H2 := Lib.hid (show Box ((w.alloc (.cells #[.int .u16 (s : Nat)] 24)).alloc (.cells #[.int .u16 (c : Nat)] 24)) (w.heap.size + 1) (.int .u16 (c : Nat)) from Box.newAt _ _ (by simp) _ _)
  have HB := Lib.hid (show Below w.heap.size w ((w.alloc (.cells #[.int .u16 (s : Nat)] 24)).alloc (.cells #[.int .u16 (c : Nat)] 24)) from ((Below.refl _ _).alloc (Nat.le_refl _) _).alloc (by simp) _)
  go_enter Tryd.func46, Tryd.ntmps46
  go_wp2
  go_ret
  exact ⟨_, _, rfl, ⟨hs, hc, _, _, rfl, H1.out, H2.out⟩, HB.out⟩
set_option maxHeartbeats 1000000 in
theorem mk_idx (bg : Bool) (more less : Nat) (hm : more ≤ 1000) (hl : less ≤ 1000) (p1 p2 : Nat) (w : World) (h1 : Box w p1 (.func (.func (putN bg)) #[] #[])) (h2 : Box w p2 (.int .i64 (more : Nat))) : Calls Tryd.prog 64 #[.int .i64 (less : Nat), .pointer (some ⟨p1, 0, none⟩), .pointer (some ⟨p2, 0, none⟩)] w fun e w' => ∃ b3, e = .returned (.func (.func 65) #[] #[.pointer (some ⟨p1, 0, none⟩), .pointer (some ⟨p2, 0, none⟩), .pointer (some ⟨b3, 0, none⟩)]) ∧ SayAt w' (.func (.func 65) #[] #[.pointer (some ⟨p1, 0, none⟩), .pointer (some ⟨p2, 0, none⟩), .pointer (some ⟨b3, 0, none⟩)]) (.idx bg more less) ∧ Below w.heap.size w w' := by
  have b1 : Below w.heap.size w (w.alloc (.cells #[.int .i64 (less : Nat)] 3)) := (Below.refl _ _).alloc (Nat.le_refl _) _
  have H1 := Lib.hid (h1.below b1)
  have H2 := Lib.hid (h2.below b1)
  have H3 := Lib.hid (Box.newAt w _ rfl (.int .i64 (less : Nat)) 3)
  have HB := Lib.hid b1
  clear b1 h1 h2
  go_enter Tryd.func64, Tryd.ntmps64
  go_wp2
  go_ret
  exact ⟨_, rfl, ⟨hm, hl, _, _, _, rfl, H1.out, H2.out, H3.out⟩, HB.out⟩

abbrev Done (w : World) (B : Nat) (a : At) (v : Value) (e : Ending) (w' : World) : Prop := e = .returned (.tuple #[]) ∧ RdAt w' B a v ∧ But B w w'
set_option maxHeartbeats 1000000 in
theorem say_zero (w : World) (B : Nat) (a : At) (v : Value) (n : Int) (h : RdAt w B a v) : Calls Tryd.prog 48 #[.pointer (some ⟨B, 0, none⟩), .int .i64 n] w (Done w B At.zero v) := by
  have Z := Lib.hid (h.putA At.zero)
  have HB := Lib.hid (putA_but w B At.zero)
  obtain ⟨⟨y0, ⟨y1, y2, y3, y4, y5, y6, y7, y8, y9⟩, yf⟩, y10⟩ := h
  go_enter Tryd.func48, Tryd.ntmps48
  go_wp2
  go_end0
  exact ⟨rfl, Z.out, HB.out⟩
set_option maxHeartbeats 2000000 in
theorem put_fg (w : World) (B : Nat) (a : At) (v : Value) (c : Cl) (h : RdAt w B a v) : Calls Tryd.prog 50 #[.pointer (some ⟨B, 0, none⟩), colV c] w (Done w B { a with fg := c } v) := by
  have b1 : Below w.heap.size w (w.alloc (.cells #[.int .u8 c.k, .int .u8 c.r, .int .u8 c.g, .int .u8 c.b] 23)) := (Below.refl _ _).alloc (Nat.le_refl _) _
  have h1 := h.below b1
  have Z := Lib.hid (h1.putFg c)
  have HB := Lib.hid ((But.of (B := B) b1).trans (putC_but _ B 0 c))
  clear h b1
  obtain ⟨⟨y0, ⟨y1, y2, y3, y4, y5, y6, y7, y8, y9⟩, yf⟩, y10⟩ := h1
  go_enter Tryd.func50, Tryd.ntmps50
  go_wp2
  go_end0
  exact ⟨rfl, Z.out, HB.out⟩
set_option maxHeartbeats 2000000 in
theorem put_bg (w : World) (B : Nat) (a : At) (v : Value) (c : Cl) (h : RdAt w B a v) : Calls Tryd.prog 51 #[.pointer (some ⟨B, 0, none⟩), colV c] w (Done w B { a with bg := c } v) := by
  have b1 : Below w.heap.size w (w.alloc (.cells #[.int .u8 c.k, .int .u8 c.r, .int .u8 c.g, .int .u8 c.b] 23)) := (Below.refl _ _).alloc (Nat.le_refl _) _
  have h1 := h.below b1
  have Z := Lib.hid (h1.putBg c)
  have HB := Lib.hid ((But.of (B := B) b1).trans (putC_but _ B 4 c))
  clear h b1
  obtain ⟨⟨y0, ⟨y1, y2, y3, y4, y5, y6, y7, y8, y9⟩, yf⟩, y10⟩ := h1
  go_enter Tryd.func51, Tryd.ntmps51
  go_wp2
  go_end0
  exact ⟨rfl, Z.out, HB.out⟩
end Go.Proofs.YtlmhnebgkginkaaDoor.Lab
