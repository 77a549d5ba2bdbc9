/- What the project's functions of rows answer, as the document says (whole rows, levels Low and High): contracts; what an act does. -/
import Derived.Test.YthildghpgajgoaaRoRow
import Derived.Test.YthildghpgajgoaaRoSame
import Derived.Test.YthildghpgajgoaaMany
import Derived.Test.YthildghpgajgoaaRpPut
import Derived.Test.YthildghpgajgoaaRpIns
import Derived.Test.YthildghpgajgoaaRpDel
import Derived.Test.YthildghpgajgoaaRpEra
import Derived.Test.YthildghpgajgoaaRpRes
import Derived.Test.YthildghpgajgoaaRpMark
namespace Go.Proofs.Ythildghpgajgoaa.Lab
open Go Go.RowKit

def RowRes (w : World) (R : Cls) (e : Ending) (w' : World) : Prop := ∃ v, e = .returned v ∧ RowIn w' v R ∧ Below w.heap.size w w'
def RowAsk (w : World) (v : Value) (R : Cls) : Prop := RowIn w v R ∧ Wh R ∧ Lv R ∧ R.length ≤ 100
def L01 (l : Int) : Prop := l = 0 ∨ l = 1
def Pl (i : Int) : Prop := -1000 ≤ i ∧ i ≤ 1000
def Bl (b : Cel) : Prop := b.k = 0 ∧ L01 b.l
def PutC : Prop := ∀ (w : World) (v : Value) (R : Cls) (i : Int) (c : Cel) (wide : Bool), RowAsk w v R → Pl i → L01 c.l → Calls Try.prog 26 #[v, .int .i64 i, celV c, .bool wide] w (RowRes w (putP R i c wide))
def InsC : Prop := ∀ (w : World) (v : Value) (R : Cls) (i n : Int) (b : Cel), RowAsk w v R → Pl i → Pl n → Bl b → Calls Try.prog 15 #[v, .int .i64 i, .int .i64 n, celV b] w (RowRes w (insertM R i n b))
def DelC : Prop := ∀ (w : World) (v : Value) (R : Cls) (i n : Int) (b : Cel), RowAsk w v R → Pl i → Pl n → Bl b → Calls Try.prog 14 #[v, .int .i64 i, .int .i64 n, celV b] w (RowRes w (deleteM R i n b))
def EraC : Prop := ∀ (w : World) (v : Value) (R : Cls) (i j : Int) (b : Cel), RowAsk w v R → Pl i → Pl j → Bl b → Calls Try.prog 29 #[v, .int .i64 i, .int .i64 j, celV b] w (RowRes w (erasePM R i j b))
def MrkC : Prop := ∀ (w : World) (v : Value) (R : Cls) (i m l : Int), RowAsk w v R → Pl i → m = 769 → L01 l → Calls Try.prog 25 #[v, .int .i64 i, .int .i32 m, .int .u8 l] w (RowRes w (markM R i m l))
def ResC : Prop := ∀ (w : World) (v : Value) (R : Cls) (n : Int) (b : Cel), RowAsk w v R → Pl n → n ≤ 100 → Bl b → Calls Try.prog 19 #[v, .int .i64 n, celV b] w (RowRes w (resizeM R n b))
def RaiC : Prop := ∀ (w : World) (v : Value) (R : Cls) (l : Int), RowAsk w v R → L01 l → Calls Try.prog 22 #[v, .int .u8 l] w (RowRes w (raiseM R l))
def BrkC : Prop := ∀ (w : World) (v u : Value) (R : Cls) (ps : List Int), RowAsk w v R → NumsAt w (fun _ => True) u ps → 0 < ps.length ∧ ps.length ≤ 4 → (∀ p ∈ ps, Pl p) → Calls Try.prog 16 #[v, u] w (RowRes w (ps.foldl breakM R))
def BlaC : Prop := ∀ (w : World) (a : At) (l : Int), Calls Try.prog 13 #[attV a, .int .u8 l] w fun e w' => e = .returned (celV (blankM a l)) ∧ Below w.heap.size w w'
/-- All that an act comes to. -/
structure DoC : Prop where
  put : PutC
  ins : InsC
  del : DelC
  era : EraC
  mrk : MrkC
  res : ResC
  rai : RaiC
  brk : BrkC
  bla : BlaC
structure Ac where
  what : Nat
  at1 : Nat
  n : Nat
  wide : Bool
  cell : Dc
def Ac.ok (a : Ac) : Prop := a.what < 256 ∧ a.at1 < 256 ∧ a.n < 256 ∧ a.cell.ok
abbrev acV (a : Ac) : Value := .agg #[.int .u8 (a.what : Nat), .int .u8 (a.at1 : Nat), .int .u8 (a.n : Nat), .bool a.wide, .int .u8 (a.cell.ru : Nat), .int .u8 (a.cell.ms : Nat), .int .u8 (a.cell.at1 : Nat), .bool a.cell.wide, .bool a.cell.high]
def atA (a : Ac) (len : Nat) : Int := if 250 < a.at1 then (a.at1 : Int) - 253 else ((a.at1 % (len + 3) : Nat) : Int)
def nA (a : Ac) : Int := ((a.n % 8 : Nat) : Int) - 1
def blA (a : Ac) : Cel := blankM (celD a.cell).a (celD a.cell).l
def doesM (a : Ac) (R : Cls) : Cls :=
  let p := atA a R.length
  let k := a.what % 15
  if k = 0 then breakM (breakM R p) (p + nA a) else if k = 5 ∨ k = 6 then insertM R p (nA a) (blA a) else if k = 7 ∨ k = 8 then deleteM R p (nA a) (blA a)
  else if k = 9 ∨ k = 10 then erasePM R p (p + nA a) (blA a) else if k = 11 ∨ k = 12 then markM R p 769 (celD a.cell).l
  else if k = 13 then resizeM R (min ((R.length : Int) + nA a) 40) (blA a) else if k = 14 then raiseM R (celD a.cell).l else putP R p (celD a.cell) a.wide
theorem celD_l (d : Dc) : L01 (celD d).l := by unfold celD L01; cases d.high <;> simp
/-- An act in a block of its own. -/
def AcAt (w : World) (b : Nat) (a : Ac) : Prop := b < w.heap.size ∧ w.cell? ⟨b, 0, none⟩ = some (.int .u8 (a.what : Nat)) ∧ w.cell? ⟨b, 1, none⟩ = some (.int .u8 (a.at1 : Nat)) ∧ w.cell? ⟨b, 2, none⟩ = some (.int .u8 (a.n : Nat)) ∧ w.cell? ⟨b, 3, none⟩ = some (.bool a.wide) ∧ w.cell? ⟨b, 4, none⟩ = some (.int .u8 (a.cell.ru : Nat)) ∧ w.cell? ⟨b, 5, none⟩ = some (.int .u8 (a.cell.ms : Nat)) ∧ w.cell? ⟨b, 6, none⟩ = some (.int .u8 (a.cell.at1 : Nat)) ∧ w.cell? ⟨b, 7, none⟩ = some (.bool a.cell.wide) ∧ w.cell? ⟨b, 8, none⟩ = some (.bool a.cell.high)
theorem AcAt.same {w w' : World} {b : Nat} {a : Ac} (h : AcAt w b a) (hs : w.heap.size ≤ w'.heap.size) (e : w'.heap[b]? = w.heap[b]?) : AcAt w' b a := by
  have k : ∀ i, w'.cell? ⟨b, i, none⟩ = w.cell? ⟨b, i, none⟩ := fun i => World.cell?_of_block e
  obtain ⟨h0, h1, h2, h3, h4, h5, h6, h7, h8, h9⟩ := h
  exact ⟨by omega, (k _).trans h1, (k _).trans h2, (k _).trans h3, (k _).trans h4, (k _).trans h5, (k _).trans h6, (k _).trans h7, (k _).trans h8, (k _).trans h9⟩
theorem AcAt.below {w w' : World} {b : Nat} {a : Ac} (h : AcAt w b a) (hb : Below w.heap.size w w') : AcAt w' b a := h.same hb.size (hb.block b h.1)
theorem AcAt.newAt (w : World) (n : Nat) (hn : n = w.heap.size) (a : Ac) (T : TypeId) : AcAt (w.alloc (.cells #[.int .u8 (a.what : Nat), .int .u8 (a.at1 : Nat), .int .u8 (a.n : Nat), .bool a.wide, .int .u8 (a.cell.ru : Nat), .int .u8 (a.cell.ms : Nat), .int .u8 (a.cell.at1 : Nat), .bool a.cell.wide, .bool a.cell.high] T)) n a := by
  subst hn
  exact ⟨by simp, by simp, by simp, by simp, by simp, by simp, by simp, by simp, by simp, by simp⟩
set_option maxHeartbeats 4000000 in
theorem at_any (w : World) (a : Ac) (v : Value) (R : Cls) (ha : a.ok) (h : RowIn w v R) (hl : R.length ≤ 100) : Calls Try.prog 11 #[acV a, v] w fun e w' => e = .returned (.int .i64 (atA a R.length)) ∧ Below w.heap.size w w' := by
  obtain ⟨va, vc, rfl⟩ := h.shape
  obtain ⟨n, hn⟩ : ∃ n, n = R.length := ⟨_, rfl⟩
  rw [← hn] at hl ⊢
  obtain ⟨_, h1, _, _⟩ := ha
  obtain ⟨w0, hw0⟩ : ∃ w0, w0 = w.alloc (.cells #[.int .u8 (a.what : Nat), .int .u8 (a.at1 : Nat), .int .u8 (a.n : Nat), .bool a.wide, .int .u8 (a.cell.ru : Nat), .int .u8 (a.cell.ms : Nat), .int .u8 (a.cell.at1 : Nat), .bool a.cell.wide, .bool a.cell.high] 32) := ⟨_, rfl⟩
  have HB := Lib.hid (show Below w.heap.size w w0 by rw [hw0]; exact (Below.refl _ _).alloc (Nat.le_refl _) _)
  have HA := Lib.hid (show AcAt w0 w.heap.size a by rw [hw0]; exact AcAt.newAt w _ rfl a _)
  obtain ⟨_, _, y1, _⟩ := HA.out
  obtain ⟨x, hx⟩ : ∃ x, x = a.at1 := ⟨_, rfl⟩
  have HE := Lib.hid (show atA a n = if 250 < x then (x : Int) - 253 else ((x % (n + 3) : Nat) : Int) by rw [hx]; rfl)
  rw [← hx] at y1 h1
  have s1 : IntKind.i64.wrap (x : Int) = (x : Int) := by rw [IntKind.wrap_i64]; omega
  clear h hn hx
  by_cases hx2 : 250 < x
  · have g1 : (250 : Int) < (x : Int) := by omega
    have s2 : IntKind.i64.wrap ((x : Int) - 253) = (x : Int) - 253 := by rw [IntKind.wrap_i64]; omega
    rw [if_pos hx2] at HE
    go_enter Try.func11, Try.ntmps11
    go_upto_region 1 with (fail)
    rw [← hw0]
    clear hw0
    go_wp2
    go_ret
    exact ⟨by rw [HE.out]; rfl, HB.out⟩
  · have g1 : ¬ (250 : Int) < (x : Int) := by omega
    rw [if_neg hx2] at HE
    obtain ⟨m, hm⟩ : ∃ m, m = n + 3 := ⟨_, rfl⟩
    obtain ⟨q, hq⟩ : ∃ q, q = x % (n + 3) := ⟨_, rfl⟩
    rw [← hq] at HE
    have s2 : IntKind.i64.wrap ((n : Int) + 3) = (m : Int) := by rw [IntKind.wrap_i64]; omega
    have t1 : (x : Int).tmod (m : Int) = (q : Int) := by rw [Int.tmod_eq_emod_of_nonneg (by omega), hq, hm]; rfl
    have t2 : (x : Int) % (m : Int) = (q : Int) := by rw [hq, hm]; rfl
    have t3 : IntKind.i64.wrap (q : Int) = (q : Int) := by have := Nat.mod_le x (n + 3); rw [IntKind.wrap_i64]; omega
    have nz : ¬ (m : Int) = 0 := by omega
    have nzn : ¬ m = 0 := by omega
    clear hm hq
    go_enter Try.func11, Try.ntmps11
    go_upto_region 1 with (fail)
    rw [← hw0]
    clear hw0
    go_wp2
    go_ret
    exact ⟨by rw [HE.out]; rfl, HB.out⟩
/-- Two calls and a new block. -/
def EI (w0 : World) (x y : Value) (f : Nat → Bool) (v : Nat → Value) (w : World) : Prop := (f 2 = true → v 2 = x) ∧ (f 10 = true → v 10 = y) ∧ (f 11 = true → ∃ z, v 11 = .pointer (some ⟨z, 0, none⟩) ∧ BAt w z Cel.z ∧ w0.heap.size ≤ z) ∧ Below w0.heap.size w0 w
theorem EI.start {w0 w : World} {x y : Value} {v : Nat → Value} (h : Below w0.heap.size w0 w) : EI w0 x y (fun _ => false) v w := ⟨fun h => absurd h (by simp), fun h => absurd h (by simp), fun h => absurd h (by simp), h⟩
theorem EI.two {w0 w w' : World} {x y : Value} {f : Nat → Bool} {v : Nat → Value} (h : EI w0 x y f v w) (bb : Below w.heap.size w w') : EI w0 x y (fun j => f j || j == 2) (updM v 2 x) w' := by
  obtain ⟨h1, h8, h2, h3⟩ := h
  refine ⟨fun _ => by simp [updM], fun h => by simpa [updM] using h8 (by simpa using h), fun h9 => ?_, h3.trans (bb.mono h3.size)⟩
  obtain ⟨z, e, hz, hl⟩ := h2 (by simpa using h9)
  exact ⟨z, by simpa [updM] using e, hz.below bb, hl⟩
theorem EI.ten {w0 w w' : World} {x y : Value} {f : Nat → Bool} {v : Nat → Value} (h : EI w0 x y f v w) (bb : Below w.heap.size w w') : EI w0 x y (fun j => f j || j == 10) (updM v 10 y) w' := by
  obtain ⟨h1, h8, h2, h3⟩ := h
  refine ⟨fun h => by simpa [updM] using h1 (by simpa using h), fun _ => by simp [updM], fun h9 => ?_, h3.trans (bb.mono h3.size)⟩
  obtain ⟨z, e, hz, hl⟩ := h2 (by simpa using h9)
  exact ⟨z, by simpa [updM] using e, hz.below bb, hl⟩
theorem EI.new {w0 w : World} {x y : Value} {f : Nat → Bool} {v : Nat → Value} (h : EI w0 x y f v w) : EI w0 x y (fun j => f j || j == 11) (updM v 11 (.pointer (some ⟨w.heap.size, 0, none⟩))) (w.alloc (.cells #[.int .i32 0, .int .i32 0, .int .i32 0, .int .u8 0, .int .u8 0, .int .u8 0, .int .u8 0, .int .u8 0, .int .u8 0, .int .u8 0, .int .u8 0, .int .u8 0, .int .u16 0, .int .u8 0] 44)) := by
  obtain ⟨h1, h8, h2, h3⟩ := h
  refine ⟨fun h => by simpa [updM] using h1 (by simpa using h), fun h => by simpa [updM] using h8 (by simpa using h), fun _ => ⟨w.heap.size, by simp [updM], BAt.newAt w _ rfl Cel.z _, h3.size⟩, h3.trans (((Below.refl _ _).alloc (Nat.le_refl _) _).mono h3.size)⟩
set_option maxHeartbeats 1000000 in
theorem dmark_any (w : World) (d : Dc) : Calls Try.prog 30 #[dcV d] w fun e w' => e = .returned (.int .i32 769) ∧ Below w.heap.size w w' := by
  obtain ⟨w0, hw0⟩ : ∃ w0, w0 = w.alloc (.cells #[.int .u8 (d.ru : Nat), .int .u8 (d.ms : Nat), .int .u8 (d.at1 : Nat), .bool d.wide, .bool d.high] 30) := ⟨_, rfl⟩
  have HB := Lib.hid (show Below w.heap.size w w0 by rw [hw0]; exact (Below.refl _ _).alloc (Nat.le_refl _) _)
  go_enter Try.func30, Try.ntmps30
  go_upto_region 1 with (fail)
  rw [← hw0]
  clear hw0
  go_wp2
  go_ret
  exact ⟨rfl, HB.out⟩
set_option maxHeartbeats 16000000 in
set_option maxRecDepth 100000 in
theorem does_any (H : DoC) (w : World) (a : Ac) (v : Value) (R : Cls) (ha : a.ok) (h : RowAsk w v R) (hl : R.length ≤ 40) : Calls Try.prog 9 #[acV a, v] w (RowRes w (doesM a R)) := by
  obtain ⟨hr, hw, hv, _⟩ := h
  obtain ⟨va, vc, rfl⟩ := hr.shape
  have HW := Lib.hid hw
  have HLv := Lib.hid hv
  have HH := Lib.hid H
  obtain ⟨w0, hw0⟩ : ∃ w0, w0 = w.alloc (.cells #[.int .u8 (a.what : Nat), .int .u8 (a.at1 : Nat), .int .u8 (a.n : Nat), .bool a.wide, .int .u8 (a.cell.ru : Nat), .int .u8 (a.cell.ms : Nat), .int .u8 (a.cell.at1 : Nat), .bool a.cell.wide, .bool a.cell.high] 32) := ⟨_, rfl⟩
  have b0 : Below w.heap.size w w0 := by rw [hw0]; exact (Below.refl _ _).alloc (Nat.le_refl _) _
  have HB := Lib.hid b0
  have HA := Lib.hid (show AcAt w0 w.heap.size a by rw [hw0]; exact AcAt.newAt w _ rfl a _)
  have HR := Lib.hid (hr.below b0)
  have HLEN := Lib.hid hl
  obtain ⟨n, hn⟩ : ∃ n, n = R.length := ⟨_, rfl⟩
  have HN := Lib.hid hn
  obtain ⟨p, hp⟩ : ∃ p, p = atA a n := ⟨_, rfl⟩
  obtain ⟨nn, hnn⟩ : ∃ x, x = nA a := ⟨_, rfl⟩
  obtain ⟨c, hc⟩ : ∃ c, c = celD a.cell := ⟨_, rfl⟩
  obtain ⟨b, hb⟩ : ∃ b, b = blankM c.a c.l := ⟨_, rfl⟩
  have HP := Lib.hid hp
  have HNN := Lib.hid hnn
  have HC := Lib.hid hc
  have HBL := Lib.hid hb
  have HBA := Lib.hid (show blA a = b by rw [hb, hc]; rfl)
  have hpb2 : -3 ≤ p ∧ p ≤ 42 := by
    obtain ⟨_, h1, _, _⟩ := ha
    have hm := Nat.mod_lt a.at1 (show 0 < n + 3 by omega)
    rw [hp]
    unfold atA
    split <;> omega
  have hpb : Pl p := by unfold Pl; omega
  have hnb : -1 ≤ nn ∧ nn ≤ 6 := by
    have hm := Nat.mod_lt a.n (show 0 < 8 by omega)
    rw [hnn]
    unfold nA
    omega
  have HPB := Lib.hid hpb
  have HNB := Lib.hid hnb
  have HQ := Lib.hid (show Pl (p + nn) by unfold Pl; omega)
  clear hpb2
  have hc1 : L01 c.l := by rw [hc]; exact celD_l _
  have HC1 := Lib.hid hc1
  have HB1 := Lib.hid (show Bl b by rw [hb]; exact ⟨rfl, hc1⟩)
  obtain ⟨k, hk⟩ : ∃ k, k = a.what % 15 := ⟨_, rfl⟩
  have HK := Lib.hid hk
  have hk15 : k < 15 := by rw [hk]; exact Nat.mod_lt _ (by decide)
  have e1 : (a.n : Int).tmod 8 = nn + 1 := by rw [Int.tmod_eq_emod_of_nonneg (by omega), hnn]; unfold nA; omega
  have e2 : (a.n : Int) % 8 = nn + 1 := by rw [hnn]; unfold nA; omega
  obtain ⟨nx, hnx⟩ : ∃ x, x = nn + 1 := ⟨_, rfl⟩
  rw [← hnx] at e1 e2
  have e3 : IntKind.u8.wrap nx = nx := by rw [IntKind.wrap_u8]; omega
  have e4 : IntKind.i64.wrap nx = nx := by rw [IntKind.wrap_i64]; omega
  have e5 : IntKind.i64.wrap (nx - 1) = nn := by rw [IntKind.wrap_i64]; omega
  have k1 : (a.what : Int).tmod 15 = (k : Int) := by rw [Int.tmod_eq_emod_of_nonneg (by omega), hk]; rfl
  have k2 : (a.what : Int) % 15 = (k : Int) := by rw [hk]; rfl
  have k3 : IntKind.u8.wrap (k : Int) = (k : Int) := by rw [IntKind.wrap_u8]; omega
  have s1 : IntKind.i64.wrap (p + nn) = p + nn := by unfold Pl at hpb; rw [IntKind.wrap_i64]; omega
  have s2 : IntKind.i64.wrap ((n : Int) + nn) = (n : Int) + nn := by rw [IntKind.wrap_i64]; omega
  have CA := Lib.hid (show ∀ W, Below w0.heap.size w0 W → Calls Try.prog 11 #[acV a, .slice va n vc] W fun e w' => e = .returned (.int .i64 p) ∧ Below W.heap.size W w' from fun W hb => by
    have := at_any W a (.slice va R.length vc) R ha ((hr.below b0).below hb) (by omega)
    rw [← hn, ← hp] at this
    exact this)
  have CC := Lib.hid (show ∀ W, Calls Try.prog 12 #[dcV a.cell] W fun e w' => e = .returned (celV c) ∧ Below W.heap.size W w' from fun W => by rw [hc]; exact rcell_any W a.cell ha.2.2.2)
  have HKEEP := Lib.hid (show ∀ W, Below w0.heap.size w0 W → (fun w' => w'.cell? ⟨w.heap.size, 0, none⟩ = some (.int .u8 (a.what : Nat)) ∧ w'.cell? ⟨w.heap.size, 1, none⟩ = some (.int .u8 (a.at1 : Nat)) ∧ w'.cell? ⟨w.heap.size, 2, none⟩ = some (.int .u8 (a.n : Nat)) ∧ w'.cell? ⟨w.heap.size, 3, none⟩ = some (.bool a.wide) ∧ w'.cell? ⟨w.heap.size, 4, none⟩ = some (.int .u8 (a.cell.ru : Nat)) ∧ w'.cell? ⟨w.heap.size, 5, none⟩ = some (.int .u8 (a.cell.ms : Nat)) ∧ w'.cell? ⟨w.heap.size, 6, none⟩ = some (.int .u8 (a.cell.at1 : Nat)) ∧ w'.cell? ⟨w.heap.size, 7, none⟩ = some (.bool a.cell.wide) ∧ w'.cell? ⟨w.heap.size, 8, none⟩ = some (.bool a.cell.high)) W from fun W hb => (HA.out.below hb).2)
  rw [← hn] at HR hl ⊢
  dsimp only at HKEEP
  clear hr hw hv H b0 hn hp hnn hc hb hk hnx ha hc1 hpb hnb
  go_enter Try.func9, Try.ntmps9
  go_upto_region 1 with (fail)
  rw [← hw0]
  clear hw0
  refine wp_region_held_drew (S := fun w' => w'.cell? ⟨w.heap.size, 0, none⟩ = some (.int .u8 (a.what : Nat)) ∧ w'.cell? ⟨w.heap.size, 1, none⟩ = some (.int .u8 (a.at1 : Nat)) ∧ w'.cell? ⟨w.heap.size, 2, none⟩ = some (.int .u8 (a.n : Nat)) ∧ w'.cell? ⟨w.heap.size, 3, none⟩ = some (.bool a.wide) ∧ w'.cell? ⟨w.heap.size, 4, none⟩ = some (.int .u8 (a.cell.ru : Nat)) ∧ w'.cell? ⟨w.heap.size, 5, none⟩ = some (.int .u8 (a.cell.ms : Nat)) ∧ w'.cell? ⟨w.heap.size, 6, none⟩ = some (.int .u8 (a.cell.at1 : Nat)) ∧ w'.cell? ⟨w.heap.size, 7, none⟩ = some (.bool a.cell.wide) ∧ w'.cell? ⟨w.heap.size, 8, none⟩ = some (.bool a.cell.high)) (by as_aux_lemma => kernel_rfl) ?_ (fun hHeld => ?_)
  · exact HKEEP.out _ ⟨rfl, rfl, rfl, Nat.le_refl _, fun _ _ => rfl⟩
  obtain ⟨u0, hu0⟩ : ∃ u0, u0 = w0.drew := ⟨_, rfl⟩
  have HX0 := Lib.hid (show Below w0.heap.size w0 u0 by rw [hu0]; exact ⟨rfl, rfl, rfl, Nat.le_refl _, fun _ _ => rfl⟩)
  replace hHeld := HKEEP.out _ HX0.out
  rw [← hu0]
  clear hu0
  refine take_at (i := 0) (v := ?_) rfl (by as_aux_lemma => kernel_rfl) (by as_aux_lemma => kernel_rfl) (by as_aux_lemma => kernel_rfl) (fun _ _ _ h => h) (by as_aux_lemma => kernel_rfl) (by assumption) ?_ ?_
  rotate_left
  · (intro w hSw; (try dsimp only at hSw); go_simp; try with_reducible rfl)
  simp only [Act.put, List.setIfInBounds_toArray, List.set_cons_zero, List.set_cons_succ]
  refine take_at (i := 1) (v := ?_) rfl (by as_aux_lemma => kernel_rfl) (by as_aux_lemma => kernel_rfl) (by as_aux_lemma => kernel_rfl) (fun _ _ _ h => h) (by as_aux_lemma => kernel_rfl) (by assumption) ?_ ?_
  rotate_left
  · (intro w hSw; (try dsimp only at hSw); go_simp; try with_reducible rfl)
  simp only [Act.put, List.setIfInBounds_toArray, List.set_cons_zero, List.set_cons_succ]
  refine take_at (i := 3) (v := ?_) rfl (by as_aux_lemma => kernel_rfl) (by as_aux_lemma => kernel_rfl) (by as_aux_lemma => kernel_rfl) (fun _ _ _ h => h) (by as_aux_lemma => kernel_rfl) (by assumption) ?_ ?_
  rotate_left
  · (intro w hSw; (try dsimp only at hSw); go_simp; try with_reducible rfl)
  simp only [Act.put, List.setIfInBounds_toArray, List.set_cons_zero, List.set_cons_succ]
  refine take_at (i := 4) (v := ?_) rfl (by as_aux_lemma => kernel_rfl) (by as_aux_lemma => kernel_rfl) (by as_aux_lemma => kernel_rfl) (fun _ _ _ h => h) (by as_aux_lemma => kernel_rfl) (by assumption) ?_ ?_
  rotate_left
  · (intro w hSw; (try dsimp only at hSw); go_simp; try with_reducible rfl)
  simp only [Act.put, List.setIfInBounds_toArray, List.set_cons_zero, List.set_cons_succ]
  refine take_at (i := 5) (v := ?_) rfl (by as_aux_lemma => kernel_rfl) (by as_aux_lemma => kernel_rfl) (by as_aux_lemma => kernel_rfl) (fun _ _ _ h => h) (by as_aux_lemma => kernel_rfl) (by assumption) ?_ ?_
  rotate_left
  · (intro w hSw; (try dsimp only at hSw); go_simp; try with_reducible rfl)
  simp only [Act.put, List.setIfInBounds_toArray, List.set_cons_zero, List.set_cons_succ]
  refine take_at (i := 6) (v := ?_) rfl (by as_aux_lemma => kernel_rfl) (by as_aux_lemma => kernel_rfl) (by as_aux_lemma => kernel_rfl) (fun _ _ _ h => h) (by as_aux_lemma => kernel_rfl) (by assumption) ?_ ?_
  rotate_left
  · (intro w hSw; (try dsimp only at hSw); go_simp; try with_reducible rfl)
  simp only [Act.put, List.setIfInBounds_toArray, List.set_cons_zero, List.set_cons_succ]
  refine take_at (i := 7) (v := ?_) rfl (by as_aux_lemma => kernel_rfl) (by as_aux_lemma => kernel_rfl) (by as_aux_lemma => kernel_rfl) (fun _ _ _ h => h) (by as_aux_lemma => kernel_rfl) (by assumption) ?_ ?_
  rotate_left
  · (intro w hSw; (try dsimp only at hSw); go_simp; try with_reducible rfl)
  simp only [Act.put, List.setIfInBounds_toArray, List.set_cons_zero, List.set_cons_succ]
  refine take_at (i := 8) (v := ?_) rfl (by as_aux_lemma => kernel_rfl) (by as_aux_lemma => kernel_rfl) (by as_aux_lemma => kernel_rfl) (fun _ _ _ h => h) (by as_aux_lemma => kernel_rfl) (by assumption) ?_ ?_
  rotate_left
  · (intro w hSw; (try dsimp only at hSw); go_simp; try with_reducible rfl)
  simp only [Act.put, List.setIfInBounds_toArray, List.set_cons_zero, List.set_cons_succ]
  refine take_at (i := 9) (v := ?_) rfl (by as_aux_lemma => kernel_rfl) (by as_aux_lemma => kernel_rfl) (by as_aux_lemma => kernel_rfl) (fun _ _ _ h => h) (by as_aux_lemma => kernel_rfl) (by assumption) ?_ ?_
  rotate_left
  · (intro w hSw; (try dsimp only at hSw); go_simp; try with_reducible rfl)
  simp only [Act.put, List.setIfInBounds_toArray, List.set_cons_zero, List.set_cons_succ]
  refine many_at (I := [(2, some 11), (10, some 19), (11, some 7)]) (fun i => if i = 10 then [2] else []) [true, true, false, true, true, true, true, true, true, true, false, false, false, false, false] (listed' := #[true, true, true, true, true, true, true, true, true, true, true, true, false, false, false]) (EI w0 (.int .i64 p) (celV c)) rfl rfl (by decide) (by as_aux_lemma => kernel_rfl) (by as_aux_lemma => kernel_rfl) (fun _ => EI.start HX0.out) hHeld ?_ ?_
  · clear HX0 hHeld
    refine List.forall_mem_cons.2 ⟨?_, List.forall_mem_cons.2 ⟨?_, List.forall_mem_cons.2 ⟨?_, fun _ h => by cases h⟩⟩⟩
    · refine StepM.mk rfl rfl (fun y => by kernel_rfl) (fun f y u hf hdp hI hHeld K hK => ?_)
      have HI := Lib.hid hI
      clear hI hf hdp
      simp only [actM, List.foldl_cons, List.foldl_nil, Act.put, List.setIfInBounds_toArray, List.set_cons_zero, List.set_cons_succ]
      go_simp
      refine (CA.out _ HI.out.2.2.2).mono ?_
      rintro e u' ⟨rfl, bb⟩
      have HI' := Lib.hid (HI.out.two bb)
      clear HI bb
      go_wp2_with fail
      exact hK.out (.int .i64 p) _ _ (by as_aux_lemma => kernel_rfl) HI'.out (HKEEP.out _ HI'.out.2.2.2)
    · refine StepM.mk rfl rfl (fun y => by kernel_rfl) (fun f y u hf hdp hI hHeld K hK => ?_)
      have HI := Lib.hid hI
      clear hI hf hdp
      simp only [actM, List.foldl_cons, List.foldl_nil, Act.put, List.setIfInBounds_toArray, List.set_cons_zero, List.set_cons_succ]
      go_simp
      refine (CC.out _).mono ?_
      rintro e u' ⟨rfl, bb⟩
      have HI' := Lib.hid (HI.out.ten bb)
      clear HI bb
      go_wp2_with fail
      exact hK.out (celV c) _ _ (by as_aux_lemma => kernel_rfl) HI'.out (HKEEP.out _ HI'.out.2.2.2)
    · refine StepM.mk rfl rfl (fun y => by kernel_rfl) (fun f y u hf hdp hI hHeld K hK => ?_)
      have HI' := Lib.hid hI.new
      clear hI hf hdp
      simp only [actM, List.foldl_cons, List.foldl_nil, Act.put, List.setIfInBounds_toArray, List.set_cons_zero, List.set_cons_succ]
      go_wp2_with fail
      exact hK.out (.pointer (some ⟨u.heap.size, 0, none⟩)) _ _ (by as_aux_lemma => kernel_rfl) HI'.out (HKEEP.out _ HI'.out.2.2.2)
  · intro y v2 hI hHeld
    obtain ⟨e2', e10, e11, eb⟩ := hI
    replace e2' := e2' rfl
    replace e10 := e10 rfl
    obtain ⟨z, e11, hz, hzl⟩ := e11 rfl
    have HZ := Lib.hid hz
    have HZL := Lib.hid hzl
    have HX2 := Lib.hid eb
    simp only [actM, List.foldl_cons, List.foldl_nil, Act.put, List.setIfInBounds_toArray, List.set_cons_zero, List.set_cons_succ]
    rw [e2', e10, e11]
    clear e2' e10 e11 hz hzl eb HX0
    refine take_at (i := 12) (v := ?_) rfl (by as_aux_lemma => kernel_rfl) (by as_aux_lemma => kernel_rfl) (by as_aux_lemma => kernel_rfl) (fun _ _ _ h => h) (by as_aux_lemma => kernel_rfl) (by assumption) ?_ ?_
    rotate_left
    · (intro w hSw; (try dsimp only at hSw); go_simp; try with_reducible rfl)
    simp only [Act.put, List.setIfInBounds_toArray, List.set_cons_zero, List.set_cons_succ]
    refine take_at (i := 13) (v := ?_) rfl (by as_aux_lemma => kernel_rfl) (by as_aux_lemma => kernel_rfl) (by as_aux_lemma => kernel_rfl) (fun _ _ _ h => h) (by as_aux_lemma => kernel_rfl) (by assumption) ?_ ?_
    rotate_left
    · (intro w hSw; (try dsimp only at hSw); go_simp; try with_reducible rfl)
    simp only [Act.put, List.setIfInBounds_toArray, List.set_cons_zero, List.set_cons_succ]
    refine do_at (i := 14) rfl (by as_aux_lemma => kernel_rfl) (by as_aux_lemma => kernel_rfl) (fun K hK => ?_)
    obtain ⟨wz, hwz⟩ : ∃ u, u = put14 v2 z 0 c := ⟨_, rfl⟩
    have HZ2 := Lib.hid (show BAt wz z c by rw [hwz]; exact HZ.out.put _)
    have HX := Lib.hid (show Below w0.heap.size w0 wz by rw [hwz]; exact HX2.out.trans ((put14_but v2 z 0 _).below (C := w0.heap.size) HZL.out HX2.out.size))
    simp only [put14, Nat.zero_add] at hwz
    obtain ⟨_, ⟨y0, y1, y2, y3, y4, y5, y6, y7, y8, y9, y10, y11, y12, y13⟩, yf⟩ := HZ.out
    dsimp only at y0 y1 y2 y3 y4 y5 y6 y7 y8 y9 y10 y11 y12 y13
    go_wp2_with fail
    rw [← hwz]
    clear hwz y0 y1 y2 y3 y4 y5 y6 y7 y8 y9 y10 y11 y12 y13 yf
    refine hK.out _ _ ?_ (fun hHeld => ?_)
    · exact HKEEP.out _ HX.out
    clear hK K
    try simp only [List.setIfInBounds_toArray, List.set_cons_zero, List.set_cons_succ]
    refine wpAnyH_done (by as_aux_lemma => kernel_rfl) ?_ _
    clear HX2 hHeld CA CC HZ e1 e2 e3 e4 e5
    obtain ⟨_, ⟨y0, y1, y2, y3, y4, y5, y6, y7, y8, y9, y10, y11, y12, y13⟩, _⟩ := HZ2.out
    go_wp2_with fail
    refine (HH.out.bla _ c.a c.l).mono ?_
    rintro e w5 ⟨rfl, bb⟩
    rw [← HBL.out]
    have HZ5 := Lib.hid (HZ2.out.below bb)
    have HX5 := Lib.hid (HX.out.trans (bb.mono HX.out.size))
    clear bb HZ2 HX y0 y1 y2 y3 y4 y5 y6 y7 y8 y9 y10 y11 y12 y13
    obtain ⟨w6, hw6⟩ : ∃ u, u = w5.alloc (.cells #[.int .i32 b.ru, .int .i32 b.m0, .int .i32 b.m1, .int .u8 b.k, .int .u8 b.a.fg.k, .int .u8 b.a.fg.r, .int .u8 b.a.fg.g, .int .u8 b.a.fg.b, .int .u8 b.a.bg.k, .int .u8 b.a.bg.r, .int .u8 b.a.bg.g, .int .u8 b.a.bg.b, .int .u16 (b.a.fl : Nat), .int .u8 b.l] 44) := ⟨_, rfl⟩
    obtain ⟨x, hx⟩ : ∃ x, x = w5.heap.size := ⟨_, rfl⟩
    have b6 : Below w5.heap.size w5 w6 := by rw [hw6]; exact (Below.refl _ _).alloc (Nat.le_refl _) _
    have HY6 := Lib.hid (show BAt w6 x b by rw [hw6]; exact BAt.newAt w5 _ hx b _)
    have HZ6 := Lib.hid (HZ5.out.below b6)
    have HX6 := Lib.hid (HX5.out.trans (b6.mono HX5.out.size))
    go_upto_region 3 with (fail)
    rw [← hw6, ← hx]
    clear hw6 hx b6 HZ5 HX5
    have ya := HKEEP.out _ HX6.out
    obtain ⟨y0, y1, y2, y3, y4, y5, y6, y7, y8⟩ := ya
    go_upto_region 4 with (fail)
    clear k1 k2 k3 y0 y1 y2 y3 y4 y5 y6 y7 y8
    have HBW := Lib.hid (HB.out.trans (HX6.out.mono HB.out.size))
    have HRW := Lib.hid (show RowAsk w6 (.slice va n vc) R from ⟨HR.out.below HX6.out, HW.out, HLv.out, by have := HLEN.out; omega⟩)
    by_cases n0 : k = 0
    · subst n0
      have HE := Lib.hid (show doesM a R = breakM (breakM R p) (p + nn) by
        unfold doesM
        simp only [← HK.out, ← HN.out, ← HP.out, ← HNN.out, ← HC.out]
        simp)
      obtain ⟨w7, hw7⟩ : ∃ u, u = w6.alloc (.cells #[.int .i64 p, .int .i64 (p + nn)] 3) := ⟨_, rfl⟩
      have b7 : Below w6.heap.size w6 w7 := by rw [hw7]; exact (Below.refl _ _).alloc (Nat.le_refl _) _
      have HNU := Lib.hid (show NumsAt w7 (fun _ => True) (.slice (some ⟨w6.heap.size, 0, none⟩) 2 2) [p, p + nn] from ⟨_, 2, rfl, by simp, by simp [maxLen], fun _ => ⟨w6.heap.size, 0, rfl, trivial, by rw [hw7]; simp, fun j hj => by
        rcases (show j = 0 ∨ j = 1 by simp at hj; omega) with rfl | rfl
        · rw [hw7]; simp
        · rw [hw7]; simp⟩⟩)
      have HBW7 := Lib.hid (HBW.out.trans (b7.mono HBW.out.size))
      have HRW7 := Lib.hid (show RowAsk w7 (.slice va n vc) R from ⟨HRW.out.1.below b7, HW.out, HLv.out, by have := HLEN.out; omega⟩)
      replace HBW := HBW7
      clear b7 HBW7
      go_wp2_with fail
      rw [← hw7]
      clear hw7
      refine (HH.out.brk w7 _ _ R [p, p + nn] HRW7.out HNU.out (by simp) (fun q hq => by
        simp only [List.mem_cons, List.not_mem_nil, or_false] at hq
        rcases hq with rfl | rfl
        · exact HPB.out
        · exact HQ.out)).mono ?_
      rintro e w9 ⟨v9, rfl, R9, bb⟩
      have HR9 := Lib.hid R9
      have HB9 := Lib.hid (HBW.out.trans (bb.mono HBW.out.size))
      clear bb R9 HKEEP HY6 HZ6 HX6 HRW
      go_wp2
      go_ret
      exact ⟨v9, rfl, by rw [HE.out]; exact HR9.out, HB9.out⟩
    by_cases n5 : k = 5
    · subst n5
      have HE := Lib.hid (show doesM a R = insertM R p nn b by
        unfold doesM
        simp only [← HK.out, ← HN.out, ← HP.out, ← HNN.out, ← HC.out]
        simp [HBA.out])
      obtain ⟨_, ⟨x0, x1, x2, x3, x4, x5, x6, x7, x8, x9, x10, x11, x12, x13⟩, _⟩ := HY6.out
      go_wp2_with fail
      refine (HH.out.ins w6 _ R p nn b HRW.out HPB.out (by have := HNB.out; unfold Pl; omega) HB1.out).mono ?_
      clear x0 x1 x2 x3 x4 x5 x6 x7 x8 x9 x10 x11 x12 x13
      rintro e w9 ⟨v9, rfl, R9, bb⟩
      have HR9 := Lib.hid R9
      have HB9 := Lib.hid (HBW.out.trans (bb.mono HBW.out.size))
      clear bb R9 HKEEP HY6 HZ6 HX6 HRW
      go_wp2
      go_ret
      exact ⟨v9, rfl, by rw [HE.out]; exact HR9.out, HB9.out⟩
    by_cases n6 : k = 6
    · subst n6
      have HE := Lib.hid (show doesM a R = insertM R p nn b by
        unfold doesM
        simp only [← HK.out, ← HN.out, ← HP.out, ← HNN.out, ← HC.out]
        simp [HBA.out])
      obtain ⟨_, ⟨x0, x1, x2, x3, x4, x5, x6, x7, x8, x9, x10, x11, x12, x13⟩, _⟩ := HY6.out
      go_wp2_with fail
      refine (HH.out.ins w6 _ R p nn b HRW.out HPB.out (by have := HNB.out; unfold Pl; omega) HB1.out).mono ?_
      clear x0 x1 x2 x3 x4 x5 x6 x7 x8 x9 x10 x11 x12 x13
      rintro e w9 ⟨v9, rfl, R9, bb⟩
      have HR9 := Lib.hid R9
      have HB9 := Lib.hid (HBW.out.trans (bb.mono HBW.out.size))
      clear bb R9 HKEEP HY6 HZ6 HX6 HRW
      go_wp2
      go_ret
      exact ⟨v9, rfl, by rw [HE.out]; exact HR9.out, HB9.out⟩
    by_cases n7 : k = 7
    · subst n7
      have HE := Lib.hid (show doesM a R = deleteM R p nn b by
        unfold doesM
        simp only [← HK.out, ← HN.out, ← HP.out, ← HNN.out, ← HC.out]
        simp [HBA.out])
      obtain ⟨_, ⟨x0, x1, x2, x3, x4, x5, x6, x7, x8, x9, x10, x11, x12, x13⟩, _⟩ := HY6.out
      go_wp2_with fail
      refine (HH.out.del w6 _ R p nn b HRW.out HPB.out (by have := HNB.out; unfold Pl; omega) HB1.out).mono ?_
      clear x0 x1 x2 x3 x4 x5 x6 x7 x8 x9 x10 x11 x12 x13
      rintro e w9 ⟨v9, rfl, R9, bb⟩
      have HR9 := Lib.hid R9
      have HB9 := Lib.hid (HBW.out.trans (bb.mono HBW.out.size))
      clear bb R9 HKEEP HY6 HZ6 HX6 HRW
      go_wp2
      go_ret
      exact ⟨v9, rfl, by rw [HE.out]; exact HR9.out, HB9.out⟩
    by_cases n8 : k = 8
    · subst n8
      have HE := Lib.hid (show doesM a R = deleteM R p nn b by
        unfold doesM
        simp only [← HK.out, ← HN.out, ← HP.out, ← HNN.out, ← HC.out]
        simp [HBA.out])
      obtain ⟨_, ⟨x0, x1, x2, x3, x4, x5, x6, x7, x8, x9, x10, x11, x12, x13⟩, _⟩ := HY6.out
      go_wp2_with fail
      refine (HH.out.del w6 _ R p nn b HRW.out HPB.out (by have := HNB.out; unfold Pl; omega) HB1.out).mono ?_
      clear x0 x1 x2 x3 x4 x5 x6 x7 x8 x9 x10 x11 x12 x13
      rintro e w9 ⟨v9, rfl, R9, bb⟩
      have HR9 := Lib.hid R9
      have HB9 := Lib.hid (HBW.out.trans (bb.mono HBW.out.size))
      clear bb R9 HKEEP HY6 HZ6 HX6 HRW
      go_wp2
      go_ret
      exact ⟨v9, rfl, by rw [HE.out]; exact HR9.out, HB9.out⟩
    by_cases n9 : k = 9
    · subst n9
      have HE := Lib.hid (show doesM a R = erasePM R p (p + nn) b by
        unfold doesM
        simp only [← HK.out, ← HN.out, ← HP.out, ← HNN.out, ← HC.out]
        simp [HBA.out])
      obtain ⟨_, ⟨x0, x1, x2, x3, x4, x5, x6, x7, x8, x9, x10, x11, x12, x13⟩, _⟩ := HY6.out
      go_wp2_with fail
      refine (HH.out.era w6 _ R p (p + nn) b HRW.out HPB.out HQ.out HB1.out).mono ?_
      clear x0 x1 x2 x3 x4 x5 x6 x7 x8 x9 x10 x11 x12 x13
      rintro e w9 ⟨v9, rfl, R9, bb⟩
      have HR9 := Lib.hid R9
      have HB9 := Lib.hid (HBW.out.trans (bb.mono HBW.out.size))
      clear bb R9 HKEEP HY6 HZ6 HX6 HRW
      go_wp2
      go_ret
      exact ⟨v9, rfl, by rw [HE.out]; exact HR9.out, HB9.out⟩
    by_cases n10 : k = 10
    · subst n10
      have HE := Lib.hid (show doesM a R = erasePM R p (p + nn) b by
        unfold doesM
        simp only [← HK.out, ← HN.out, ← HP.out, ← HNN.out, ← HC.out]
        simp [HBA.out])
      obtain ⟨_, ⟨x0, x1, x2, x3, x4, x5, x6, x7, x8, x9, x10, x11, x12, x13⟩, _⟩ := HY6.out
      go_wp2_with fail
      refine (HH.out.era w6 _ R p (p + nn) b HRW.out HPB.out HQ.out HB1.out).mono ?_
      clear x0 x1 x2 x3 x4 x5 x6 x7 x8 x9 x10 x11 x12 x13
      rintro e w9 ⟨v9, rfl, R9, bb⟩
      have HR9 := Lib.hid R9
      have HB9 := Lib.hid (HBW.out.trans (bb.mono HBW.out.size))
      clear bb R9 HKEEP HY6 HZ6 HX6 HRW
      go_wp2
      go_ret
      exact ⟨v9, rfl, by rw [HE.out]; exact HR9.out, HB9.out⟩
    by_cases n11 : k = 11
    · subst n11
      have HE := Lib.hid (show doesM a R = markM R p 769 c.l by
        unfold doesM
        simp only [← HK.out, ← HN.out, ← HP.out, ← HNN.out, ← HC.out]
        simp)
      have HK17 := Lib.hid (show ∀ W, Below w6.heap.size w6 W → (fun w' => (w'.cell? ⟨w.heap.size, 0, none⟩ = some (.int .u8 (a.what : Nat)) ∧ w'.cell? ⟨w.heap.size, 1, none⟩ = some (.int .u8 (a.at1 : Nat)) ∧ w'.cell? ⟨w.heap.size, 2, none⟩ = some (.int .u8 (a.n : Nat)) ∧ w'.cell? ⟨w.heap.size, 3, none⟩ = some (.bool a.wide) ∧ w'.cell? ⟨w.heap.size, 4, none⟩ = some (.int .u8 (a.cell.ru : Nat)) ∧ w'.cell? ⟨w.heap.size, 5, none⟩ = some (.int .u8 (a.cell.ms : Nat)) ∧ w'.cell? ⟨w.heap.size, 6, none⟩ = some (.int .u8 (a.cell.at1 : Nat)) ∧ w'.cell? ⟨w.heap.size, 7, none⟩ = some (.bool a.cell.wide) ∧ w'.cell? ⟨w.heap.size, 8, none⟩ = some (.bool a.cell.high)) ∧ w'.cell? ⟨z, 13, none⟩ = some (.int .u8 c.l)) W from fun W hb => ⟨HKEEP.out _ (HX6.out.trans (hb.mono HX6.out.size)), by
        obtain ⟨x0, x1, x2, x3, x4, x5, x6, x7, x8, x9, x10, x11, x12, x13⟩ := (HZ6.out.below hb).2.1
        exact x13⟩)
      dsimp only at HK17
      go_upto_region 17 with (fail)
      refine wp_region_held_drew (S := fun w' => (w'.cell? ⟨w.heap.size, 0, none⟩ = some (.int .u8 (a.what : Nat)) ∧ w'.cell? ⟨w.heap.size, 1, none⟩ = some (.int .u8 (a.at1 : Nat)) ∧ w'.cell? ⟨w.heap.size, 2, none⟩ = some (.int .u8 (a.n : Nat)) ∧ w'.cell? ⟨w.heap.size, 3, none⟩ = some (.bool a.wide) ∧ w'.cell? ⟨w.heap.size, 4, none⟩ = some (.int .u8 (a.cell.ru : Nat)) ∧ w'.cell? ⟨w.heap.size, 5, none⟩ = some (.int .u8 (a.cell.ms : Nat)) ∧ w'.cell? ⟨w.heap.size, 6, none⟩ = some (.int .u8 (a.cell.at1 : Nat)) ∧ w'.cell? ⟨w.heap.size, 7, none⟩ = some (.bool a.cell.wide) ∧ w'.cell? ⟨w.heap.size, 8, none⟩ = some (.bool a.cell.high)) ∧ w'.cell? ⟨z, 13, none⟩ = some (.int .u8 c.l)) (by as_aux_lemma => kernel_rfl) ?_ (fun hHeld => ?_)
      · exact HK17.out _ ⟨rfl, rfl, rfl, Nat.le_refl _, fun _ _ => rfl⟩
      obtain ⟨u1, hu1⟩ : ∃ u0, u0 = w6.drew := ⟨_, rfl⟩
      have HXX := Lib.hid (show Below w6.heap.size w6 u1 by rw [hu1]; exact ⟨rfl, rfl, rfl, Nat.le_refl _, fun _ _ => rfl⟩)
      replace hHeld := HK17.out _ HXX.out
      rw [← hu1]
      clear hu1
      refine take_at (i := 0) (v := ?_) rfl (by as_aux_lemma => kernel_rfl) (by as_aux_lemma => kernel_rfl) (by as_aux_lemma => kernel_rfl) (fun _ _ _ h => h) (by as_aux_lemma => kernel_rfl) (by assumption) ?_ ?_
      rotate_left
      · (intro w hSw; (try dsimp only at hSw); go_simp; try with_reducible rfl)
      simp only [Act.put, List.setIfInBounds_toArray, List.set_cons_zero, List.set_cons_succ]
      refine take_at (i := 1) (v := ?_) rfl (by as_aux_lemma => kernel_rfl) (by as_aux_lemma => kernel_rfl) (by as_aux_lemma => kernel_rfl) (fun _ _ _ h => h) (by as_aux_lemma => kernel_rfl) (by assumption) ?_ ?_
      rotate_left
      · (intro w hSw; (try dsimp only at hSw); go_simp; try with_reducible rfl)
      simp only [Act.put, List.setIfInBounds_toArray, List.set_cons_zero, List.set_cons_succ]
      refine take_at (i := 2) (v := ?_) rfl (by as_aux_lemma => kernel_rfl) (by as_aux_lemma => kernel_rfl) (by as_aux_lemma => kernel_rfl) (fun _ _ _ h => h) (by as_aux_lemma => kernel_rfl) (by assumption) ?_ ?_
      rotate_left
      · (intro w hSw; (try dsimp only at hSw); go_simp; try with_reducible rfl)
      simp only [Act.put, List.setIfInBounds_toArray, List.set_cons_zero, List.set_cons_succ]
      refine take_at (i := 3) (v := ?_) rfl (by as_aux_lemma => kernel_rfl) (by as_aux_lemma => kernel_rfl) (by as_aux_lemma => kernel_rfl) (fun _ _ _ h => h) (by as_aux_lemma => kernel_rfl) (by assumption) ?_ ?_
      rotate_left
      · (intro w hSw; (try dsimp only at hSw); go_simp; try with_reducible rfl)
      simp only [Act.put, List.setIfInBounds_toArray, List.set_cons_zero, List.set_cons_succ]
      refine take_at (i := 5) (v := ?_) rfl (by as_aux_lemma => kernel_rfl) (by as_aux_lemma => kernel_rfl) (by as_aux_lemma => kernel_rfl) (fun _ _ _ h => h) (by as_aux_lemma => kernel_rfl) (by assumption) ?_ ?_
      rotate_left
      · (intro w hSw; (try dsimp only at hSw); go_simp; try with_reducible rfl)
      simp only [Act.put, List.setIfInBounds_toArray, List.set_cons_zero, List.set_cons_succ]
      refine take_at (i := 6) (v := ?_) rfl (by as_aux_lemma => kernel_rfl) (by as_aux_lemma => kernel_rfl) (by as_aux_lemma => kernel_rfl) (fun _ _ _ h => h) (by as_aux_lemma => kernel_rfl) (by assumption) ?_ ?_
      rotate_left
      · (intro w hSw; (try dsimp only at hSw); go_simp; try with_reducible rfl)
      simp only [Act.put, List.setIfInBounds_toArray, List.set_cons_zero, List.set_cons_succ]
      refine do_at (i := 4) rfl (by as_aux_lemma => kernel_rfl) (by as_aux_lemma => kernel_rfl) (fun K hK => ?_)
      go_simp
      refine (dmark_any _ a.cell).mono ?_
      rintro e w7 ⟨rfl, bb⟩
      have HX7 := Lib.hid (HXX.out.trans (bb.mono HXX.out.size))
      clear bb HXX
      go_wp2_with fail
      refine hK.out _ _ ?_ (fun hHeld => ?_)
      · exact HK17.out _ HX7.out
      clear hK K
      try simp only [Act.put, List.setIfInBounds_toArray, List.set_cons_zero, List.set_cons_succ]
      refine do_at (i := 7) rfl (by as_aux_lemma => kernel_rfl) (by as_aux_lemma => kernel_rfl) (fun K hK => ?_)
      go_simp
      refine (HH.out.mrk w7 _ R p 769 c.l ⟨HRW.out.1.below HX7.out, HRW.out.2⟩ HPB.out rfl HC1.out).mono ?_
      rintro e w9 ⟨v9, rfl, R9, bb⟩
      have HX9 := Lib.hid (HX7.out.trans (bb.mono HX7.out.size))
      have HR9 := Lib.hid R9
      clear bb HX7 R9
      go_wp2_with fail
      refine hK.out _ _ ?_ (fun hHeld => ?_)
      · exact HK17.out _ HX9.out
      clear hK K
      try simp only [Act.put, List.setIfInBounds_toArray, List.set_cons_zero, List.set_cons_succ]
      refine take_at (i := 8) (v := ?_) rfl (by as_aux_lemma => kernel_rfl) (by as_aux_lemma => kernel_rfl) (by as_aux_lemma => kernel_rfl) (fun _ _ _ h => h) (by as_aux_lemma => kernel_rfl) (by assumption) ?_ ?_
      rotate_left
      · (intro w hSw; (try dsimp only at hSw); go_simp; try with_reducible rfl)
      simp only [Act.put, List.setIfInBounds_toArray, List.set_cons_zero, List.set_cons_succ]
      refine wpAnyH_done (by as_aux_lemma => kernel_rfl) ?_ _
      have HB9 := Lib.hid (HBW.out.trans (HX9.out.mono HBW.out.size))
      clear HX9 hHeld HK17 HKEEP HY6 HZ6 HX6 HRW
      go_wp2
      go_ret
      exact ⟨v9, rfl, by rw [HE.out]; exact HR9.out, HB9.out⟩
    by_cases n12 : k = 12
    · subst n12
      have HE := Lib.hid (show doesM a R = markM R p 769 c.l by
        unfold doesM
        simp only [← HK.out, ← HN.out, ← HP.out, ← HNN.out, ← HC.out]
        simp)
      have HK17 := Lib.hid (show ∀ W, Below w6.heap.size w6 W → (fun w' => (w'.cell? ⟨w.heap.size, 0, none⟩ = some (.int .u8 (a.what : Nat)) ∧ w'.cell? ⟨w.heap.size, 1, none⟩ = some (.int .u8 (a.at1 : Nat)) ∧ w'.cell? ⟨w.heap.size, 2, none⟩ = some (.int .u8 (a.n : Nat)) ∧ w'.cell? ⟨w.heap.size, 3, none⟩ = some (.bool a.wide) ∧ w'.cell? ⟨w.heap.size, 4, none⟩ = some (.int .u8 (a.cell.ru : Nat)) ∧ w'.cell? ⟨w.heap.size, 5, none⟩ = some (.int .u8 (a.cell.ms : Nat)) ∧ w'.cell? ⟨w.heap.size, 6, none⟩ = some (.int .u8 (a.cell.at1 : Nat)) ∧ w'.cell? ⟨w.heap.size, 7, none⟩ = some (.bool a.cell.wide) ∧ w'.cell? ⟨w.heap.size, 8, none⟩ = some (.bool a.cell.high)) ∧ w'.cell? ⟨z, 13, none⟩ = some (.int .u8 c.l)) W from fun W hb => ⟨HKEEP.out _ (HX6.out.trans (hb.mono HX6.out.size)), by
        obtain ⟨x0, x1, x2, x3, x4, x5, x6, x7, x8, x9, x10, x11, x12, x13⟩ := (HZ6.out.below hb).2.1
        exact x13⟩)
      dsimp only at HK17
      go_upto_region 17 with (fail)
      refine wp_region_held_drew (S := fun w' => (w'.cell? ⟨w.heap.size, 0, none⟩ = some (.int .u8 (a.what : Nat)) ∧ w'.cell? ⟨w.heap.size, 1, none⟩ = some (.int .u8 (a.at1 : Nat)) ∧ w'.cell? ⟨w.heap.size, 2, none⟩ = some (.int .u8 (a.n : Nat)) ∧ w'.cell? ⟨w.heap.size, 3, none⟩ = some (.bool a.wide) ∧ w'.cell? ⟨w.heap.size, 4, none⟩ = some (.int .u8 (a.cell.ru : Nat)) ∧ w'.cell? ⟨w.heap.size, 5, none⟩ = some (.int .u8 (a.cell.ms : Nat)) ∧ w'.cell? ⟨w.heap.size, 6, none⟩ = some (.int .u8 (a.cell.at1 : Nat)) ∧ w'.cell? ⟨w.heap.size, 7, none⟩ = some (.bool a.cell.wide) ∧ w'.cell? ⟨w.heap.size, 8, none⟩ = some (.bool a.cell.high)) ∧ w'.cell? ⟨z, 13, none⟩ = some (.int .u8 c.l)) (by as_aux_lemma => kernel_rfl) ?_ (fun hHeld => ?_)
      · exact HK17.out _ ⟨rfl, rfl, rfl, Nat.le_refl _, fun _ _ => rfl⟩
      obtain ⟨u1, hu1⟩ : ∃ u0, u0 = w6.drew := ⟨_, rfl⟩
      have HXX := Lib.hid (show Below w6.heap.size w6 u1 by rw [hu1]; exact ⟨rfl, rfl, rfl, Nat.le_refl _, fun _ _ => rfl⟩)
      replace hHeld := HK17.out _ HXX.out
      rw [← hu1]
      clear hu1
      refine take_at (i := 0) (v := ?_) rfl (by as_aux_lemma => kernel_rfl) (by as_aux_lemma => kernel_rfl) (by as_aux_lemma => kernel_rfl) (fun _ _ _ h => h) (by as_aux_lemma => kernel_rfl) (by assumption) ?_ ?_
      rotate_left
      · (intro w hSw; (try dsimp only at hSw); go_simp; try with_reducible rfl)
      simp only [Act.put, List.setIfInBounds_toArray, List.set_cons_zero, List.set_cons_succ]
      refine take_at (i := 1) (v := ?_) rfl (by as_aux_lemma => kernel_rfl) (by as_aux_lemma => kernel_rfl) (by as_aux_lemma => kernel_rfl) (fun _ _ _ h => h) (by as_aux_lemma => kernel_rfl) (by assumption) ?_ ?_
      rotate_left
      · (intro w hSw; (try dsimp only at hSw); go_simp; try with_reducible rfl)
      simp only [Act.put, List.setIfInBounds_toArray, List.set_cons_zero, List.set_cons_succ]
      refine take_at (i := 2) (v := ?_) rfl (by as_aux_lemma => kernel_rfl) (by as_aux_lemma => kernel_rfl) (by as_aux_lemma => kernel_rfl) (fun _ _ _ h => h) (by as_aux_lemma => kernel_rfl) (by assumption) ?_ ?_
      rotate_left
      · (intro w hSw; (try dsimp only at hSw); go_simp; try with_reducible rfl)
      simp only [Act.put, List.setIfInBounds_toArray, List.set_cons_zero, List.set_cons_succ]
      refine take_at (i := 3) (v := ?_) rfl (by as_aux_lemma => kernel_rfl) (by as_aux_lemma => kernel_rfl) (by as_aux_lemma => kernel_rfl) (fun _ _ _ h => h) (by as_aux_lemma => kernel_rfl) (by assumption) ?_ ?_
      rotate_left
      · (intro w hSw; (try dsimp only at hSw); go_simp; try with_reducible rfl)
      simp only [Act.put, List.setIfInBounds_toArray, List.set_cons_zero, List.set_cons_succ]
      refine take_at (i := 5) (v := ?_) rfl (by as_aux_lemma => kernel_rfl) (by as_aux_lemma => kernel_rfl) (by as_aux_lemma => kernel_rfl) (fun _ _ _ h => h) (by as_aux_lemma => kernel_rfl) (by assumption) ?_ ?_
      rotate_left
      · (intro w hSw; (try dsimp only at hSw); go_simp; try with_reducible rfl)
      simp only [Act.put, List.setIfInBounds_toArray, List.set_cons_zero, List.set_cons_succ]
      refine take_at (i := 6) (v := ?_) rfl (by as_aux_lemma => kernel_rfl) (by as_aux_lemma => kernel_rfl) (by as_aux_lemma => kernel_rfl) (fun _ _ _ h => h) (by as_aux_lemma => kernel_rfl) (by assumption) ?_ ?_
      rotate_left
      · (intro w hSw; (try dsimp only at hSw); go_simp; try with_reducible rfl)
      simp only [Act.put, List.setIfInBounds_toArray, List.set_cons_zero, List.set_cons_succ]
      refine do_at (i := 4) rfl (by as_aux_lemma => kernel_rfl) (by as_aux_lemma => kernel_rfl) (fun K hK => ?_)
      go_simp
      refine (dmark_any _ a.cell).mono ?_
      rintro e w7 ⟨rfl, bb⟩
      have HX7 := Lib.hid (HXX.out.trans (bb.mono HXX.out.size))
      clear bb HXX
      go_wp2_with fail
      refine hK.out _ _ ?_ (fun hHeld => ?_)
      · exact HK17.out _ HX7.out
      clear hK K
      try simp only [Act.put, List.setIfInBounds_toArray, List.set_cons_zero, List.set_cons_succ]
      refine do_at (i := 7) rfl (by as_aux_lemma => kernel_rfl) (by as_aux_lemma => kernel_rfl) (fun K hK => ?_)
      go_simp
      refine (HH.out.mrk w7 _ R p 769 c.l ⟨HRW.out.1.below HX7.out, HRW.out.2⟩ HPB.out rfl HC1.out).mono ?_
      rintro e w9 ⟨v9, rfl, R9, bb⟩
      have HX9 := Lib.hid (HX7.out.trans (bb.mono HX7.out.size))
      have HR9 := Lib.hid R9
      clear bb HX7 R9
      go_wp2_with fail
      refine hK.out _ _ ?_ (fun hHeld => ?_)
      · exact HK17.out _ HX9.out
      clear hK K
      try simp only [Act.put, List.setIfInBounds_toArray, List.set_cons_zero, List.set_cons_succ]
      refine take_at (i := 8) (v := ?_) rfl (by as_aux_lemma => kernel_rfl) (by as_aux_lemma => kernel_rfl) (by as_aux_lemma => kernel_rfl) (fun _ _ _ h => h) (by as_aux_lemma => kernel_rfl) (by assumption) ?_ ?_
      rotate_left
      · (intro w hSw; (try dsimp only at hSw); go_simp; try with_reducible rfl)
      simp only [Act.put, List.setIfInBounds_toArray, List.set_cons_zero, List.set_cons_succ]
      refine wpAnyH_done (by as_aux_lemma => kernel_rfl) ?_ _
      have HB9 := Lib.hid (HBW.out.trans (HX9.out.mono HBW.out.size))
      clear HX9 hHeld HK17 HKEEP HY6 HZ6 HX6 HRW
      go_wp2
      go_ret
      exact ⟨v9, rfl, by rw [HE.out]; exact HR9.out, HB9.out⟩
    by_cases n13 : k = 13
    · subst n13
      have HE := Lib.hid (show doesM a R = resizeM R (min ((n : Int) + nn) 40) b by
        unfold doesM
        simp only [← HK.out, ← HN.out, ← HP.out, ← HNN.out, ← HC.out]
        simp [HBA.out])
      obtain ⟨_, ⟨x0, x1, x2, x3, x4, x5, x6, x7, x8, x9, x10, x11, x12, x13⟩, _⟩ := HY6.out
      obtain ⟨q, hq⟩ : ∃ q, min ((n : Int) + nn) 40 = q := ⟨_, rfl⟩
      rw [hq] at HE
      have hqb : Pl q ∧ q ≤ 100 := by have := HNB.out; unfold Pl; omega
      have HQB := Lib.hid hqb
      clear hqb
      go_wp2_with fail
      · have hqv : q = 40 := by omega
        rw [hqv] at HE HQB
        clear hq hqv
        refine (HH.out.res w6 _ R 40 b HRW.out HQB.out.1 HQB.out.2 HB1.out).mono ?_
        clear x0 x1 x2 x3 x4 x5 x6 x7 x8 x9 x10 x11 x12 x13
        rintro e w9 ⟨v9, rfl, R9, bb⟩
        have HR9 := Lib.hid R9
        have HB9 := Lib.hid (HBW.out.trans (bb.mono HBW.out.size))
        clear bb R9 HKEEP HY6 HZ6 HX6 HRW
        go_wp2
        go_ret
        exact ⟨v9, rfl, by rw [HE.out]; exact HR9.out, HB9.out⟩
      · have hqv : q = ((n : Int) + nn) := by omega
        rw [hqv] at HE HQB
        clear hq hqv
        refine (HH.out.res w6 _ R ((n : Int) + nn) b HRW.out HQB.out.1 HQB.out.2 HB1.out).mono ?_
        clear x0 x1 x2 x3 x4 x5 x6 x7 x8 x9 x10 x11 x12 x13
        rintro e w9 ⟨v9, rfl, R9, bb⟩
        have HR9 := Lib.hid R9
        have HB9 := Lib.hid (HBW.out.trans (bb.mono HBW.out.size))
        clear bb R9 HKEEP HY6 HZ6 HX6 HRW
        go_wp2
        go_ret
        exact ⟨v9, rfl, by rw [HE.out]; exact HR9.out, HB9.out⟩
    by_cases n14 : k = 14
    · subst n14
      have HE := Lib.hid (show doesM a R = raiseM R c.l by
        unfold doesM
        simp only [← HK.out, ← HN.out, ← HP.out, ← HNN.out, ← HC.out]
        simp)
      obtain ⟨_, ⟨x0, x1, x2, x3, x4, x5, x6, x7, x8, x9, x10, x11, x12, x13⟩, _⟩ := HZ6.out
      go_wp2_with fail
      refine (HH.out.rai w6 _ R c.l HRW.out HC1.out).mono ?_
      clear x0 x1 x2 x3 x4 x5 x6 x7 x8 x9 x10 x11 x12 x13
      rintro e w9 ⟨v9, rfl, R9, bb⟩
      have HR9 := Lib.hid R9
      have HB9 := Lib.hid (HBW.out.trans (bb.mono HBW.out.size))
      clear bb R9 HKEEP HY6 HZ6 HX6 HRW
      go_wp2
      go_ret
      exact ⟨v9, rfl, by rw [HE.out]; exact HR9.out, HB9.out⟩
    have f0 : ((k : Int) == 0) = false := by simp; omega
    have f5 : ((k : Int) == 5) = false := by simp; omega
    have f6 : ((k : Int) == 6) = false := by simp; omega
    have f7 : ((k : Int) == 7) = false := by simp; omega
    have f8 : ((k : Int) == 8) = false := by simp; omega
    have f9 : ((k : Int) == 9) = false := by simp; omega
    have f10 : ((k : Int) == 10) = false := by simp; omega
    have f11 : ((k : Int) == 11) = false := by simp; omega
    have f12 : ((k : Int) == 12) = false := by simp; omega
    have f13 : ((k : Int) == 13) = false := by simp; omega
    have f14 : ((k : Int) == 14) = false := by simp; omega
    have HE := Lib.hid (show doesM a R = putP R p c a.wide by
      unfold doesM
      simp only [← HK.out, ← HN.out, ← HP.out, ← HNN.out, ← HC.out]
      rw [if_neg n0, if_neg (by omega), if_neg (by omega), if_neg (by omega), if_neg (by omega), if_neg n13, if_neg n14])
    obtain ⟨_, ⟨x0, x1, x2, x3, x4, x5, x6, x7, x8, x9, x10, x11, x12, x13⟩, _⟩ := HZ6.out
    have ya := HKEEP.out _ HX6.out
    obtain ⟨y0, y1, y2, y3, y4, y5, y6, y7, y8⟩ := ya
    go_wp2_with fail
    refine (HH.out.put w6 _ R p c a.wide HRW.out HPB.out HC1.out).mono ?_
    clear x0 x1 x2 x3 x4 x5 x6 x7 x8 x9 x10 x11 x12 x13 y0 y1 y2 y3 y4 y5 y6 y7 y8
    rintro e w9 ⟨v9, rfl, R9, bb⟩
    have HR9 := Lib.hid R9
    have HB9 := Lib.hid (HBW.out.trans (bb.mono HBW.out.size))
    clear bb R9 HKEEP HY6 HZ6 HX6 HRW
    go_wp2
    go_ret
    exact ⟨v9, rfl, by rw [HE.out]; exact HR9.out, HB9.out⟩

theorem OwnRes.res {w : World} {R : Cls} {e : Ending} {w' : World} (h : OwnRes w R e w') : RowRes w R e w' := by
  obtain ⟨v, e, h1, h2⟩ := h
  exact ⟨v, e, h1.row, h2⟩
theorem nums_ps {w : World} {u : Value} {ps : List Int} (h : NumsAt w (fun _ => True) u ps) (hl : 0 < ps.length ∧ ps.length ≤ 4) (hp : ∀ p ∈ ps, Pl p) : PsAt w u ps := by
  obtain ⟨g, o, c, e, _, _, _, hlt, hc⟩ := h.open hl.1
  refine ⟨g, o, c, e, by omega, hlt, hc, fun j hj => ?_⟩
  have := hp (ps.getD j 0) (by rw [List.getD_eq_getElem?_getD, List.getElem?_eq_getElem hj]; exact List.getElem_mem hj)
  unfold Pl at this
  omega
theorem doC : DoC where
  put := fun w v R i c wide h _ _ => (put_any w v R i c wide h.1 h.2.1 (by have := h.2.2.2; omega)).mono fun _ _ => OwnRes.res
  ins := fun w v R i n b h _ _ _ => (insert_any w v R i n b h.1 h.2.1 (by have := h.2.2.2; omega)).mono fun _ _ => OwnRes.res
  del := fun w v R i n b h _ _ _ => (delete_any w v R i n b h.1 h.2.1 (by have := h.2.2.2; omega)).mono fun _ _ => OwnRes.res
  era := fun w v R i j b h _ _ _ => (erase_any w v R i j b h.1 h.2.1 (by have := h.2.2.2; omega)).mono fun _ _ => OwnRes.res
  mrk := fun w v R i m l h _ _ h01 => (mark_any w v R i m l h.1 h.2.1 h.2.2.1 (by have := h.2.2.2; omega) h01).mono fun _ _ => OwnRes.res
  res := fun w v R n b h hp hn _ => (resize_any w v R n b h.1 h.2.1 (by have := h.2.2.2; omega) (by unfold Pl at hp; omega)).mono fun _ _ => OwnRes.res
  rai := fun w v R l h h01 => (raiseAll_any w v R l h.1 (by have := h.2.2.2; omega) h.2.2.1 h01).mono fun _ _ => OwnRes.res
  brk := fun w v u R ps h hn hl hp => (break_any w v R u ps h.1 h.2.1 (by have := h.2.2.2; omega) (nums_ps hn hl hp)).mono fun e w' ⟨g, c, e1, _, h2, _, _, h3⟩ => ⟨_, e1, h2.row, h3⟩
  bla := fun w a l => blank_any w a l
end Go.Proofs.Ythildghpgajgoaa.Lab
