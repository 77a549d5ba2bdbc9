/- What each function of package label, and its document's answer, answers to any arguments: contracts, each for every level number, text and memory. -/
import Derived.Test.YteelegmpadfoeaaProg
import Derived.WalkKit
import Derived.Deep.QuietTactic
import Derived.BigQuiet
import Derived.LoopTactic
import Derived.Outline
import Derived.Lib.Hide
import Derived.WalkSpells
import Derived.WalkLawsBesides
namespace Go.Proofs.Yteelegmpadfoeaa.Lab
open Go.RowKit

theorem ret_bool {a b : Bool} (h : a = b) : Ending.returned (.bool a) = .returned (.bool b) := by rw [h]
theorem ret_int {k : IntKind} {a b : Int} (h : a = b) : Ending.returned (.int k a) = .returned (.int k b) := by rw [h]

theorem isLow_any (n : Int) (w : World) : Calls Try.prog 28 #[.int .u8 n] w fun e w' => e = .returned (.bool (n == 0)) ∧ w = w' := by
  go_enter Try.func28, Try.ntmps28
  go_wp2
  go_ret
  exact ⟨rfl, rfl⟩

def flowsB (a b : Int) : Bool := a == 0 || b != 0

theorem flows_any (a b : Int) (w : World) : Calls Try.prog 14 #[.int .u8 a, .int .u8 b] w fun e w' => e = .returned (.bool (flowsB a b)) ∧ w = w' := by
  by_cases h : a = 0
  · go_enter Try.func14, Try.ntmps14
    go_wp2_with (go_at_call 28; refine (isLow_any _ _).mono ?_; rintro e w' ⟨rfl, rfl⟩)
    go_ret
    exact ⟨by simp [flowsB, h], rfl⟩
  · go_enter Try.func14, Try.ntmps14
    go_wp2_with (go_at_call 28; refine (isLow_any _ _).mono ?_; rintro e w' ⟨rfl, rfl⟩)
    go_ret
    exact ⟨by simp [flowsB]; rfl, rfl⟩

theorem rflows_any (a b : Int) (w : World) : Calls Try.prog 15 #[.int .u8 a, .int .u8 b] w fun e w' => e = .returned (.bool (flowsB a b)) ∧ w = w' := by
  by_cases h : a = 0
  · go_enter Try.func15, Try.ntmps15
    go_wp2
    go_ret
    exact ⟨by simp [flowsB, h], rfl⟩
  · go_enter Try.func15, Try.ntmps15
    go_wp2
    go_ret
    exact ⟨by simp [flowsB], rfl⟩


/-- A slice of levels reads as the list: its length, and each element's cell. -/
def Lv (w : World) (a : Option Addr) (len : Nat) (xs : List Int) : Prop :=
  xs.length = len ∧ len ≤ 140737488351232 ∧ (0 < len → ∃ b off, a = some ⟨b, off, none⟩ ∧ ∀ i, i < len → w.cell? ⟨b, off + i, none⟩ = some (.int .u8 (xs[i]?.getD 0)))

theorem any_take_succ (xs : List Int) (p : Int → Bool) (k : Nat) (h : k < xs.length) : (xs.take (k + 1)).any p = ((xs.take k).any p || p (xs[k]?.getD 0)) := by
  rw [List.take_succ_eq_append_getElem h]
  simp only [List.any_append, List.getElem?_eq_getElem h, Option.getD_some]
  simp

theorem any_of_take (xs : List Int) (p : Int → Bool) (k : Nat) (h : (xs.take k).any p = true) : xs.any p = true := by
  obtain ⟨x, hx, hp⟩ := List.any_eq_true.1 h
  exact List.any_eq_true.2 ⟨x, List.mem_of_mem_take hx, hp⟩

theorem some_any (F : Nat) (p : Int → Bool) (eg : ∀ (args : Array Value) (w : World), (callFunc F args).run Try.prog w = .ok (.enter F args) w) (HF : Hid (∀ n w, Calls Try.prog F #[.int .u8 n] w fun e w' => e = .returned (.bool (p n)) ∧ w = w')) (a : Option Addr) (len cap : Nat) (xs : List Int) (w : World) (hl : Lv w a len xs) :
    Calls Try.prog 25 #[.slice a len cap, .func (.func F) #[] #[]] w fun e w' => e = .returned (.bool (xs.any p)) ∧ w = w' := by
  obtain ⟨h1, h2, h3⟩ := hl
  by_cases h0 : len = 0
  · subst h0
    have hx : xs = [] := List.eq_nil_of_length_eq_zero h1
    subst hx
    go_enter Try.func25, Try.ntmps25
    go_wp2
    refine wp_loop_rounds 1 ?_
    rw [rounds_succ]
    go_wp2
    go_ret
    exact ⟨rfl, rfl⟩
  · obtain ⟨b, off, rfl, hc⟩ := h3 (by omega)
    have H1 := Lib.hid h1
    clear h1 h3
    go_enter Try.func25, Try.ntmps25
    go_wp2
    go_loop [9] (fun i => ∃ k : Nat, k ≤ len ∧ i = .int .i64 k ∧ (xs.take k).any p = false) (fun i => len - (intOf i).toNat)
    case atStart => exact ⟨0, Nat.zero_le _, rfl, rfl⟩
    case round =>
      obtain ⟨k, hk, rfl, hp⟩ := hrel
      have HP := Lib.hid hp
      clear hp
      by_cases hlt : k < len
      · have hck := hc k hlt
        go_wp2_with fail
        refine (HF.out _ _).mono ?_
        rintro e w' ⟨rfl, rfl⟩
        have hs := Lib.hid (any_take_succ xs p k (by rw [H1.out]; exact hlt))
        by_cases hpk : p (xs[k]?.getD 0) = true
        · go_wp2
          go_ret
          exact ⟨ret_bool (any_of_take xs p (k + 1) (by rw [hs.out, hpk]; simp)).symm, rfl⟩
        · have hpf : p (xs[k]?.getD 0) = false := by simpa using hpk
          go_wp2
          go_round
          case rel => exact ⟨k + 1, by omega, by go_num, by rw [hs.out, HP.out, hpf]; rfl⟩
          case measure => simp [intOf]; omega
      · go_wp2
        go_ret
        have e1 : xs.take k = xs := List.take_of_length_le (by rw [H1.out]; omega)
        have e2 := HP.out
        rw [e1] at e2
        exact ⟨ret_bool e2.symm, rfl⟩


def rightP (n : Int) : Bool := n != 0 && n != 1
def rightB (xs : List Int) : Bool := !xs.any rightP
def joinB (xs : List Int) : Bool := xs.any fun n => n != 0
def meetB (xs : List Int) : Bool := xs.any fun n => n == 0
def joinV (xs : List Int) : Int := if joinB xs then 1 else 0
def meetV (xs : List Int) : Int := if meetB xs then 0 else 1

theorem right1_any (n : Int) (w : World) : Calls Try.prog 26 #[.int .u8 n] w fun e w' => e = .returned (.bool (rightP n)) ∧ w = w' := by
  by_cases h : n = 0
  · subst h
    go_enter Try.func26, Try.ntmps26
    go_wp2
    go_ret
    exact ⟨rfl, rfl⟩
  · go_enter Try.func26, Try.ntmps26
    go_wp2
    go_ret
    exact ⟨ret_bool (by simp [rightP]), rfl⟩

theorem join1_any (n : Int) (w : World) : Calls Try.prog 27 #[.int .u8 n] w fun e w' => e = .returned (.bool (n != 0)) ∧ w = w' := by
  go_enter Try.func27, Try.ntmps27
  go_wp2_with (go_at_call 28; refine (isLow_any _ _).mono ?_; rintro e w' ⟨rfl, rfl⟩)
  go_ret
  exact ⟨rfl, rfl⟩

theorem right_any (a : Option Addr) (len cap : Nat) (xs : List Int) (w : World) (hl : Lv w a len xs) : Calls Try.prog 8 #[.slice a len cap] w fun e w' => e = .returned (.bool (rightB xs)) ∧ w = w' := by
  have HL := Lib.hid hl
  clear hl
  go_enter Try.func8, Try.ntmps8
  go_wp2_with fail
  refine (some_any 26 rightP (fun _ _ => rfl) (Lib.hid right1_any) _ _ _ xs _ HL.out).mono ?_
  rintro e w' ⟨rfl, rfl⟩
  go_wp2
  go_ret
  exact ⟨rfl, rfl⟩

theorem join_any (a : Option Addr) (len cap : Nat) (xs : List Int) (w : World) (hl : Lv w a len xs) : Calls Try.prog 10 #[.slice a len cap] w fun e w' => e = .returned (.int .u8 (joinV xs)) ∧ w = w' := by
  have HL := Lib.hid hl
  clear hl
  by_cases hj : joinB xs = true
  · go_enter Try.func10, Try.ntmps10
    go_wp2_with fail
    refine (some_any 27 (fun n => n != 0) (fun _ _ => rfl) (Lib.hid join1_any) _ _ _ xs _ HL.out).mono ?_
    rintro e w' ⟨rfl, rfl⟩
    have hj' : (xs.any fun n => n != 0) = true := hj
    go_wp2
    go_ret
    exact ⟨ret_int (by simp [joinV, hj]), rfl⟩
  · go_enter Try.func10, Try.ntmps10
    go_wp2_with fail
    refine (some_any 27 (fun n => n != 0) (fun _ _ => rfl) (Lib.hid join1_any) _ _ _ xs _ HL.out).mono ?_
    rintro e w' ⟨rfl, rfl⟩
    have hj' : (xs.any fun n => n != 0) = false := Bool.eq_false_iff.2 hj
    go_wp2
    go_ret
    exact ⟨ret_int (by simp [joinV, hj]), rfl⟩

theorem meet_any (a : Option Addr) (len cap : Nat) (xs : List Int) (w : World) (hl : Lv w a len xs) : Calls Try.prog 12 #[.slice a len cap] w fun e w' => e = .returned (.int .u8 (meetV xs)) ∧ w = w' := by
  have HL := Lib.hid hl
  clear hl
  by_cases hj : meetB xs = true
  · go_enter Try.func12, Try.ntmps12
    go_wp2_with fail
    refine (some_any 28 (fun n => n == 0) (fun _ _ => rfl) (Lib.hid isLow_any) _ _ _ xs _ HL.out).mono ?_
    rintro e w' ⟨rfl, rfl⟩
    have hj' : (xs.any fun n => n == 0) = true := hj
    go_wp2
    go_ret
    exact ⟨ret_int (by simp [meetV, hj]), rfl⟩
  · go_enter Try.func12, Try.ntmps12
    go_wp2_with fail
    refine (some_any 28 (fun n => n == 0) (fun _ _ => rfl) (Lib.hid isLow_any) _ _ _ xs _ HL.out).mono ?_
    rintro e w' ⟨rfl, rfl⟩
    have hj' : (xs.any fun n => n == 0) = false := Bool.eq_false_iff.2 hj
    go_wp2
    go_ret
    exact ⟨ret_int (by simp [meetV, hj]), rfl⟩


theorem below1 (w : World) (o : Obj) : Below w.heap.size w (w.alloc o) := (Below.refl _ _).alloc (Nat.le_refl _) o
theorem below2 (w : World) (o o' : Obj) : Below w.heap.size w ((w.alloc o).alloc o') := ((Below.refl _ _).alloc (Nat.le_refl _) o).alloc (by simp) o'

theorem two_any (n : Int) (w : World) (h0 : 0 ≤ n) : Calls Try.prog 24 #[.int .u8 n] w fun e w' => e = .returned (.int .u8 (n % 2)) ∧ w = w' := by
  by_cases h : n % 2 = 0
  · have H := Lib.hid h
    have h' : ((n % 2 : Int) == 0) = true := by simp [h]
    clear h
    go_enter Try.func24, Try.ntmps24
    go_wp2
    go_ret
    exact ⟨ret_int H.out.symm, rfl⟩
  · have h1 : n % 2 = 1 := by omega
    have H := Lib.hid h1
    have h' : ((n % 2 : Int) == 0) = false := by simp [h]
    clear h h1
    go_enter Try.func24, Try.ntmps24
    go_wp2
    go_ret
    exact ⟨ret_int H.out.symm, rfl⟩

/-- A text as a value. -/
abbrev txt (s : ByteArray) (l m : Int) : Value := .agg #[.string s, .int .u8 l, .int .i64 m]

/-- What a call leaves behind: one new block, or two. -/
def Al1 (w w' : World) : Prop := ∃ o, w' = w.alloc o
def Al2 (w w' : World) : Prop := ∃ o o', w' = (w.alloc o).alloc o'
theorem Al1.below {w w' : World} (h : Al1 w w') : Below w.heap.size w w' := by obtain ⟨o, rfl⟩ := h; exact below1 _ _
theorem Al2.below {w w' : World} (h : Al2 w w') : Below w.heap.size w w' := by obtain ⟨o, o', rfl⟩ := h; exact below2 _ _ _
theorem al1 (w : World) (o : Obj) : Al1 w (w.alloc o) := ⟨o, rfl⟩
theorem al2 (w : World) (o o' : Obj) : Al2 w ((w.alloc o).alloc o') := ⟨o, o', rfl⟩

def wrE (t : ByteArray) (l m b : Int) : Int := if flowsB b l then (if m < (t.size : Int) then 4 else 0) else 6
def wrS (s t : ByteArray) (l m b : Int) : ByteArray := if flowsB b l then (if m < (t.size : Int) then s else t) else s
def seenS (s : ByteArray) (l b : Int) : ByteArray := if flowsB l b then s else ⟨#[]⟩
def readE (l b : Int) : Int := if flowsB l b then 0 else 6

set_option maxRecDepth 100000 in
theorem read_any (s : ByteArray) (l m b : Int) (w : World) : Calls Try.prog 18 #[txt s l m, .int .u8 b] w fun e w' => e = .returned (.tuple #[.string (seenS s l b), .int .i64 (readE l b)]) ∧ Al1 w w' := by
  by_cases h : flowsB l b = true
  · have e1 := Lib.hid (show seenS s l b = s by simp [seenS, h])
    have e2 := Lib.hid (show readE l b = 0 by simp [readE, h])
    go_enter Try.func18, Try.ntmps18
    go_wp2_with (go_at_call 14; refine (flows_any _ _ _).mono ?_; rintro e w' ⟨rfl, rfl⟩)
    go_ret2
    exact ⟨by rw [e1.out, e2.out]; rfl, al1 _ _⟩
  · have h' : flowsB l b = false := by simpa using h
    have e1 := Lib.hid (show seenS s l b = ⟨#[]⟩ by simp [seenS, h'])
    have e2 := Lib.hid (show readE l b = 6 by simp [readE, h'])
    go_enter Try.func18, Try.ntmps18
    go_wp2_with (go_at_call 14; refine (flows_any _ _ _).mono ?_; rintro e w' ⟨rfl, rfl⟩)
    go_ret2
    exact ⟨by rw [e1.out, e2.out]; rfl, al1 _ _⟩

set_option maxRecDepth 100000 in
theorem write_any (s t : ByteArray) (l m b : Int) (w : World) : Calls Try.prog 20 #[txt s l m, .string t, .int .u8 b] w fun e w' => e = .returned (.tuple #[txt (wrS s t l m b) l m, .int .i64 (wrE t l m b)]) ∧ Al2 w w' := by
  by_cases h : flowsB b l = true
  · by_cases hm : m < (t.size : Int)
    · have e1 := Lib.hid (show wrS s t l m b = s by simp [wrS, h, hm])
      have e2 := Lib.hid (show wrE t l m b = 4 by simp [wrE, h, hm])
      go_enter Try.func20, Try.ntmps20
      go_wp2_with (go_at_call 14; refine (flows_any _ _ _).mono ?_; rintro e w' ⟨rfl, rfl⟩)
      exact bodyPost_ret (v := .tuple #[txt s l m, .int .i64 4]) (by simp [results, Try.results20, go_sem]) rfl ⟨by rw [e1.out, e2.out], al2 _ _ _⟩
    · have e1 := Lib.hid (show wrS s t l m b = t by simp [wrS, h, hm])
      have e2 := Lib.hid (show wrE t l m b = 0 by simp [wrE, h, hm])
      go_enter Try.func20, Try.ntmps20
      go_wp2_with (go_at_call 14; refine (flows_any _ _ _).mono ?_; rintro e w' ⟨rfl, rfl⟩)
      exact bodyPost_ret (v := .tuple #[txt t l m, .int .i64 0]) (by simp [results, Try.results20, go_sem]) rfl ⟨by rw [e1.out, e2.out], al2 _ _ _⟩
  · have h' : flowsB b l = false := by simpa using h
    have e1 := Lib.hid (show wrS s t l m b = s by simp [wrS, h'])
    have e2 := Lib.hid (show wrE t l m b = 6 by simp [wrE, h'])
    go_enter Try.func20, Try.ntmps20
    go_wp2_with (go_at_call 14; refine (flows_any _ _ _).mono ?_; rintro e w' ⟨rfl, rfl⟩)
    exact bodyPost_ret (v := .tuple #[txt s l m, .int .i64 6]) (by simp [results, Try.results20, go_sem]) rfl ⟨by rw [e1.out, e2.out], al2 _ _ _⟩

set_option maxRecDepth 100000 in
theorem seen_any (s : ByteArray) (l m b : Int) (w : World) : Calls Try.prog 22 #[txt s l m, .int .u8 b] w fun e w' => e = .returned (txt (seenS s l b) l m) ∧ Al2 w w' := by
  by_cases h : flowsB l b = true
  · have e1 := Lib.hid (show seenS s l b = s by simp [seenS, h])
    go_enter Try.func22, Try.ntmps22
    go_wp2_with (go_at_call 14; refine (flows_any _ _ _).mono ?_; rintro e w' ⟨rfl, rfl⟩)
    exact bodyPost_ret (v := txt s l m) (by simp [results, Try.results22, go_sem]) rfl ⟨by rw [e1.out], al2 _ _ _⟩
  · have h' : flowsB l b = false := by simpa using h
    have e1 := Lib.hid (show seenS s l b = ⟨#[]⟩ by simp [seenS, h'])
    go_enter Try.func22, Try.ntmps22
    go_wp2_with (go_at_call 14; refine (flows_any _ _ _).mono ?_; rintro e w' ⟨rfl, rfl⟩)
    exact bodyPost_ret (v := txt ⟨#[]⟩ l m) (by simp [results, Try.results22, go_sem]) rfl ⟨by rw [e1.out], al2 _ _ _⟩

set_option maxRecDepth 100000 in
theorem rread_any (s : ByteArray) (l m b : Int) (w : World) : Calls Try.prog 19 #[txt s l m, .int .u8 b] w fun e w' => e = .returned (.tuple #[.string (seenS s l b), .int .i64 (readE l b)]) ∧ Al1 w w' := by
  by_cases h : flowsB l b = true
  · have e1 := Lib.hid (show seenS s l b = s by simp [seenS, h])
    have e2 := Lib.hid (show readE l b = 0 by simp [readE, h])
    go_enter Try.func19, Try.ntmps19
    go_wp2_with (go_at_call 15; refine (rflows_any _ _ _).mono ?_; rintro e w' ⟨rfl, rfl⟩)
    go_ret2
    exact ⟨by rw [e1.out, e2.out]; rfl, al1 _ _⟩
  · have h' : flowsB l b = false := by simpa using h
    have e1 := Lib.hid (show seenS s l b = ⟨#[]⟩ by simp [seenS, h'])
    have e2 := Lib.hid (show readE l b = 6 by simp [readE, h'])
    go_enter Try.func19, Try.ntmps19
    go_wp2_with (go_at_call 15; refine (rflows_any _ _ _).mono ?_; rintro e w' ⟨rfl, rfl⟩)
    go_ret2
    exact ⟨by rw [e1.out, e2.out]; rfl, al1 _ _⟩

set_option maxRecDepth 100000 in
theorem rwrite_any (s t : ByteArray) (l m b : Int) (w : World) : Calls Try.prog 21 #[txt s l m, .string t, .int .u8 b] w fun e w' => e = .returned (.tuple #[txt (wrS s t l m b) l m, .int .i64 (wrE t l m b)]) ∧ Al2 w w' := by
  by_cases h : flowsB b l = true
  · by_cases hm : m < (t.size : Int)
    · have e1 := Lib.hid (show wrS s t l m b = s by simp [wrS, h, hm])
      have e2 := Lib.hid (show wrE t l m b = 4 by simp [wrE, h, hm])
      go_enter Try.func21, Try.ntmps21
      go_wp2_with (go_at_call 15; refine (rflows_any _ _ _).mono ?_; rintro e w' ⟨rfl, rfl⟩)
      exact bodyPost_ret (v := .tuple #[txt s l m, .int .i64 4]) (by simp [results, Try.results21, go_sem]) rfl ⟨by rw [e1.out, e2.out], al2 _ _ _⟩
    · have e1 := Lib.hid (show wrS s t l m b = t by simp [wrS, h, hm])
      have e2 := Lib.hid (show wrE t l m b = 0 by simp [wrE, h, hm])
      go_enter Try.func21, Try.ntmps21
      go_wp2_with (go_at_call 15; refine (rflows_any _ _ _).mono ?_; rintro e w' ⟨rfl, rfl⟩)
      exact bodyPost_ret (v := .tuple #[txt t l m, .int .i64 0]) (by simp [results, Try.results21, go_sem]) rfl ⟨by rw [e1.out, e2.out], al2 _ _ _⟩
  · have h' : flowsB b l = false := by simpa using h
    have e1 := Lib.hid (show wrS s t l m b = s by simp [wrS, h'])
    have e2 := Lib.hid (show wrE t l m b = 6 by simp [wrE, h'])
    go_enter Try.func21, Try.ntmps21
    go_wp2_with (go_at_call 15; refine (rflows_any _ _ _).mono ?_; rintro e w' ⟨rfl, rfl⟩)
    exact bodyPost_ret (v := .tuple #[txt s l m, .int .i64 6]) (by simp [results, Try.results21, go_sem]) rfl ⟨by rw [e1.out, e2.out], al2 _ _ _⟩

set_option maxRecDepth 100000 in
theorem rseen_any (s : ByteArray) (l m b : Int) (w : World) : Calls Try.prog 23 #[txt s l m, .int .u8 b] w fun e w' => e = .returned (txt (seenS s l b) l m) ∧ Al2 w w' := by
  by_cases h : flowsB l b = true
  · have e1 := Lib.hid (show seenS s l b = s by simp [seenS, h])
    go_enter Try.func23, Try.ntmps23
    go_wp2_with (go_at_call 15; refine (rflows_any _ _ _).mono ?_; rintro e w' ⟨rfl, rfl⟩)
    exact bodyPost_ret (v := txt s l m) (by simp [results, Try.results23, go_sem]) rfl ⟨by rw [e1.out], al2 _ _ _⟩
  · have h' : flowsB l b = false := by simpa using h
    have e1 := Lib.hid (show seenS s l b = ⟨#[]⟩ by simp [seenS, h'])
    go_enter Try.func23, Try.ntmps23
    go_wp2_with (go_at_call 15; refine (rflows_any _ _ _).mono ?_; rintro e w' ⟨rfl, rfl⟩)
    exact bodyPost_ret (v := txt ⟨#[]⟩ l m) (by simp [results, Try.results23, go_sem]) rfl ⟨by rw [e1.out], al2 _ _ _⟩

set_option maxRecDepth 100000 in
theorem declassify_any (s : ByteArray) (l m : Int) (w : World) : Calls Try.prog 17 #[txt s l m] w fun e w' => e = .returned (txt s 0 m) ∧ Al2 w w' := by
  go_enter Try.func17, Try.ntmps17
  go_wp2
  exact bodyPost_ret (v := txt s 0 m) (by simp [results, Try.results17, go_sem]) rfl ⟨rfl, al2 _ _ _⟩

theorem rright_any (a : Option Addr) (len cap : Nat) (xs : List Int) (w : World) (hl : Lv w a len xs) : Calls Try.prog 9 #[.slice a len cap] w fun e w' => e = .returned (.bool (rightB xs)) ∧ w = w' := by
  obtain ⟨h1, h2, h3⟩ := hl
  by_cases h0 : len = 0
  · subst h0
    have hx : xs = [] := List.eq_nil_of_length_eq_zero h1
    subst hx
    go_enter Try.func9, Try.ntmps9
    go_wp2
    refine wp_loop_rounds 1 ?_
    rw [rounds_succ]
    go_wp2
    go_ret
    exact ⟨rfl, rfl⟩
  · obtain ⟨b, off, rfl, hc⟩ := h3 (by omega)
    have H1 := Lib.hid h1
    clear h1 h3
    go_enter Try.func9, Try.ntmps9
    go_wp2
    go_loop [3] (fun i => ∃ k : Nat, k ≤ len ∧ i = .int .i64 k ∧ (xs.take k).any (rightP) = false) (fun i => len - (intOf i).toNat)
    case atStart => exact ⟨0, Nat.zero_le _, rfl, rfl⟩
    case round =>
      obtain ⟨k, hk, rfl, hp⟩ := hrel
      have HP := Lib.hid hp
      clear hp
      by_cases hlt : k < len
      · have hck := hc k hlt
        have hs := Lib.hid (any_take_succ xs (rightP) k (by rw [H1.out]; exact hlt))
        by_cases hx : ((xs[k]?.getD 0) == 0) = true
        · have hxn : ((xs[k]?.getD 0) != 0) = false := by rw [bne, hx]; rfl
          go_wp2
          go_round
          case rel => exact ⟨k + 1, by omega, by go_num, by rw [hs.out, HP.out]; simp only [rightP, bne, hx]; rfl⟩
          case measure => simp [intOf]; omega
        · have hx' : ((xs[k]?.getD 0) == 0) = false := by simpa using hx
          have hxn : ((xs[k]?.getD 0) != 0) = true := by rw [bne, hx']; rfl
          by_cases hy : ((xs[k]?.getD 0) == 1) = true
          · have hyn : ((xs[k]?.getD 0) != 1) = false := by rw [bne, hy]; rfl
            go_wp2
            go_round
            case rel => exact ⟨k + 1, by omega, by go_num, by rw [hs.out, HP.out]; simp only [rightP, bne, hx', hy]; rfl⟩
            case measure => simp [intOf]; omega
          · have hy' : ((xs[k]?.getD 0) == 1) = false := by simpa using hy
            have hyn : ((xs[k]?.getD 0) != 1) = true := by rw [bne, hy']; rfl
            go_wp2
            go_ret
            exact ⟨ret_bool (by rw [rightB, any_of_take xs rightP (k + 1) (by rw [hs.out]; simp only [rightP, bne, hx', hy']; simp)]; rfl), rfl⟩
      · go_wp2
        go_ret
        have e1 : xs.take k = xs := List.take_of_length_le (by rw [H1.out]; omega)
        have e2 := HP.out
        rw [e1] at e2
        exact ⟨ret_bool (by simp only [rightB, e2]; rfl), rfl⟩

theorem rjoin_any (a : Option Addr) (len cap : Nat) (xs : List Int) (w : World) (hl : Lv w a len xs) : Calls Try.prog 11 #[.slice a len cap] w fun e w' => e = .returned (.int .u8 (joinV xs)) ∧ w = w' := by
  obtain ⟨h1, h2, h3⟩ := hl
  by_cases h0 : len = 0
  · subst h0
    have hx : xs = [] := List.eq_nil_of_length_eq_zero h1
    subst hx
    go_enter Try.func11, Try.ntmps11
    go_wp2
    refine wp_loop_rounds 1 ?_
    rw [rounds_succ]
    go_wp2
    go_ret
    exact ⟨rfl, rfl⟩
  · obtain ⟨b, off, rfl, hc⟩ := h3 (by omega)
    have H1 := Lib.hid h1
    clear h1 h3
    go_enter Try.func11, Try.ntmps11
    go_wp2
    go_loop [3] (fun i => ∃ k : Nat, k ≤ len ∧ i = .int .i64 k ∧ (xs.take k).any (fun n => n != 0) = false) (fun i => len - (intOf i).toNat)
    case atStart => exact ⟨0, Nat.zero_le _, rfl, rfl⟩
    case round =>
      obtain ⟨k, hk, rfl, hp⟩ := hrel
      have HP := Lib.hid hp
      clear hp
      by_cases hlt : k < len
      · have hck := hc k hlt
        have hs := Lib.hid (any_take_succ xs (fun n => n != 0) k (by rw [H1.out]; exact hlt))
        by_cases hx : ((xs[k]?.getD 0) == 0) = true
        · have hxn : ((xs[k]?.getD 0) != 0) = false := by rw [bne, hx]; rfl
          go_wp2
          go_round
          case rel => exact ⟨k + 1, by omega, by go_num, by rw [hs.out, HP.out]; simp only [bne, hx]; rfl⟩
          case measure => simp [intOf]; omega
        · have hx' : ((xs[k]?.getD 0) == 0) = false := by simpa using hx
          have hxn : ((xs[k]?.getD 0) != 0) = true := by rw [bne, hx']; rfl
          go_wp2
          go_ret
          exact ⟨ret_int (by rw [joinV, joinB, any_of_take xs _ (k + 1) (by rw [hs.out]; simp only [bne, hx']; simp)]; rfl), rfl⟩
      · go_wp2
        go_ret
        have e1 : xs.take k = xs := List.take_of_length_le (by rw [H1.out]; omega)
        have e2 := HP.out
        rw [e1] at e2
        exact ⟨ret_int (by simp only [joinV, joinB, e2]; rfl), rfl⟩

theorem rmeet_any (a : Option Addr) (len cap : Nat) (xs : List Int) (w : World) (hl : Lv w a len xs) : Calls Try.prog 13 #[.slice a len cap] w fun e w' => e = .returned (.int .u8 (meetV xs)) ∧ w = w' := by
  obtain ⟨h1, h2, h3⟩ := hl
  by_cases h0 : len = 0
  · subst h0
    have hx : xs = [] := List.eq_nil_of_length_eq_zero h1
    subst hx
    go_enter Try.func13, Try.ntmps13
    go_wp2
    refine wp_loop_rounds 1 ?_
    rw [rounds_succ]
    go_wp2
    go_ret
    exact ⟨rfl, rfl⟩
  · obtain ⟨b, off, rfl, hc⟩ := h3 (by omega)
    have H1 := Lib.hid h1
    clear h1 h3
    go_enter Try.func13, Try.ntmps13
    go_wp2
    go_loop [3] (fun i => ∃ k : Nat, k ≤ len ∧ i = .int .i64 k ∧ (xs.take k).any (fun n => n == 0) = false) (fun i => len - (intOf i).toNat)
    case atStart => exact ⟨0, Nat.zero_le _, rfl, rfl⟩
    case round =>
      obtain ⟨k, hk, rfl, hp⟩ := hrel
      have HP := Lib.hid hp
      clear hp
      by_cases hlt : k < len
      · have hck := hc k hlt
        have hs := Lib.hid (any_take_succ xs (fun n => n == 0) k (by rw [H1.out]; exact hlt))
        by_cases hx : ((xs[k]?.getD 0) == 0) = true
        · go_wp2
          go_ret
          exact ⟨ret_int (by rw [meetV, meetB, any_of_take xs _ (k + 1) (by rw [hs.out, hx]; simp)]; rfl), rfl⟩
        · have hx' : ((xs[k]?.getD 0) == 0) = false := by simpa using hx
          go_wp2
          go_round
          case rel => exact ⟨k + 1, by omega, by go_num, by rw [hs.out, HP.out, hx']; rfl⟩
          case measure => simp [intOf]; omega
      · go_wp2
        go_ret
        have e1 : xs.take k = xs := List.take_of_length_le (by rw [H1.out]; omega)
        have e2 := HP.out
        rw [e1] at e2
        exact ⟨ret_int (by simp only [meetV, meetB, e2]; rfl), rfl⟩

end Go.Proofs.Yteelegmpadfoeaa.Lab
