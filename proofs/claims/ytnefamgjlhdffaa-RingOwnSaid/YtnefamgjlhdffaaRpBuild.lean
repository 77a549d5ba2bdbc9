/- strings.Builder's WriteRune, at a builder that the call itself has made: runes of one byte, and U+0301. -/
import Derived.Test.YtnefamgjlhdffaaRpSmall
import Derived.Test.YtnefamgjlhdffaaShelf
import Derived.Lib.Builder
import Derived.Lib.AppendStr
import Derived.Lib.OwnKind
import Derived.Lib.OthersKept
namespace Go.Proofs.Ytnefamgjlhdffaa.Lab
open Go Go.RowKit

abbrev BT : TypeId := 91
abbrev IsB (b : Nat) (l : List UInt8) (w : World) : Prop := Lib.IsBuilder 91 5 b b (Lib.byteCells l) w
theorem infoB : (Try.prog.info? 91).map (·.size) = some 2 := by kernel_rfl
theorem infoU8 : (Try.prog.info? 5).map (fun i => (i.zero, i.size, i.bytes)) = some (some (.int .u8 0), 1, 1) := by kernel_rfl

theorem row_below {w w' : World} {base : Nat} {e : TypeId} {size n : Nat} {v : Value} {xs : List Value} (h : w.ownsRow base e size v n xs) (b : Below w.heap.size w w') : w'.ownsRow base e size v n xs := by
  refine h.kept (row := none) ⟨b.os, b.tape, b.output, b.size, fun j hj _ => b.block j hj⟩ ?_
  rcases h.2 with ⟨rfl, _⟩ | ⟨g', cap, cur, rfl, _⟩
  · exact .inl rfl
  · exact .inr (by simp [Value.ownBlock])
theorem at_below {w w' : World} {B b : Nat} {p : Value} {bs : List Value} (h : Lib.BuilderAt 91 5 B b p bs w) (hb : Below w.heap.size w w') : Lib.BuilderAt 91 5 B b p bs w' := by
  have hlt := h.lt
  obtain ⟨hB, v, hv, ho, hne⟩ := h
  exact ⟨hB, v, (hb.block b hlt).trans hv, row_below ho hb, hne⟩
theorem isB_below {w w' : World} {b : Nat} {l : List UInt8} (h : IsB b l w) (hb : Below w.heap.size w w') : IsB b l w' := by
  rcases h with h | h
  · exact .inl (at_below h hb)
  · exact .inr (at_below h hb)
theorem isB_new (w : World) : IsB w.heap.size [] (w.alloc (.cells #[.pointer none, .slice none 0 0] 91)) :=
  .inl ⟨Nat.le_refl _, _, heap_alloc_new w _, World.ownsRow_nil _ _ _ 1, by simp [Value.ownBlock]⟩

set_option maxHeartbeats 1000000 in
set_option maxRecDepth 100000 in
theorem check_used (b : Nat) (w : World) (h0 : w.cell? ⟨b, 0, none⟩ = some (.pointer (some ⟨b, 0, none⟩))) :
    Calls Try.prog 62 #[.pointer (some ⟨b, 0, none⟩)] w fun e w' => e = .returned (.tuple #[]) ∧ w = w' := by
  obtain ⟨j, hj, _⟩ := Option.map_eq_some_iff.1 infoB
  go_enter Try.func62, Try.ntmps62
  go_wp2
  rw [Lib.run_neq_ptr_same w _ Try.underlying89 hj]
  go_wp2
  go_end0
  exact ⟨rfl, rfl⟩
set_option maxHeartbeats 1000000 in
set_option maxRecDepth 100000 in
theorem check_fresh (b : Nat) (w : World) (h0 : w.cell? ⟨b, 0, none⟩ = some (.pointer none)) (hsh : w.shape? b = some (91, 2)) (hfz : w.frozen? ⟨b, 0, none⟩ = false) :
    Calls Try.prog 62 #[.pointer (some ⟨b, 0, none⟩)] w fun e w' => e = .returned (.tuple #[]) ∧ w' = w.setCell ⟨b, 0, none⟩ (.pointer (some ⟨b, 0, none⟩)) := by
  obtain ⟨j, hj, hjs⟩ := Option.map_eq_some_iff.1 infoB
  have r1 := Lib.run_to_unsafe (P := Try.prog) w ⟨b, 0, none⟩ Try.underlying89 Try.underlying113 hj (by rw [hjs]; decide) hsh (Nat.zero_lt_succ 1)
  have r3 := Lib.run_from_unsafe (P := Try.prog) w ⟨b, 0, none⟩ Try.underlying113 Try.underlying89 hj hsh (by kernel_rfl)
  go_enter Try.func62, Try.ntmps62
  go_wp2
  rw [run_callFunc_extern Try.func71 (by kernel_rfl) (by kernel_rfl) (by kernel_rfl) (e := Extern.AbiNoEscape.same) (by kernel_rfl)]
  rw [Lib.run_noEscape]
  simp only [Result.andThen]
  rw [Oper.upon_value]
  go_wp2
  go_end0
  exact ⟨rfl, rfl⟩
theorem check_any (b : Nat) (bs : List Value) (w : World) (h : Lib.IsBuilder 91 5 b b bs w) :
    Calls Try.prog 62 #[.pointer (some ⟨b, 0, none⟩)] w fun e w' => e = .returned (.tuple #[]) ∧ Lib.BuilderAt 91 5 b b (.pointer (some ⟨b, 0, none⟩)) bs w' ∧ Below b w w' ∧ Lib.OthersKept 5 (some b) w w' := by
  rcases h with h | h
  · refine (check_fresh b w h.cell0 h.shape h.frozen0).mono ?_
    rintro e w' ⟨rfl, rfl⟩
    exact ⟨rfl, h.used _, (Below.refl b w).setCell (p := ⟨b, 0, none⟩) h.1 _, (Lib.OthersKept.refl _ _ w).setCell ⟨b, 0, none⟩ rfl _⟩
  · refine (check_used b w h.cell0).mono ?_
    rintro e w' ⟨rfl, rfl⟩
    exact ⟨rfl, h, Below.refl b _, Lib.OthersKept.refl _ _ _⟩

theorem own_slice {w : World} {base n : Nat} {e : TypeId} {v : Value} {xs : List Value} (h : w.ownsRow base e 1 v n xs) : ∃ a c, v = .slice a n c := by
  rcases h.2 with ⟨rfl, h0⟩ | ⟨g, cap, cur, rfl, _⟩
  · exact ⟨none, 0, by rw [h0]⟩
  · exact ⟨_, cap, rfl⟩
/-- The runes that rows show here. -/
def Shows (r : Int) : Prop := (32 ≤ r ∧ r ≤ 126) ∨ r = 769 ∨ r = 20013
def encR (r : Int) : List UInt8 := if r = 769 then [204, 129] else if r = 20013 then [228, 184, 173] else [r.toNat.toUInt8]
theorem encR_one {r : Int} (h : 32 ≤ r ∧ r ≤ 126) : encR r = [r.toNat.toUInt8] := by unfold encR; rw [if_neg (by omega), if_neg (by omega)]
theorem encR_le (r : Int) : (encR r).length ≤ 3 := by
  unfold encR
  split
  · simp
  · split <;> simp
theorem one_byte {r : Int} (h : 32 ≤ r ∧ r ≤ 126) : Lib.byteCells [r.toNat.toUInt8] = [.int .u8 r] := by
  have e : ((r.toNat.toUInt8).toNat : Int) = r := by
    simp
    omega
  show [Value.int .u8 ((r.toNat.toUInt8).toNat : Int)] = _
  rw [e]
set_option maxHeartbeats 2000000 in
set_option maxRecDepth 100000 in
theorem two_any (b : Nat) (w : World) (v : Value) (n : Nat) (xs : List Value) (hown : w.ownsRow b 5 1 v n xs) (hn : n ≤ 1000000) (hbw : b ≤ w.heap.size) :
    Calls Try.prog 72 #[v, .int .i32 769] w fun e w' => ∃ v', e = .returned v' ∧ w'.ownsRow b 5 1 v' (n + 2) (xs ++ [.int .u8 204, .int .u8 129]) ∧ ∃ o, (w.alloc o).grownBy w' v.ownBlock := by
  obtain ⟨ib, hi, hz0, hz1, hz2⟩ := info_parts infoU8
  go_enter Try.func72, Try.ntmps72
  go_wp2_with (at_builtin; refine wpList_append_own _ rfl _ _ 60 rfl b 5 ib (.int .u8 0) 1 1 Try.underlying60 hi hz0 hz1 hz2 rfl (by decide) _ _ _ rfl (hown.alloc _) ⟨w.heap.size, 0, none⟩ 2 2 [.int .u8 204, .int .u8 129] rfl rfl ?c1 ?c2 ?c3 ?c4 ?c5 ?_)
  case c1 =>
    intro j u hj
    match j, hj with
    | 0, hj => simp at hj; subst hj; simp [Addr.add]
    | 1, hj => simp at hj; subst hj; simp [Addr.add]
    | (j + 2), hj => simp at hj
  case c2 => intro u hu; simp at hu; rcases hu with rfl | rfl <;> rfl
  case c3 => unfold maxLen; omega
  case c4 => omega
  case c5 => simp; omega
  intro v' w2 hown' hgrow _
  go_wp2
  go_ret
  exact ⟨_, rfl, hown', _, hgrow⟩
set_option maxHeartbeats 2000000 in
set_option maxRecDepth 100000 in
theorem three_any (b : Nat) (w : World) (v : Value) (n : Nat) (xs : List Value) (hown : w.ownsRow b 5 1 v n xs) (hn : n ≤ 1000000) (hbw : b ≤ w.heap.size) :
    Calls Try.prog 72 #[v, .int .i32 20013] w fun e w' => ∃ v', e = .returned v' ∧ w'.ownsRow b 5 1 v' (n + 3) (xs ++ [.int .u8 228, .int .u8 184, .int .u8 173]) ∧ ∃ o, (w.alloc o).grownBy w' v.ownBlock := by
  obtain ⟨ib, hi, hz0, hz1, hz2⟩ := info_parts infoU8
  go_enter Try.func72, Try.ntmps72
  go_wp2_with (at_builtin; refine wpList_append_own _ rfl _ _ 60 rfl b 5 ib (.int .u8 0) 1 1 Try.underlying60 hi hz0 hz1 hz2 rfl (by decide) _ _ _ rfl (hown.alloc _) ⟨w.heap.size, 0, none⟩ 3 3 [.int .u8 228, .int .u8 184, .int .u8 173] rfl rfl ?c1 ?c2 ?c3 ?c4 ?c5 ?_)
  case c1 =>
    intro j u hj
    match j, hj with
    | 0, hj => simp at hj; subst hj; simp [Addr.add]
    | 1, hj => simp at hj; subst hj; simp [Addr.add]
    | 2, hj => simp at hj; subst hj; simp [Addr.add]
    | (j + 3), hj => simp at hj
  case c2 => intro u hu; simp at hu; rcases hu with rfl | rfl | rfl <;> rfl
  case c3 => unfold maxLen; omega
  case c4 => omega
  case c5 => simp; omega
  intro v' w2 hown' hgrow _
  go_wp2
  go_ret
  exact ⟨_, rfl, hown', _, hgrow⟩
set_option maxHeartbeats 2000000 in
set_option maxRecDepth 100000 in
theorem append_any (b : Nat) (w : World) (v : Value) (n : Nat) (l : List UInt8) (r : Int) (hr : Shows r) (hown : w.ownsRow b 5 1 v n (Lib.byteCells l)) (hn : n ≤ 1000000) (hbw : b ≤ w.heap.size) :
    Calls Try.prog 63 #[v, .int .i32 r] w fun e w' => ∃ v', e = .returned v' ∧ w'.ownsRow b 5 1 v' (n + (encR r).length) (Lib.byteCells (l ++ encR r)) ∧ ∃ o, (w.alloc o).grownBy w' v.ownBlock := by
  have happ : ∀ m : List UInt8, Lib.byteCells (l ++ m) = Lib.byteCells l ++ Lib.byteCells m := fun m => by simp [Lib.byteCells]
  rcases hr with hr | rfl | rfl
  · rw [encR_one hr, happ, one_byte hr]
    obtain ⟨ib, hi, hz0, hz1, hz2⟩ := info_parts infoU8
    have s1 : IntKind.u32.wrap r = r := by rw [IntKind.wrap_u32]; omega
    have s2 : IntKind.u8.wrap r = r := by rw [IntKind.wrap_u8]; omega
    have d1 : r ≤ 127 := by omega
    clear happ hr
    go_enter Try.func63, Try.ntmps63
    go_wp2_with (at_builtin; refine wpList_append_own _ rfl _ _ 60 rfl b 5 ib (.int .u8 0) 1 1 Try.underlying60 hi hz0 hz1 hz2 rfl (by decide) _ _ _ rfl (hown.alloc _) ⟨w.heap.size, 0, none⟩ 1 1 [.int .u8 r] rfl rfl ?c1 ?c2 ?c3 ?c4 ?c5 ?_)
    case c1 =>
      intro j u hj
      match j, hj with
      | 0, hj => simp at hj; subst hj; simp [Addr.add]
      | (j + 1), hj => simp at hj
    case c2 => intro u hu; simp at hu; subst hu; rfl
    case c3 => unfold maxLen; omega
    case c4 => omega
    case c5 => simp; omega
    intro v' w2 hown' hgrow _
    go_wp2
    go_ret
    exact ⟨_, rfl, hown', _, hgrow⟩
  · rw [happ]
    have HC := Lib.hid (two_any b w v n _ hown hn hbw)
    clear hown happ
    go_enter Try.func63, Try.ntmps63
    go_wp2_with fail
    refine HC.out.mono ?_
    rintro e w1 ⟨v', rfl, h1, h2⟩
    go_wp2
    go_ret
    exact ⟨_, rfl, h1, h2⟩
  · rw [happ]
    have HC := Lib.hid (three_any b w v n _ hown hn hbw)
    clear hown happ
    go_enter Try.func63, Try.ntmps63
    go_wp2_with fail
    refine HC.out.mono ?_
    rintro e w1 ⟨v', rfl, h1, h2⟩
    go_wp2
    go_ret
    exact ⟨_, rfl, h1, h2⟩
set_option maxHeartbeats 2000000 in
set_option maxRecDepth 100000 in
theorem rune_any (b : Nat) (l : List UInt8) (r : Int) (w : World) (hr : Shows r) (h : IsB b l w) (hlen : l.length ≤ 100000) :
    Calls Try.prog 53 #[.pointer (some ⟨b, 0, none⟩), .int .i32 r] w fun e w' => (∃ v, e = .returned v) ∧ IsB b (l ++ encR r) w' ∧ Below b w w' ∧ Lib.OthersKept 5 (some b) w w' := by
  have hbw : b < w.heap.size := by
    rcases h with h | h
    · exact h.lt
    · exact h.lt
  have hn : (Lib.byteCells l).length = l.length := by simp [Lib.byteCells]
  have HH := Lib.hid (check_any b _ w h)
  have HS := Lib.hid hr
  obtain ⟨m, hm⟩ : ∃ m, m = (encR r).length := ⟨_, rfl⟩
  have hm2 : m ≤ 3 := by rw [hm]; exact encR_le r
  have HM := Lib.hid hm
  clear h hr hm
  go_enter Try.func53, Try.ntmps53
  go_wp2_with fail
  refine HH.out.mono ?_
  rintro e w1 ⟨rfl, h1, b1, k1⟩
  have HK1 := Lib.hid k1
  have hb1 := b1.size
  obtain ⟨hB, v, hbk, hown, hne⟩ := h1
  rw [hn] at hown
  have hlt : b < w1.heap.size := by omega
  have HLT := Lib.hid hlt
  obtain ⟨ao, cp, rfl⟩ := own_slice hown
  have c0 : w1.cell? ⟨b, 0, none⟩ = some (.pointer (some ⟨b, 0, none⟩)) := by rw [Lib.cell_of_heap hbk]; rfl
  have c1 : w1.cell? ⟨b, 1, none⟩ = some (.slice ao l.length cp) := by rw [Lib.cell_of_heap hbk]; rfl
  have HK := Lib.hid hbk
  obtain ⟨n, hnl⟩ : ∃ n, n = l.length := ⟨_, rfl⟩
  have HNL := Lib.hid hnl
  rw [← hnl] at hown c1 HK hlen hne
  have CA := Lib.hid (append_any b w1 _ n l r HS.out hown (by omega) (by omega))
  rw [← HM.out] at CA
  have HOW := Lib.hid hown
  have HNE := Lib.hid hne
  have HB1 := Lib.hid b1
  clear HH hbk hn hnl hown hne b1 hB k1
  go_wp2_with fail
  refine CA.out.mono ?_
  rintro e w2 ⟨v', rfl, own2, o, grow2⟩
  obtain ⟨a2, cp2, rfl⟩ := own_slice own2
  have ha : w1.heap.size ≤ (w1.alloc o).heap.size := by simp
  have k2 : w2.heap[b]? = some (.cells #[.pointer (some ⟨b, 0, none⟩), .slice ao n cp] 91 (0, 0)) := (grow2.block b (by omega) (fun e => HNE.out e.symm)).trans ((((Below.refl w1.heap.size w1).alloc (Nat.le_refl _) o).block b HLT.out).trans HK.out)
  have d1 : w2.cell? ⟨b, 1, none⟩ = some (.slice ao n cp) := by rw [Lib.cell_of_heap k2]; rfl
  have f1 : w2.frozen? ⟨b, 1, none⟩ = false := Lib.frozen_of_heap k2 1
  obtain ⟨w3, hw3⟩ : ∃ w3, w3 = w2.setCell ⟨b, 1, none⟩ (.slice a2 (n + m) cp2) := ⟨_, rfl⟩
  have hlm : (Lib.byteCells (l ++ encR r)).length = n + m := by simp [Lib.byteCells]; rw [HNL.out, HM.out]
  have HP := Lib.hid (show IsB b (l ++ encR r) w3 by
    rw [hw3]
    exact .inr (Lib.BuilderAt.put (Nat.le_refl b) k2 (by rw [hlm]; exact own2) (by decide)))
  have HB := Lib.hid (show Below b w w3 by
    rw [hw3]
    exact ((((HB1.out).alloc (by omega) o).grown grow2 (by omega) (fun j hj => (HOW.out.lt j hj).1)).setCell (p := ⟨b, 1, none⟩) (Nat.le_refl b) (.slice a2 (n + m) cp2)))
  have HOK := Lib.hid (show Lib.OthersKept 5 (some b) w w3 by
    rw [hw3]
    exact ((HK1.out.alloc o).grown grow2 (Lib.ownsRow_kind (HOW.out.alloc o))).setCell ⟨b, 1, none⟩ rfl _)
  have e1 : w3.cell? ⟨b, 1, none⟩ = some (.slice a2 (n + m) cp2) := by rw [hw3]; exact World.cell?_setCell_same _ _ _ d1
  clear own2 grow2 HOW HK k2 CA c1 ha hlm
  go_upto_region 4 with (fail)
  rw [← hw3]
  clear hw3 d1 f1
  go_wp2
  go_ret2
  exact ⟨⟨_, rfl⟩, HP.out, HB.out, HOK.out⟩
end Go.Proofs.Ytnefamgjlhdffaa.Lab
