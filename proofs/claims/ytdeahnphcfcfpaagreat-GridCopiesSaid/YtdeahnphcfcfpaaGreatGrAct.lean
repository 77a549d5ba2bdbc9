/- The reference's steps: Act. -/
import Derived.Test.YtdeahnphcfcfpaaGreatGrStep
namespace Go.Proofs.YtdeahnphcfcfpaaGreat.Lab
open Go Go.RowKit

/-- Cells written one behind the other. -/
def setL (w : World) (b : Nat) : Nat → List Value → World
  | _, [] => w
  | o, v :: l => setL (w.setCell ⟨b, o, none⟩ v) b (o + 1) l
def setA (a : Array Value) : Nat → List Value → Array Value
  | _, [] => a
  | o, v :: l => setA (a.setIfInBounds o v) (o + 1) l
theorem setL_heap {b : Nat} {T : TypeId} : ∀ (l : List Value) {w : World} {a : Array Value} {o : Nat}, w.heap[b]? = some (.cells a T (0, 0)) → (setL w b o l).heap[b]? = some (.cells (setA a o l) T (0, 0))
  | [], _, _, _, h => h
  | v :: l, w, a, o, h => setL_heap l (heap_setCell_same w b o a T v h)
theorem setA_list : ∀ (l : List Value) (a : Array Value) (o : Nat), o + l.length ≤ a.size → (setA a o l).toList = a.toList.take o ++ (l ++ a.toList.drop (o + l.length))
  | [], a, o, _ => by simp [setA]
  | v :: l, a, o, h => by
    have hl : o < a.toList.length := by simp at h ⊢; omega
    have ih := setA_list l (a.setIfInBounds o v) (o + 1) (by simp at h ⊢; omega)
    show (setA (a.setIfInBounds o v) (o + 1) l).toList = _
    rw [ih, Array.toList_setIfInBounds, List.take_succ_eq_append_getElem (by rw [List.length_set]; exact hl), List.getElem_set_self, List.take_set_of_le (Nat.le_refl _), List.drop_set_of_lt (by omega), List.length_cons, show o + 1 + l.length = o + (l.length + 1) by omega]
    simp
theorem setL_at {b : Nat} {T : TypeId} {w : World} {a c : Array Value} {o : Nat} (l : List Value) (h : w.heap[b]? = some (.cells a T (0, 0))) (ho : o + l.length ≤ a.size) (e : a.toList.take o ++ (l ++ a.toList.drop (o + l.length)) = c.toList) : (setL w b o l).heap[b]? = some (.cells c T (0, 0)) := by
  rw [setL_heap l h, show setA a o l = c from Array.toList_inj.1 ((setA_list l a o ho).trans e)]
theorem setL_but {b : Nat} : ∀ (l : List Value) {w : World} {o : Nat}, But b w (setL w b o l)
  | [], w, _ => But.refl b w
  | v :: l, w, o => (But.set w b o v).trans (setL_but l)
def actR (s : St) (n : Nat) : Int := if s.odd then (s.row : Int) - 3 else ((s.row % n : Nat) : Int)
def actC (s : St) (m : Nat) : Int := if s.odd then (s.col : Int) - 3 else ((s.col % m : Nat) : Int)
def actN (s : St) : Int := if s.odd then (s.n : Int) - 5 else ((s.n % 24 : Nat) : Int)
def actX (s : St) : Cel := if s.what % 6 < 2 then celD s.cell else blS s
def actA (k r c n : Int) (x : Cel) : Array Value := #[.int .i64 k, .int .i64 r, .int .i64 c, .int .i64 n, .int .i32 x.ru, .int .i32 x.m0, .int .i32 x.m1, .int .u8 x.k, .int .u8 x.a.fg.k, .int .u8 x.a.fg.r, .int .u8 x.a.fg.g, .int .u8 x.a.fg.b, .int .u8 x.a.bg.k, .int .u8 x.a.bg.r, .int .u8 x.a.bg.g, .int .u8 x.a.bg.b, .int .u16 (x.a.fl : Nat), .int .u8 x.l, .int .i32 769]
abbrev actV (s : St) (n m : Nat) : Value := .agg (actA ((s.what % 6 : Nat) : Int) (actR s n) (actC s m) (actN s) (actX s))
theorem setCells_L (b : Nat) : ∀ (l : List Value) (o : Nat) (w : World), w.setCells b o l = setL w b o l
  | [], _, _ => rfl
  | v :: l, o, w => setCells_L b l (o + 1) (w.setCell ⟨b, o, none⟩ v)
theorem there_of {w : World} {b o n : Nat} {a : Array Value} {T : TypeId} (h : w.heap[b]? = some (.cells a T (0, 0))) (hn : o + n ≤ a.size) : w.there b o n := fun j hj => by
  refine ⟨?_, frozen_of_row w b (o + j) _ _ h⟩
  rw [cell_of_row w b (o + j) _ _ _ h, Array.getElem?_eq_getElem (by omega)]
  rfl
theorem run_built {o : Oper} {ev : Operand → Value} (w : World) (t : TypeId) (parts : Array (Nat × Operand)) (cells : Array Value) (ho : o.op = .build t parts) (hb : Tryz.prog.built t (parts.map fun (i, x) => (i, ev x)).toList = some cells) : (execOp ev o).run Tryz.prog w = .ok (.value (.agg cells)) w := by
  unfold execOp
  simp only [ho, Sem.run_bind, run_build w t _ cells hb, Result.andThen_ok]
  rfl
theorem built71 (k r0 c0 n0 : Int) (bl : Cel) : Tryz.prog.built 79 [(0, .int .i64 k), (1, .agg #[.int .i64 r0, .int .i64 c0]), (2, .int .i64 n0), (3, celV bl), (4, .int .i32 769)] = some #[.int .i64 (k), .int .i64 (r0), .int .i64 (c0), .int .i64 (n0), .int .i32 bl.ru, .int .i32 bl.m0, .int .i32 bl.m1, .int .u8 bl.k, .int .u8 bl.a.fg.k, .int .u8 bl.a.fg.r, .int .u8 bl.a.fg.g, .int .u8 bl.a.fg.b, .int .u8 bl.a.bg.k, .int .u8 bl.a.bg.r, .int .u8 bl.a.bg.g, .int .u8 bl.a.bg.b, .int .u16 (bl.a.fl : Nat), .int .u8 bl.l, .int .i32 769] := by kernel_rfl
theorem map71 (ev : Operand → Value) : ((#[(0, Operand.tmp 11), (1, Operand.tmp 22), (2, Operand.tmp 26), (3, Operand.tmp 28), (4, Operand.const (Value.int IntKind.i32 769))] : Array (Nat × Operand)).map fun (i, x) => (i, ev x)).toList = [(0, ev (.tmp 11)), (1, ev (.tmp 22)), (2, ev (.tmp 26)), (3, ev (.tmp 28)), (4, ev (.const (.int .i32 769)))] := by simp
theorem run_op71 {o : Oper} {ev : Operand → Value} (w : World) {k r0 c0 n0 : Int} {bl : Cel} (ho : o.op = .build 79 #[(0, Operand.tmp 11), (1, Operand.tmp 22), (2, Operand.tmp 26), (3, Operand.tmp 28), (4, Operand.const (Value.int IntKind.i32 769))]) (h1 : ev (.tmp 11) = .int .i64 k) (h2 : ev (.tmp 22) = .agg #[.int .i64 r0, .int .i64 c0]) (h3 : ev (.tmp 26) = .int .i64 n0) (h4 : ev (.tmp 28) = celV bl) (h5 : ev (.const (.int .i32 769)) = .int .i32 769) : (execOp ev o).run Tryz.prog w = .ok (.value (.agg #[.int .i64 (k), .int .i64 (r0), .int .i64 (c0), .int .i64 (n0), .int .i32 bl.ru, .int .i32 bl.m0, .int .i32 bl.m1, .int .u8 bl.k, .int .u8 bl.a.fg.k, .int .u8 bl.a.fg.r, .int .u8 bl.a.fg.g, .int .u8 bl.a.fg.b, .int .u8 bl.a.bg.k, .int .u8 bl.a.bg.r, .int .u8 bl.a.bg.g, .int .u8 bl.a.bg.b, .int .u16 (bl.a.fl : Nat), .int .u8 bl.l, .int .i32 769])) w :=
  run_built w 79 _ _ ho (by rw [map71, h1, h2, h3, h4, h5]; exact built71 k r0 c0 n0 bl)
set_option maxHeartbeats 8000000 in
set_option maxRecDepth 100000 in
theorem sact_any (w : World) (s : St) (n m : Nat) (hs : s.ok) (h0 : 0 < n) (hn : n ≤ 600) (m0 : 0 < m) (hm : m ≤ 600) : Calls Tryz.prog 32 #[stV s, .int .i64 (n : Nat), .int .i64 (m : Nat)] w fun e w' => e = .returned (actV s n m) ∧ Below w.heap.size w w' := by
  obtain ⟨w0, hw0⟩ : ∃ W0, W0 = (w.alloc (.cells #[.int .u8 (s.what : Nat), .int .u8 (s.row : Nat), .int .u8 (s.col : Nat), .int .u8 (s.n : Nat), .int .u8 (s.m : Nat), .int .u8 (s.cell.ru : Nat), .int .u8 (s.cell.ms : Nat), .int .u8 (s.cell.at1 : Nat), .bool s.cell.wide, .bool s.cell.high, .bool s.odd] 40)).alloc (.cells #[.int .i64 0, .int .i64 0, .int .i64 0, .int .i64 0, .int .i32 0, .int .i32 0, .int .i32 0, .int .u8 0, .int .u8 0, .int .u8 0, .int .u8 0, .int .u8 0, .int .u8 0, .int .u8 0, .int .u8 0, .int .u8 0, .int .u16 0, .int .u8 0, .int .i32 0] 79) := ⟨_, rfl⟩
  obtain ⟨b3, hb3⟩ : ∃ b, b = w.heap.size := ⟨_, rfl⟩
  obtain ⟨b6, hb6⟩ : ∃ b, b = w.heap.size + 1 := ⟨_, rfl⟩
  have B0 : Below w.heap.size w w0 := by rw [hw0]; exact ((Below.refl _ _).alloc (Nat.le_refl _) _).alloc (by simp) _
  have h1 : Lie w0 b3 [.int .u8 (s.what : Nat), .int .u8 (s.row : Nat), .int .u8 (s.col : Nat), .int .u8 (s.n : Nat), .int .u8 (s.m : Nat), .int .u8 (s.cell.ru : Nat), .int .u8 (s.cell.ms : Nat), .int .u8 (s.cell.at1 : Nat), .bool s.cell.wide, .bool s.cell.high, .bool s.odd] := by rw [hw0]; exact (Lie.new w _ _ b3 hb3).below ((Below.refl _ _).alloc (Nat.le_refl _) _)
  have HZ6 := Lib.hid (show w0.heap[b6]? = some (.cells #[.int .i64 0, .int .i64 0, .int .i64 0, .int .i64 0, .int .i32 0, .int .i32 0, .int .i32 0, .int .u8 0, .int .u8 0, .int .u8 0, .int .u8 0, .int .u8 0, .int .u8 0, .int .u8 0, .int .u8 0, .int .u8 0, .int .u16 0, .int .u8 0, .int .i32 0] 79 (0, 0)) by rw [hw0, hb6]; have := World.alloc_heap_new (w.alloc (.cells #[.int .u8 (s.what : Nat), .int .u8 (s.row : Nat), .int .u8 (s.col : Nat), .int .u8 (s.n : Nat), .int .u8 (s.m : Nat), .int .u8 (s.cell.ru : Nat), .int .u8 (s.cell.ms : Nat), .int .u8 (s.cell.at1 : Nat), .bool s.cell.wide, .bool s.cell.high, .bool s.odd] 40)) (.cells #[.int .i64 0, .int .i64 0, .int .i64 0, .int .i64 0, .int .i32 0, .int .i32 0, .int .i32 0, .int .u8 0, .int .u8 0, .int .u8 0, .int .u8 0, .int .u8 0, .int .u8 0, .int .u8 0, .int .u8 0, .int .u8 0, .int .u16 0, .int .u8 0, .int .i32 0] 79); rwa [World.size_alloc] at this)
  have HL := Lib.hid h1
  have HB0 := Lib.hid B0
  have HB6 := Lib.hid (show b6 = w.heap.size + 1 ∧ w0.heap.size = w.heap.size + 2 ∧ b3 = w.heap.size by rw [hw0]; exact ⟨hb6, by simp, hb3⟩)
  have HSK := Lib.hid (show ∀ W, Below w0.heap.size w0 W → (fun wx => wx.cell? ⟨b3, 0, none⟩ = some (.int .u8 (s.what : Nat)) ∧ wx.cell? ⟨b3, 1, none⟩ = some (.int .u8 (s.row : Nat)) ∧ wx.cell? ⟨b3, 2, none⟩ = some (.int .u8 (s.col : Nat)) ∧ wx.cell? ⟨b3, 3, none⟩ = some (.int .u8 (s.n : Nat)) ∧ wx.cell? ⟨b3, 4, none⟩ = some (.int .u8 (s.m : Nat)) ∧ wx.cell? ⟨b3, 5, none⟩ = some (.int .u8 (s.cell.ru : Nat)) ∧ wx.cell? ⟨b3, 6, none⟩ = some (.int .u8 (s.cell.ms : Nat)) ∧ wx.cell? ⟨b3, 7, none⟩ = some (.int .u8 (s.cell.at1 : Nat)) ∧ wx.cell? ⟨b3, 8, none⟩ = some (.bool s.cell.wide) ∧ wx.cell? ⟨b3, 9, none⟩ = some (.bool s.cell.high) ∧ wx.cell? ⟨b3, 10, none⟩ = some (.bool s.odd)) W from fun W hb => by
    have h2 := h1.below hb
    exact ⟨h2.at 0 rfl, h2.at 1 rfl, h2.at 2 rfl, h2.at 3 rfl, h2.at 4 rfl, h2.at 5 rfl, h2.at 6 rfl, h2.at 7 rfl, h2.at 8 rfl, h2.at 9 rfl, h2.at 10 rfl⟩)
  obtain ⟨k, hk⟩ : ∃ k, k = s.what % 6 := ⟨_, rfl⟩
  obtain ⟨r0, hr0⟩ : ∃ k, k = s.row % n := ⟨_, rfl⟩
  obtain ⟨c0, hc0⟩ : ∃ k, k = s.col % m := ⟨_, rfl⟩
  obtain ⟨n0, hn0⟩ : ∃ k, k = s.n % 24 := ⟨_, rfl⟩
  obtain ⟨bl, hbl⟩ : ∃ k, k = blS s := ⟨_, rfl⟩
  obtain ⟨o1, o2, o3, o4, o5, o6⟩ := hs
  have r1 : Int.tmod (s.what : Int) 6 = (k : Int) := by rw [hk]; rfl
  have r1' : (s.what : Int) % 6 = (k : Int) := by rw [hk]; rfl
  have r2 : Int.tmod (s.row : Int) (n : Int) = (r0 : Int) := by rw [hr0]; rfl
  have r2' : (s.row : Int) % (n : Int) = (r0 : Int) := by rw [hr0]; rfl
  have r3 : Int.tmod (s.col : Int) (m : Int) = (c0 : Int) := by rw [hc0]; rfl
  have r3' : (s.col : Int) % (m : Int) = (c0 : Int) := by rw [hc0]; rfl
  have r4 : Int.tmod (s.n : Int) 24 = (n0 : Int) := by rw [hn0]; rfl
  have r4' : (s.n : Int) % 24 = (n0 : Int) := by rw [hn0]; rfl
  have u1 : IntKind.u8.wrap (k : Int) = (k : Int) := by rw [IntKind.wrap_u8]; omega
  have u2 : IntKind.i64.wrap (k : Int) = (k : Int) := by rw [IntKind.wrap_i64]; omega
  have u3 : IntKind.u8.wrap (n0 : Int) = (n0 : Int) := by rw [IntKind.wrap_u8]; omega
  have u4 : IntKind.i64.wrap (n0 : Int) = (n0 : Int) := by rw [IntKind.wrap_i64]; omega
  have s1 : IntKind.i64.wrap (s.row : Int) = (s.row : Int) := by rw [IntKind.wrap_i64]; omega
  have s2 : IntKind.i64.wrap (s.col : Int) = (s.col : Int) := by rw [IntKind.wrap_i64]; omega
  have s3 : IntKind.i64.wrap (s.n : Int) = (s.n : Int) := by rw [IntKind.wrap_i64]; omega
  have n1 : ¬ n = 0 := by omega
  have n2 : ¬ m = 0 := by omega
  have HOK := Lib.hid (show s.ok from ⟨o1, o2, o3, o4, o5, o6⟩)
  have HBL := Lib.hid hbl
  have HEQ := Lib.hid (show k = s.what % 6 ∧ r0 = s.row % n ∧ c0 = s.col % m ∧ n0 = s.n % 24 from ⟨hk, hr0, hc0, hn0⟩)
  obtain ⟨sr, hsr⟩ : ∃ q : Int, q = (s.row : Int) - 3 := ⟨_, rfl⟩
  obtain ⟨sc, hsc⟩ : ∃ q : Int, q = (s.col : Int) - 3 := ⟨_, rfl⟩
  obtain ⟨sn, hsn⟩ : ∃ q : Int, q = (s.n : Int) - 5 := ⟨_, rfl⟩
  have s4 : IntKind.i64.wrap ((s.row : Int) - 3) = sr := by rw [IntKind.wrap_i64, hsr]; omega
  have s5 : IntKind.i64.wrap ((s.col : Int) - 3) = sc := by rw [IntKind.wrap_i64, hsc]; omega
  have s6 : IntKind.i64.wrap ((s.n : Int) - 5) = sn := by rw [IntKind.wrap_i64, hsn]; omega
  have HSR := Lib.hid (show (s.odd = true → actR s n = sr) ∧ (s.odd = true → actC s m = sc) ∧ (s.odd = true → actN s = sn) by unfold actR actC actN; exact ⟨fun h => by rw [h, hsr]; rfl, fun h => by rw [h, hsc]; rfl, fun h => by rw [h, hsn]; rfl⟩)
  clear hsr hsc hsn
  have HX := Lib.hid (show Below w0.heap.size w0 w0.drew from (Below.refl _ _).drew)
  clear B0 h1 h0 hn m0 hm hk hr0 hc0 hn0 hbl o1 o2 o3 o4 o5 o6
  go_enter Tryz.func32, Tryz.ntmps32
  go_upto_region 1 with (fail)
  rw [← hw0, ← hb6, ← hb3]
  clear hw0 hb6 hb3
  go_cut [7, 28] (fun v _ wc => ∃ bv : Nat, v = .pointer (some ⟨bv, 0, none⟩) ∧ Hid (wc.heap[bv]? = some (.cells #[.int .i64 ((k : Nat)), .int .i64 ((r0 : Nat)), .int .i64 ((c0 : Nat)), .int .i64 ((n0 : Nat)), .int .i32 bl.ru, .int .i32 bl.m0, .int .i32 bl.m1, .int .u8 bl.k, .int .u8 bl.a.fg.k, .int .u8 bl.a.fg.r, .int .u8 bl.a.fg.g, .int .u8 bl.a.fg.b, .int .u8 bl.a.bg.k, .int .u8 bl.a.bg.r, .int .u8 bl.a.bg.g, .int .u8 bl.a.bg.b, .int .u16 (bl.a.fl : Nat), .int .u8 bl.l, .int .i32 769] 79 (0, 0))) ∧ Hid (w0.heap.size ≤ bv) ∧ Hid (Below w0.heap.size w0 wc))
  case first => as_aux_lemma =>
    refine wp_region_held_drew (S := fun wx => wx.cell? ⟨b3, 0, none⟩ = some (.int .u8 (s.what : Nat)) ∧ wx.cell? ⟨b3, 1, none⟩ = some (.int .u8 (s.row : Nat)) ∧ wx.cell? ⟨b3, 2, none⟩ = some (.int .u8 (s.col : Nat)) ∧ wx.cell? ⟨b3, 3, none⟩ = some (.int .u8 (s.n : Nat)) ∧ wx.cell? ⟨b3, 4, none⟩ = some (.int .u8 (s.m : Nat)) ∧ wx.cell? ⟨b3, 5, none⟩ = some (.int .u8 (s.cell.ru : Nat)) ∧ wx.cell? ⟨b3, 6, none⟩ = some (.int .u8 (s.cell.ms : Nat)) ∧ wx.cell? ⟨b3, 7, none⟩ = some (.int .u8 (s.cell.at1 : Nat)) ∧ wx.cell? ⟨b3, 8, none⟩ = some (.bool s.cell.wide) ∧ wx.cell? ⟨b3, 9, none⟩ = some (.bool s.cell.high) ∧ wx.cell? ⟨b3, 10, none⟩ = some (.bool s.odd)) (by kernel_rfl) ?_ (fun hHeld => ?_)
    · exact HSK.out _ HX.out
    obtain ⟨wd, hwd⟩ : ∃ X, X = w0.drew := ⟨_, rfl⟩
    replace HX := Lib.hid (show Below w0.heap.size w0 wd by rw [hwd]; exact HX.out)
    replace hHeld := HSK.out _ HX.out
    rw [← hwd]
    clear hwd
    refine tk 0 rfl (fun w hSw => by (try dsimp only at hSw); go_simp; try with_reducible rfl) ?_
    go_frame
    refine tk 1 rfl (fun w hSw => by (try dsimp only at hSw); go_simp; try with_reducible rfl) ?_
    go_frame
    refine tk 2 rfl (fun w hSw => by (try dsimp only at hSw); go_simp; try with_reducible rfl) ?_
    go_frame
    refine tk 3 rfl (fun w hSw => by (try dsimp only at hSw); go_simp; try with_reducible rfl) ?_
    go_frame
    refine tk 4 rfl (fun w hSw => by (try dsimp only at hSw); go_simp; try with_reducible rfl) ?_
    go_frame
    refine tk 5 rfl (fun w hSw => by (try dsimp only at hSw); go_simp; try with_reducible rfl) ?_
    go_frame
    refine tk 6 rfl (fun w hSw => by (try dsimp only at hSw); go_simp; try with_reducible rfl) ?_
    go_frame
    refine tk 7 rfl (fun w hSw => by (try dsimp only at hSw); go_simp; try with_reducible rfl) ?_
    go_frame
    refine tk 8 rfl (fun w hSw => by (try dsimp only at hSw); go_simp; try with_reducible rfl) ?_
    go_frame
    refine tk 9 rfl (fun w hSw => by (try dsimp only at hSw); go_simp; try with_reducible rfl) ?_
    go_frame
    refine tk 10 rfl (fun w hSw => by (try dsimp only at hSw); go_simp; try with_reducible rfl) ?_
    go_frame
    refine tk 11 rfl (fun w hSw => by (try dsimp only at hSw); go_simp; try with_reducible rfl) ?_
    go_frame
    refine tk 12 rfl (fun w hSw => by (try dsimp only at hSw); go_simp; try with_reducible rfl) ?_
    go_frame
    refine tk 13 rfl (fun w hSw => by (try dsimp only at hSw); go_simp; try with_reducible rfl) ?_
    go_frame
    refine tk 14 rfl (fun w hSw => by (try dsimp only at hSw); go_simp; try with_reducible rfl) ?_
    go_frame
    refine tk 15 rfl (fun w hSw => by (try dsimp only at hSw); go_simp; try with_reducible rfl) ?_
    go_frame
    refine tk 16 rfl (fun w hSw => by (try dsimp only at hSw); go_simp; try with_reducible rfl) ?_
    go_frame
    refine tk 17 rfl (fun w hSw => by (try dsimp only at hSw); go_simp; try with_reducible rfl) ?_
    go_frame
    refine tk 18 rfl (fun w hSw => by (try dsimp only at hSw); go_simp; try with_reducible rfl) ?_
    go_frame
    refine tk 19 rfl (fun w hSw => by (try dsimp only at hSw); go_simp; try with_reducible rfl) ?_
    go_frame
    refine two_at (i := 20) (j := 22) rfl rfl (by kernel_rfl) (by kernel_rfl) (by kernel_rfl) (fun K hK => ?_) (fun K hK => ?_)
    · go_simp
      refine (sblank_any wd s HOK.out).mono ?_
      rintro e wc ⟨rfl, bc⟩
      rw [← HBL.out]
      replace HX := Lib.hid (HX.out.trans (bc.mono HX.out.size))
      clear bc
      go_wp2_with fail
      refine hK.out _ _ ?_ (fun hHeld => ?_)
      · exact HSK.out _ HX.out
      clear hK K
      try go_frame
      refine take_at (i := 21) (v := .agg #[.int .i64 ((k : Nat)), .int .i64 ((r0 : Nat)), .int .i64 ((c0 : Nat)), .int .i64 ((n0 : Nat)), .int .i32 bl.ru, .int .i32 bl.m0, .int .i32 bl.m1, .int .u8 bl.k, .int .u8 bl.a.fg.k, .int .u8 bl.a.fg.r, .int .u8 bl.a.fg.g, .int .u8 bl.a.fg.b, .int .u8 bl.a.bg.k, .int .u8 bl.a.bg.r, .int .u8 bl.a.bg.g, .int .u8 bl.a.bg.b, .int .u16 (bl.a.fl : Nat), .int .u8 bl.l, .int .i32 769]) rfl (by kernel_rfl) (by kernel_rfl) (by kernel_rfl) (fun _ _ _ h => h) (by kernel_rfl) (by assumption) ?_ ?_
      · intro w hSw
        exact run_op71 w rfl rfl rfl rfl rfl rfl
      go_frame
      refine do_at (i := 22) rfl (by kernel_rfl) (by kernel_rfl) (fun K hK => ?_)
      obtain ⟨bv, hbv⟩ : ∃ b, b = wc.heap.size := ⟨_, rfl⟩
      obtain ⟨wa, hwa⟩ : ∃ X, X = wc.alloc (.cells #[.int .i64 0, .int .i64 0, .int .i64 0, .int .i64 0, .int .i32 0, .int .i32 0, .int .i32 0, .int .u8 0, .int .u8 0, .int .u8 0, .int .u8 0, .int .u8 0, .int .u8 0, .int .u8 0, .int .u8 0, .int .u8 0, .int .u16 0, .int .u8 0, .int .i32 0] 79) := ⟨_, rfl⟩
      have bb : Below wc.heap.size wc wa := by rw [hwa]; exact (Below.refl _ _).alloc (Nat.le_refl _) _
      have HV := Lib.hid (show wa.heap[bv]? = some (.cells #[.int .i64 0, .int .i64 0, .int .i64 0, .int .i64 0, .int .i32 0, .int .i32 0, .int .i32 0, .int .u8 0, .int .u8 0, .int .u8 0, .int .u8 0, .int .u8 0, .int .u8 0, .int .u8 0, .int .u8 0, .int .u8 0, .int .u16 0, .int .u8 0, .int .i32 0] 79 (0, 0)) by rw [hwa, hbv]; exact World.alloc_heap_new _ _)
      have HVB := Lib.hid (show w0.heap.size ≤ bv by rw [hbv]; exact HX.out.size)
      replace HX := Lib.hid (HX.out.trans (bb.mono HX.out.size))
      clear bb
      go_simp
      rw [← hwa, ← hbv]
      clear hwa hbv
      refine hK.out _ _ ?_ (fun hHeld => ?_)
      · exact HSK.out _ HX.out
      clear hK K
      try go_frame
      refine do_at (i := 23) rfl (by kernel_rfl) (by kernel_rfl) (fun K hK => ?_)
      have HQ := Lib.hid (setRow_heap wa bv _ #[.int .i64 ((k : Nat)), .int .i64 ((r0 : Nat)), .int .i64 ((c0 : Nat)), .int .i64 ((n0 : Nat)), .int .i32 bl.ru, .int .i32 bl.m0, .int .i32 bl.m1, .int .u8 bl.k, .int .u8 bl.a.fg.k, .int .u8 bl.a.fg.r, .int .u8 bl.a.fg.g, .int .u8 bl.a.fg.b, .int .u8 bl.a.bg.k, .int .u8 bl.a.bg.r, .int .u8 bl.a.bg.g, .int .u8 bl.a.bg.b, .int .u16 (bl.a.fl : Nat), .int .u8 bl.l, .int .i32 769] _ _ HV.out)
      have HQB := Lib.hid (show Below w0.heap.size w0 (wa.setRow bv #[.int .i64 ((k : Nat)), .int .i64 ((r0 : Nat)), .int .i64 ((c0 : Nat)), .int .i64 ((n0 : Nat)), .int .i32 bl.ru, .int .i32 bl.m0, .int .i32 bl.m1, .int .u8 bl.k, .int .u8 bl.a.fg.k, .int .u8 bl.a.fg.r, .int .u8 bl.a.fg.g, .int .u8 bl.a.fg.b, .int .u8 bl.a.bg.k, .int .u8 bl.a.bg.r, .int .u8 bl.a.bg.g, .int .u8 bl.a.bg.b, .int .u16 (bl.a.fl : Nat), .int .u8 bl.l, .int .i32 769]) from HX.out.trans ((But.setRow wa bv #[.int .i64 ((k : Nat)), .int .i64 ((r0 : Nat)), .int .i64 ((c0 : Nat)), .int .i64 ((n0 : Nat)), .int .i32 bl.ru, .int .i32 bl.m0, .int .i32 bl.m1, .int .u8 bl.k, .int .u8 bl.a.fg.k, .int .u8 bl.a.fg.r, .int .u8 bl.a.fg.g, .int .u8 bl.a.fg.b, .int .u8 bl.a.bg.k, .int .u8 bl.a.bg.r, .int .u8 bl.a.bg.g, .int .u8 bl.a.bg.b, .int .u16 (bl.a.fl : Nat), .int .u8 bl.l, .int .i32 769]).below HVB.out HX.out.size))
      refine wp_store_row 79 (.tmp 7) (.tmp 29) rfl bv #[.int .i64 ((k : Nat)), .int .i64 ((r0 : Nat)), .int .i64 ((c0 : Nat)), .int .i64 ((n0 : Nat)), .int .i32 bl.ru, .int .i32 bl.m0, .int .i32 bl.m1, .int .u8 bl.k, .int .u8 bl.a.fg.k, .int .u8 bl.a.fg.r, .int .u8 bl.a.fg.g, .int .u8 bl.a.fg.b, .int .u8 bl.a.bg.k, .int .u8 bl.a.bg.r, .int .u8 bl.a.bg.g, .int .u8 bl.a.bg.b, .int .u16 (bl.a.fl : Nat), .int .u8 bl.l, .int .i32 769] rfl rfl 79 _ HV.out (by kernel_rfl) rfl (by simp [Value.oneCell']) ?_
      obtain ⟨wq, hwq⟩ : ∃ X, X = wa.setRow bv #[.int .i64 ((k : Nat)), .int .i64 ((r0 : Nat)), .int .i64 ((c0 : Nat)), .int .i64 ((n0 : Nat)), .int .i32 bl.ru, .int .i32 bl.m0, .int .i32 bl.m1, .int .u8 bl.k, .int .u8 bl.a.fg.k, .int .u8 bl.a.fg.r, .int .u8 bl.a.fg.g, .int .u8 bl.a.fg.b, .int .u8 bl.a.bg.k, .int .u8 bl.a.bg.r, .int .u8 bl.a.bg.g, .int .u8 bl.a.bg.b, .int .u16 (bl.a.fl : Nat), .int .u8 bl.l, .int .i32 769] := ⟨_, rfl⟩
      rw [← hwq] at HQ HQB ⊢
      clear hwq
      refine hK.out _ _ ?_ (fun hHeld => ?_)
      · exact HSK.out _ (HQB.out)
      clear hK K
      try simp only [Act.put]
      refine wpAnyH_done (by kernel_rfl) ?_ _
      clear hHeld
      go_wp2
      go_meet
      case rel => exact ⟨bv, rfl, HQ, HVB, HQB⟩
    · obtain ⟨bv, hbv⟩ : ∃ b, b = wd.heap.size := ⟨_, rfl⟩
      obtain ⟨wa, hwa⟩ : ∃ X, X = wd.alloc (.cells #[.int .i64 0, .int .i64 0, .int .i64 0, .int .i64 0, .int .i32 0, .int .i32 0, .int .i32 0, .int .u8 0, .int .u8 0, .int .u8 0, .int .u8 0, .int .u8 0, .int .u8 0, .int .u8 0, .int .u8 0, .int .u8 0, .int .u16 0, .int .u8 0, .int .i32 0] 79) := ⟨_, rfl⟩
      have bb : Below wd.heap.size wd wa := by rw [hwa]; exact (Below.refl _ _).alloc (Nat.le_refl _) _
      have HV := Lib.hid (show wa.heap[bv]? = some (.cells #[.int .i64 0, .int .i64 0, .int .i64 0, .int .i64 0, .int .i32 0, .int .i32 0, .int .i32 0, .int .u8 0, .int .u8 0, .int .u8 0, .int .u8 0, .int .u8 0, .int .u8 0, .int .u8 0, .int .u8 0, .int .u8 0, .int .u16 0, .int .u8 0, .int .i32 0] 79 (0, 0)) by rw [hwa, hbv]; exact World.alloc_heap_new _ _)
      have HVB := Lib.hid (show w0.heap.size ≤ bv by rw [hbv]; exact HX.out.size)
      replace HX := Lib.hid (HX.out.trans (bb.mono HX.out.size))
      clear bb
      go_simp
      rw [← hwa, ← hbv]
      clear hwa hbv
      refine hK.out _ _ ?_ (fun hHeld => ?_)
      · exact HSK.out _ HX.out
      clear hK K
      try go_frame
      refine do_at (i := 20) rfl (by kernel_rfl) (by kernel_rfl) (fun K hK => ?_)
      go_simp
      refine (sblank_any wa s HOK.out).mono ?_
      rintro e wc ⟨rfl, bc⟩
      rw [← HBL.out]
      replace HX := Lib.hid (HX.out.trans (bc.mono HX.out.size))
      replace HV := Lib.hid ((bc.block bv (Array.getElem?_eq_some_iff.1 HV.out).1).trans HV.out)
      clear bc
      go_wp2_with fail
      refine hK.out _ _ ?_ (fun hHeld => ?_)
      · exact HSK.out _ HX.out
      clear hK K
      try go_frame
      refine take_at (i := 21) (v := .agg #[.int .i64 ((k : Nat)), .int .i64 ((r0 : Nat)), .int .i64 ((c0 : Nat)), .int .i64 ((n0 : Nat)), .int .i32 bl.ru, .int .i32 bl.m0, .int .i32 bl.m1, .int .u8 bl.k, .int .u8 bl.a.fg.k, .int .u8 bl.a.fg.r, .int .u8 bl.a.fg.g, .int .u8 bl.a.fg.b, .int .u8 bl.a.bg.k, .int .u8 bl.a.bg.r, .int .u8 bl.a.bg.g, .int .u8 bl.a.bg.b, .int .u16 (bl.a.fl : Nat), .int .u8 bl.l, .int .i32 769]) rfl (by kernel_rfl) (by kernel_rfl) (by kernel_rfl) (fun _ _ _ h => h) (by kernel_rfl) (by assumption) ?_ ?_
      · intro w hSw
        exact run_op71 w rfl rfl rfl rfl rfl rfl
      go_frame
      refine do_at (i := 23) rfl (by kernel_rfl) (by kernel_rfl) (fun K hK => ?_)
      have HQ := Lib.hid (setRow_heap wc bv _ #[.int .i64 ((k : Nat)), .int .i64 ((r0 : Nat)), .int .i64 ((c0 : Nat)), .int .i64 ((n0 : Nat)), .int .i32 bl.ru, .int .i32 bl.m0, .int .i32 bl.m1, .int .u8 bl.k, .int .u8 bl.a.fg.k, .int .u8 bl.a.fg.r, .int .u8 bl.a.fg.g, .int .u8 bl.a.fg.b, .int .u8 bl.a.bg.k, .int .u8 bl.a.bg.r, .int .u8 bl.a.bg.g, .int .u8 bl.a.bg.b, .int .u16 (bl.a.fl : Nat), .int .u8 bl.l, .int .i32 769] _ _ HV.out)
      have HQB := Lib.hid (show Below w0.heap.size w0 (wc.setRow bv #[.int .i64 ((k : Nat)), .int .i64 ((r0 : Nat)), .int .i64 ((c0 : Nat)), .int .i64 ((n0 : Nat)), .int .i32 bl.ru, .int .i32 bl.m0, .int .i32 bl.m1, .int .u8 bl.k, .int .u8 bl.a.fg.k, .int .u8 bl.a.fg.r, .int .u8 bl.a.fg.g, .int .u8 bl.a.fg.b, .int .u8 bl.a.bg.k, .int .u8 bl.a.bg.r, .int .u8 bl.a.bg.g, .int .u8 bl.a.bg.b, .int .u16 (bl.a.fl : Nat), .int .u8 bl.l, .int .i32 769]) from HX.out.trans ((But.setRow wc bv #[.int .i64 ((k : Nat)), .int .i64 ((r0 : Nat)), .int .i64 ((c0 : Nat)), .int .i64 ((n0 : Nat)), .int .i32 bl.ru, .int .i32 bl.m0, .int .i32 bl.m1, .int .u8 bl.k, .int .u8 bl.a.fg.k, .int .u8 bl.a.fg.r, .int .u8 bl.a.fg.g, .int .u8 bl.a.fg.b, .int .u8 bl.a.bg.k, .int .u8 bl.a.bg.r, .int .u8 bl.a.bg.g, .int .u8 bl.a.bg.b, .int .u16 (bl.a.fl : Nat), .int .u8 bl.l, .int .i32 769]).below HVB.out HX.out.size))
      refine wp_store_row 79 (.tmp 7) (.tmp 29) rfl bv #[.int .i64 ((k : Nat)), .int .i64 ((r0 : Nat)), .int .i64 ((c0 : Nat)), .int .i64 ((n0 : Nat)), .int .i32 bl.ru, .int .i32 bl.m0, .int .i32 bl.m1, .int .u8 bl.k, .int .u8 bl.a.fg.k, .int .u8 bl.a.fg.r, .int .u8 bl.a.fg.g, .int .u8 bl.a.fg.b, .int .u8 bl.a.bg.k, .int .u8 bl.a.bg.r, .int .u8 bl.a.bg.g, .int .u8 bl.a.bg.b, .int .u16 (bl.a.fl : Nat), .int .u8 bl.l, .int .i32 769] rfl rfl 79 _ HV.out (by kernel_rfl) rfl (by simp [Value.oneCell']) ?_
      obtain ⟨wq, hwq⟩ : ∃ X, X = wc.setRow bv #[.int .i64 ((k : Nat)), .int .i64 ((r0 : Nat)), .int .i64 ((c0 : Nat)), .int .i64 ((n0 : Nat)), .int .i32 bl.ru, .int .i32 bl.m0, .int .i32 bl.m1, .int .u8 bl.k, .int .u8 bl.a.fg.k, .int .u8 bl.a.fg.r, .int .u8 bl.a.fg.g, .int .u8 bl.a.fg.b, .int .u8 bl.a.bg.k, .int .u8 bl.a.bg.r, .int .u8 bl.a.bg.g, .int .u8 bl.a.bg.b, .int .u16 (bl.a.fl : Nat), .int .u8 bl.l, .int .i32 769] := ⟨_, rfl⟩
      rw [← hwq] at HQ HQB ⊢
      clear hwq
      refine hK.out _ _ ?_ (fun hHeld => ?_)
      · exact HSK.out _ (HQB.out)
      clear hK K
      try simp only [Act.put]
      refine wpAnyH_done (by kernel_rfl) ?_ _
      clear hHeld
      go_wp2
      go_meet
      case rel => exact ⟨bv, rfl, HQ, HVB, HQB⟩
  case rest =>
  rename_i wc
  obtain ⟨bv, rfl, HQ, HVB, HQB⟩ := hcut
  clear r1 r1' r2 r2' r3 r3' r4 r4' u1 u2 u3 u4 HX
  have HQ0 := HQ
  clear HQ0
  by_cases hkk : k < 2
  · cases ho : s.odd with
    | true => as_aux_lemma =>
      have hk2 : (k : Int) < 2 := by omega
      have yb := HL.out.below HQB.out
      have y0 := yb.at 0 rfl
      have y1 := yb.at 1 rfl
      have y2 := yb.at 2 rfl
      have y3 := yb.at 3 rfl
      have y4 := yb.at 4 rfl
      have y5 := yb.at 5 rfl
      have y6 := yb.at 6 rfl
      have y7 := yb.at 7 rfl
      have y8 := yb.at 8 rfl
      have y9 := yb.at 9 rfl
      have y10 := yb.at 10 rfl
      clear yb
      have hli := Lie.of HQ.out
      have v0 := hli.at 0 rfl
      have v1 := hli.at 1 rfl
      have v2 := hli.at 2 rfl
      have v3 := hli.at 3 rfl
      have v4 := hli.at 4 rfl
      have v5 := hli.at 5 rfl
      have v6 := hli.at 6 rfl
      have v7 := hli.at 7 rfl
      have v8 := hli.at 8 rfl
      have v9 := hli.at 9 rfl
      have v10 := hli.at 10 rfl
      have v11 := hli.at 11 rfl
      have v12 := hli.at 12 rfl
      have v13 := hli.at 13 rfl
      have v14 := hli.at 14 rfl
      have v15 := hli.at 15 rfl
      have v16 := hli.at 16 rfl
      have v17 := hli.at 17 rfl
      have v18 := hli.at 18 rfl
      clear hli
      have fz := fun i => frozen_of_row wc bv i _ _ HQ.out
      go_wp2_with fail
      refine (rcell_any wc s.cell HOK.out.2.2.2.2.2).mono ?_
      rintro e wd ⟨rfl, bd⟩
      obtain ⟨x, hx⟩ : ∃ x, x = celD s.cell := ⟨_, rfl⟩
      rw [← hx]
      have HXE := Lib.hid (show actX s = x by unfold actX; rw [← HEQ.out.1, if_pos (by omega), hx])
      clear fz v0 v1 v2 v3 v4 v5 v6 v7 v8 v9 v10 v11 v12 v13 v14 v15 v16 v17 v18 y0 y1 y2 y3 y4 y5 y6 y7 y8 y9 y10
      replace HQ := Lib.hid ((bd.block bv (Array.getElem?_eq_some_iff.1 HQ.out).1).trans HQ.out)
      replace HQB := Lib.hid (HQB.out.trans (bd.mono HQB.out.size))
      clear bd hx
      dsimp only
      go_step
      go_step
      go_step
      go_step
      have HTH := Lib.hid (there_of (o := 4) (n := 14) HQ.out (by simp))
      obtain ⟨x1, hx1⟩ : ∃ X, X = World.setCells wd bv 4 [.int .i32 x.ru, .int .i32 x.m0, .int .i32 x.m1, .int .u8 x.k, .int .u8 x.a.fg.k, .int .u8 x.a.fg.r, .int .u8 x.a.fg.g, .int .u8 x.a.fg.b, .int .u8 x.a.bg.k, .int .u8 x.a.bg.r, .int .u8 x.a.bg.g, .int .u8 x.a.bg.b, .int .u16 (x.a.fl : Nat), .int .u8 x.l] := ⟨_, rfl⟩
      have HQ' := Lib.hid (show x1.heap[bv]? = some (.cells #[.int .i64 ((k : Nat)), .int .i64 ((r0 : Nat)), .int .i64 ((c0 : Nat)), .int .i64 ((n0 : Nat)), .int .i32 x.ru, .int .i32 x.m0, .int .i32 x.m1, .int .u8 x.k, .int .u8 x.a.fg.k, .int .u8 x.a.fg.r, .int .u8 x.a.fg.g, .int .u8 x.a.fg.b, .int .u8 x.a.bg.k, .int .u8 x.a.bg.r, .int .u8 x.a.bg.g, .int .u8 x.a.bg.b, .int .u16 (x.a.fl : Nat), .int .u8 x.l, .int .i32 769] 79 (0, 0)) by rw [hx1, setCells_L]; exact setL_at [.int .i32 x.ru, .int .i32 x.m0, .int .i32 x.m1, .int .u8 x.k, .int .u8 x.a.fg.k, .int .u8 x.a.fg.r, .int .u8 x.a.fg.g, .int .u8 x.a.fg.b, .int .u8 x.a.bg.k, .int .u8 x.a.bg.r, .int .u8 x.a.bg.g, .int .u8 x.a.bg.b, .int .u16 (x.a.fl : Nat), .int .u8 x.l] HQ.out (by simp) rfl)
      have HQB' := Lib.hid (show Below w0.heap.size w0 x1 by rw [hx1, setCells_L]; exact HQB.out.trans ((setL_but [.int .i32 x.ru, .int .i32 x.m0, .int .i32 x.m1, .int .u8 x.k, .int .u8 x.a.fg.k, .int .u8 x.a.fg.r, .int .u8 x.a.fg.g, .int .u8 x.a.fg.b, .int .u8 x.a.bg.k, .int .u8 x.a.bg.r, .int .u8 x.a.bg.g, .int .u8 x.a.bg.b, .int .u16 (x.a.fl : Nat), .int .u8 x.l]).below HVB.out HQB.out.size))
      try go_frame
      refine wpList_store_mid rfl 55 (.tmp 36) (.tmp 35) rfl bv 4 #[.int .i32 x.ru, .int .i32 x.m0, .int .i32 x.m1, .int .u8 x.k, .int .u8 x.a.fg.k, .int .u8 x.a.fg.r, .int .u8 x.a.fg.g, .int .u8 x.a.fg.b, .int .u8 x.a.bg.k, .int .u8 x.a.bg.r, .int .u8 x.a.bg.g, .int .u8 x.a.bg.b, .int .u16 (x.a.fl : Nat), .int .u8 x.l] rfl rfl HTH.out (by kernel_rfl) (by simp [Value.oneCell']) ?_
      rw [← hx1]
      clear hx1 HQ HQB HTH
      have HQ := HQ'
      have HQB := HQB'
      clear HQ' HQB'
      try simp only [Act.put]
      have yb := HL.out.below HQB.out
      have y0 := yb.at 0 rfl
      have y1 := yb.at 1 rfl
      have y2 := yb.at 2 rfl
      have y3 := yb.at 3 rfl
      have y4 := yb.at 4 rfl
      have y5 := yb.at 5 rfl
      have y6 := yb.at 6 rfl
      have y7 := yb.at 7 rfl
      have y8 := yb.at 8 rfl
      have y9 := yb.at 9 rfl
      have y10 := yb.at 10 rfl
      clear yb
      go_upto_region 4 with (fail)
      clear y0 y1 y2 y3 y4 y5 y6 y7 y8 y9 y10
      have yb := HL.out.below HQB.out
      have y0 := yb.at 0 rfl
      have y1 := yb.at 1 rfl
      have y2 := yb.at 2 rfl
      have y3 := yb.at 3 rfl
      have y4 := yb.at 4 rfl
      have y5 := yb.at 5 rfl
      have y6 := yb.at 6 rfl
      have y7 := yb.at 7 rfl
      have y8 := yb.at 8 rfl
      have y9 := yb.at 9 rfl
      have y10 := yb.at 10 rfl
      clear yb
      have hli := Lie.of HQ.out
      have v0 := hli.at 0 rfl
      have v1 := hli.at 1 rfl
      have v2 := hli.at 2 rfl
      have v3 := hli.at 3 rfl
      have v4 := hli.at 4 rfl
      have v5 := hli.at 5 rfl
      have v6 := hli.at 6 rfl
      have v7 := hli.at 7 rfl
      have v8 := hli.at 8 rfl
      have v9 := hli.at 9 rfl
      have v10 := hli.at 10 rfl
      have v11 := hli.at 11 rfl
      have v12 := hli.at 12 rfl
      have v13 := hli.at 13 rfl
      have v14 := hli.at 14 rfl
      have v15 := hli.at 15 rfl
      have v16 := hli.at 16 rfl
      have v17 := hli.at 17 rfl
      have v18 := hli.at 18 rfl
      clear hli
      have fz := fun i => frozen_of_row x1 bv i _ _ HQ.out
      rw [ho] at y10
      obtain ⟨x1, hx1⟩ : ∃ X, X = setL x1 bv 1 [.int .i64 sr, .int .i64 sc] := ⟨_, rfl⟩
      have HQ' := Lib.hid (show x1.heap[bv]? = some (.cells #[.int .i64 ((k : Nat)), .int .i64 (sr), .int .i64 (sc), .int .i64 ((n0 : Nat)), .int .i32 x.ru, .int .i32 x.m0, .int .i32 x.m1, .int .u8 x.k, .int .u8 x.a.fg.k, .int .u8 x.a.fg.r, .int .u8 x.a.fg.g, .int .u8 x.a.fg.b, .int .u8 x.a.bg.k, .int .u8 x.a.bg.r, .int .u8 x.a.bg.g, .int .u8 x.a.bg.b, .int .u16 (x.a.fl : Nat), .int .u8 x.l, .int .i32 769] 79 (0, 0)) by rw [hx1]; exact setL_at [.int .i64 sr, .int .i64 sc] HQ.out (by simp) rfl)
      have HQB' := Lib.hid (show Below w0.heap.size w0 x1 by rw [hx1]; exact HQB.out.trans ((setL_but [.int .i64 sr, .int .i64 sc]).below HVB.out HQB.out.size))
      simp only [setL, Nat.reduceAdd] at hx1
      go_upto_region 6 with (fail)
      rw [← hx1]
      clear fz v0 v1 v2 v3 v4 v5 v6 v7 v8 v9 v10 v11 v12 v13 v14 v15 v16 v17 v18 y0 y1 y2 y3 y4 y5 y6 y7 y8 y9 y10
      clear hx1 HQ HQB
      have HQ := HQ'
      have HQB := HQB'
      clear HQ' HQB'
      have yb := HL.out.below HQB.out
      have y0 := yb.at 0 rfl
      have y1 := yb.at 1 rfl
      have y2 := yb.at 2 rfl
      have y3 := yb.at 3 rfl
      have y4 := yb.at 4 rfl
      have y5 := yb.at 5 rfl
      have y6 := yb.at 6 rfl
      have y7 := yb.at 7 rfl
      have y8 := yb.at 8 rfl
      have y9 := yb.at 9 rfl
      have y10 := yb.at 10 rfl
      clear yb
      have hli := Lie.of HQ.out
      have v0 := hli.at 0 rfl
      have v1 := hli.at 1 rfl
      have v2 := hli.at 2 rfl
      have v3 := hli.at 3 rfl
      have v4 := hli.at 4 rfl
      have v5 := hli.at 5 rfl
      have v6 := hli.at 6 rfl
      have v7 := hli.at 7 rfl
      have v8 := hli.at 8 rfl
      have v9 := hli.at 9 rfl
      have v10 := hli.at 10 rfl
      have v11 := hli.at 11 rfl
      have v12 := hli.at 12 rfl
      have v13 := hli.at 13 rfl
      have v14 := hli.at 14 rfl
      have v15 := hli.at 15 rfl
      have v16 := hli.at 16 rfl
      have v17 := hli.at 17 rfl
      have v18 := hli.at 18 rfl
      clear hli
      have fz := fun i => frozen_of_row x1 bv i _ _ HQ.out
      obtain ⟨x2, hx2⟩ : ∃ X, X = setL x1 bv 3 [.int .i64 sn] := ⟨_, rfl⟩
      have HQ' := Lib.hid (show x2.heap[bv]? = some (.cells #[.int .i64 ((k : Nat)), .int .i64 (sr), .int .i64 (sc), .int .i64 (sn), .int .i32 x.ru, .int .i32 x.m0, .int .i32 x.m1, .int .u8 x.k, .int .u8 x.a.fg.k, .int .u8 x.a.fg.r, .int .u8 x.a.fg.g, .int .u8 x.a.fg.b, .int .u8 x.a.bg.k, .int .u8 x.a.bg.r, .int .u8 x.a.bg.g, .int .u8 x.a.bg.b, .int .u16 (x.a.fl : Nat), .int .u8 x.l, .int .i32 769] 79 (0, 0)) by rw [hx2]; exact setL_at [.int .i64 sn] HQ.out (by simp) rfl)
      have HQB' := Lib.hid (show Below w0.heap.size w0 x2 by rw [hx2]; exact HQB.out.trans ((setL_but [.int .i64 sn]).below HVB.out HQB.out.size))
      simp only [setL] at hx2
      go_upto_region 7 with (fail)
      rw [← hx2]
      clear fz v0 v1 v2 v3 v4 v5 v6 v7 v8 v9 v10 v11 v12 v13 v14 v15 v16 v17 v18 y0 y1 y2 y3 y4 y5 y6 y7 y8 y9 y10
      clear hx2 HQ HQB
      have HQ := HQ'
      have HQB := HQB'
      clear HQ' HQB'
      have HE := Lib.hid (show actV s n m = .agg #[.int .i64 ((k : Nat)), .int .i64 (sr), .int .i64 (sc), .int .i64 (sn), .int .i32 x.ru, .int .i32 x.m0, .int .i32 x.m1, .int .u8 x.k, .int .u8 x.a.fg.k, .int .u8 x.a.fg.r, .int .u8 x.a.fg.g, .int .u8 x.a.fg.b, .int .u8 x.a.bg.k, .int .u8 x.a.bg.r, .int .u8 x.a.bg.g, .int .u8 x.a.bg.b, .int .u16 (x.a.fl : Nat), .int .u8 x.l, .int .i32 769] by unfold actV actA; rw [HXE.out, ← HEQ.out.1, HSR.out.1 ho, HSR.out.2.1 ho, HSR.out.2.2 ho])
      have h6 := (HQB.out.block b6 (by have := HB6.out; omega)).trans HZ6.out
      have HQE := Lib.hid (setRow_heap x2 b6 _ #[.int .i64 ((k : Nat)), .int .i64 (sr), .int .i64 (sc), .int .i64 (sn), .int .i32 x.ru, .int .i32 x.m0, .int .i32 x.m1, .int .u8 x.k, .int .u8 x.a.fg.k, .int .u8 x.a.fg.r, .int .u8 x.a.fg.g, .int .u8 x.a.fg.b, .int .u8 x.a.bg.k, .int .u8 x.a.bg.r, .int .u8 x.a.bg.g, .int .u8 x.a.bg.b, .int .u16 (x.a.fl : Nat), .int .u8 x.l, .int .i32 769] _ _ h6)
      have HBE := Lib.hid (show Below w.heap.size w (x2.setRow b6 #[.int .i64 ((k : Nat)), .int .i64 (sr), .int .i64 (sc), .int .i64 (sn), .int .i32 x.ru, .int .i32 x.m0, .int .i32 x.m1, .int .u8 x.k, .int .u8 x.a.fg.k, .int .u8 x.a.fg.r, .int .u8 x.a.fg.g, .int .u8 x.a.fg.b, .int .u8 x.a.bg.k, .int .u8 x.a.bg.r, .int .u8 x.a.bg.g, .int .u8 x.a.bg.b, .int .u16 (x.a.fl : Nat), .int .u8 x.l, .int .i32 769]) from (HB0.out.trans (HQB.out.mono HB0.out.size)).trans ((But.setRow x2 b6 #[.int .i64 ((k : Nat)), .int .i64 (sr), .int .i64 (sc), .int .i64 (sn), .int .i32 x.ru, .int .i32 x.m0, .int .i32 x.m1, .int .u8 x.k, .int .u8 x.a.fg.k, .int .u8 x.a.fg.r, .int .u8 x.a.fg.g, .int .u8 x.a.fg.b, .int .u8 x.a.bg.k, .int .u8 x.a.bg.r, .int .u8 x.a.bg.g, .int .u8 x.a.bg.b, .int .u16 (x.a.fl : Nat), .int .u8 x.l, .int .i32 769]).below (by have := HB6.out; omega) (Nat.le_trans HB0.out.size HQB.out.size)))
      refine wp_region_lit ?_
      refine wpList_load_row rfl 79 (.tmp 7) rfl bv rfl 79 #[.int .i64 ((k : Nat)), .int .i64 (sr), .int .i64 (sc), .int .i64 (sn), .int .i32 x.ru, .int .i32 x.m0, .int .i32 x.m1, .int .u8 x.k, .int .u8 x.a.fg.k, .int .u8 x.a.fg.r, .int .u8 x.a.fg.g, .int .u8 x.a.fg.b, .int .u8 x.a.bg.k, .int .u8 x.a.bg.r, .int .u8 x.a.bg.g, .int .u8 x.a.bg.b, .int .u16 (x.a.fl : Nat), .int .u8 x.l, .int .i32 769] _ _ HQ.out Tryz.underlying79 rfl (by kernel_rfl) ?_
      try go_frame
      refine wpList_store_row rfl 79 (.tmp 6) (.tmp 54) rfl b6 #[.int .i64 ((k : Nat)), .int .i64 (sr), .int .i64 (sc), .int .i64 (sn), .int .i32 x.ru, .int .i32 x.m0, .int .i32 x.m1, .int .u8 x.k, .int .u8 x.a.fg.k, .int .u8 x.a.fg.r, .int .u8 x.a.fg.g, .int .u8 x.a.fg.b, .int .u8 x.a.bg.k, .int .u8 x.a.bg.r, .int .u8 x.a.bg.g, .int .u8 x.a.bg.b, .int .u16 (x.a.fl : Nat), .int .u8 x.l, .int .i32 769] rfl rfl 79 _ h6 (by kernel_rfl) rfl (by simp [Value.oneCell']) ?_
      obtain ⟨xe, hxe⟩ : ∃ X, X = x2.setRow b6 #[.int .i64 ((k : Nat)), .int .i64 (sr), .int .i64 (sc), .int .i64 (sn), .int .i32 x.ru, .int .i32 x.m0, .int .i32 x.m1, .int .u8 x.k, .int .u8 x.a.fg.k, .int .u8 x.a.fg.r, .int .u8 x.a.fg.g, .int .u8 x.a.fg.b, .int .u8 x.a.bg.k, .int .u8 x.a.bg.r, .int .u8 x.a.bg.g, .int .u8 x.a.bg.b, .int .u16 (x.a.fl : Nat), .int .u8 x.l, .int .i32 769] := ⟨_, rfl⟩
      rw [← hxe] at HQE HBE ⊢
      clear hxe h6
      go_wp2
      rw [HE.out]
      exact bodyPost_ret (v := .agg #[.int .i64 ((k : Nat)), .int .i64 (sr), .int .i64 (sc), .int .i64 (sn), .int .i32 x.ru, .int .i32 x.m0, .int .i32 x.m1, .int .u8 x.k, .int .u8 x.a.fg.k, .int .u8 x.a.fg.r, .int .u8 x.a.fg.g, .int .u8 x.a.fg.b, .int .u8 x.a.bg.k, .int .u8 x.a.bg.r, .int .u8 x.a.bg.g, .int .u8 x.a.bg.b, .int .u16 (x.a.fl : Nat), .int .u8 x.l, .int .i32 769]) (results_cell_row rfl _ _ b6 79 _ _ _ rfl HQE.out Tryz.underlying79 rfl (by kernel_rfl)) rfl ⟨rfl, HBE.out⟩
    | false => as_aux_lemma =>
      have hk2 : (k : Int) < 2 := by omega
      have yb := HL.out.below HQB.out
      have y0 := yb.at 0 rfl
      have y1 := yb.at 1 rfl
      have y2 := yb.at 2 rfl
      have y3 := yb.at 3 rfl
      have y4 := yb.at 4 rfl
      have y5 := yb.at 5 rfl
      have y6 := yb.at 6 rfl
      have y7 := yb.at 7 rfl
      have y8 := yb.at 8 rfl
      have y9 := yb.at 9 rfl
      have y10 := yb.at 10 rfl
      clear yb
      have hli := Lie.of HQ.out
      have v0 := hli.at 0 rfl
      have v1 := hli.at 1 rfl
      have v2 := hli.at 2 rfl
      have v3 := hli.at 3 rfl
      have v4 := hli.at 4 rfl
      have v5 := hli.at 5 rfl
      have v6 := hli.at 6 rfl
      have v7 := hli.at 7 rfl
      have v8 := hli.at 8 rfl
      have v9 := hli.at 9 rfl
      have v10 := hli.at 10 rfl
      have v11 := hli.at 11 rfl
      have v12 := hli.at 12 rfl
      have v13 := hli.at 13 rfl
      have v14 := hli.at 14 rfl
      have v15 := hli.at 15 rfl
      have v16 := hli.at 16 rfl
      have v17 := hli.at 17 rfl
      have v18 := hli.at 18 rfl
      clear hli
      have fz := fun i => frozen_of_row wc bv i _ _ HQ.out
      go_wp2_with fail
      refine (rcell_any wc s.cell HOK.out.2.2.2.2.2).mono ?_
      rintro e wd ⟨rfl, bd⟩
      obtain ⟨x, hx⟩ : ∃ x, x = celD s.cell := ⟨_, rfl⟩
      rw [← hx]
      have HXE := Lib.hid (show actX s = x by unfold actX; rw [← HEQ.out.1, if_pos (by omega), hx])
      clear fz v0 v1 v2 v3 v4 v5 v6 v7 v8 v9 v10 v11 v12 v13 v14 v15 v16 v17 v18 y0 y1 y2 y3 y4 y5 y6 y7 y8 y9 y10
      replace HQ := Lib.hid ((bd.block bv (Array.getElem?_eq_some_iff.1 HQ.out).1).trans HQ.out)
      replace HQB := Lib.hid (HQB.out.trans (bd.mono HQB.out.size))
      clear bd hx
      dsimp only
      go_step
      go_step
      go_step
      go_step
      have HTH := Lib.hid (there_of (o := 4) (n := 14) HQ.out (by simp))
      obtain ⟨x1, hx1⟩ : ∃ X, X = World.setCells wd bv 4 [.int .i32 x.ru, .int .i32 x.m0, .int .i32 x.m1, .int .u8 x.k, .int .u8 x.a.fg.k, .int .u8 x.a.fg.r, .int .u8 x.a.fg.g, .int .u8 x.a.fg.b, .int .u8 x.a.bg.k, .int .u8 x.a.bg.r, .int .u8 x.a.bg.g, .int .u8 x.a.bg.b, .int .u16 (x.a.fl : Nat), .int .u8 x.l] := ⟨_, rfl⟩
      have HQ' := Lib.hid (show x1.heap[bv]? = some (.cells #[.int .i64 ((k : Nat)), .int .i64 ((r0 : Nat)), .int .i64 ((c0 : Nat)), .int .i64 ((n0 : Nat)), .int .i32 x.ru, .int .i32 x.m0, .int .i32 x.m1, .int .u8 x.k, .int .u8 x.a.fg.k, .int .u8 x.a.fg.r, .int .u8 x.a.fg.g, .int .u8 x.a.fg.b, .int .u8 x.a.bg.k, .int .u8 x.a.bg.r, .int .u8 x.a.bg.g, .int .u8 x.a.bg.b, .int .u16 (x.a.fl : Nat), .int .u8 x.l, .int .i32 769] 79 (0, 0)) by rw [hx1, setCells_L]; exact setL_at [.int .i32 x.ru, .int .i32 x.m0, .int .i32 x.m1, .int .u8 x.k, .int .u8 x.a.fg.k, .int .u8 x.a.fg.r, .int .u8 x.a.fg.g, .int .u8 x.a.fg.b, .int .u8 x.a.bg.k, .int .u8 x.a.bg.r, .int .u8 x.a.bg.g, .int .u8 x.a.bg.b, .int .u16 (x.a.fl : Nat), .int .u8 x.l] HQ.out (by simp) rfl)
      have HQB' := Lib.hid (show Below w0.heap.size w0 x1 by rw [hx1, setCells_L]; exact HQB.out.trans ((setL_but [.int .i32 x.ru, .int .i32 x.m0, .int .i32 x.m1, .int .u8 x.k, .int .u8 x.a.fg.k, .int .u8 x.a.fg.r, .int .u8 x.a.fg.g, .int .u8 x.a.fg.b, .int .u8 x.a.bg.k, .int .u8 x.a.bg.r, .int .u8 x.a.bg.g, .int .u8 x.a.bg.b, .int .u16 (x.a.fl : Nat), .int .u8 x.l]).below HVB.out HQB.out.size))
      try go_frame
      refine wpList_store_mid rfl 55 (.tmp 36) (.tmp 35) rfl bv 4 #[.int .i32 x.ru, .int .i32 x.m0, .int .i32 x.m1, .int .u8 x.k, .int .u8 x.a.fg.k, .int .u8 x.a.fg.r, .int .u8 x.a.fg.g, .int .u8 x.a.fg.b, .int .u8 x.a.bg.k, .int .u8 x.a.bg.r, .int .u8 x.a.bg.g, .int .u8 x.a.bg.b, .int .u16 (x.a.fl : Nat), .int .u8 x.l] rfl rfl HTH.out (by kernel_rfl) (by simp [Value.oneCell']) ?_
      rw [← hx1]
      clear hx1 HQ HQB HTH
      have HQ := HQ'
      have HQB := HQB'
      clear HQ' HQB'
      try simp only [Act.put]
      have yb := HL.out.below HQB.out
      have y0 := yb.at 0 rfl
      have y1 := yb.at 1 rfl
      have y2 := yb.at 2 rfl
      have y3 := yb.at 3 rfl
      have y4 := yb.at 4 rfl
      have y5 := yb.at 5 rfl
      have y6 := yb.at 6 rfl
      have y7 := yb.at 7 rfl
      have y8 := yb.at 8 rfl
      have y9 := yb.at 9 rfl
      have y10 := yb.at 10 rfl
      clear yb
      go_upto_region 4 with (fail)
      clear y0 y1 y2 y3 y4 y5 y6 y7 y8 y9 y10
      have yb := HL.out.below HQB.out
      have y0 := yb.at 0 rfl
      have y1 := yb.at 1 rfl
      have y2 := yb.at 2 rfl
      have y3 := yb.at 3 rfl
      have y4 := yb.at 4 rfl
      have y5 := yb.at 5 rfl
      have y6 := yb.at 6 rfl
      have y7 := yb.at 7 rfl
      have y8 := yb.at 8 rfl
      have y9 := yb.at 9 rfl
      have y10 := yb.at 10 rfl
      clear yb
      have hli := Lie.of HQ.out
      have v0 := hli.at 0 rfl
      have v1 := hli.at 1 rfl
      have v2 := hli.at 2 rfl
      have v3 := hli.at 3 rfl
      have v4 := hli.at 4 rfl
      have v5 := hli.at 5 rfl
      have v6 := hli.at 6 rfl
      have v7 := hli.at 7 rfl
      have v8 := hli.at 8 rfl
      have v9 := hli.at 9 rfl
      have v10 := hli.at 10 rfl
      have v11 := hli.at 11 rfl
      have v12 := hli.at 12 rfl
      have v13 := hli.at 13 rfl
      have v14 := hli.at 14 rfl
      have v15 := hli.at 15 rfl
      have v16 := hli.at 16 rfl
      have v17 := hli.at 17 rfl
      have v18 := hli.at 18 rfl
      clear hli
      have fz := fun i => frozen_of_row x1 bv i _ _ HQ.out
      rw [ho] at y10
      go_upto_region 7 with (fail)
      clear fz v0 v1 v2 v3 v4 v5 v6 v7 v8 v9 v10 v11 v12 v13 v14 v15 v16 v17 v18 y0 y1 y2 y3 y4 y5 y6 y7 y8 y9 y10
      have HE := Lib.hid (show actV s n m = .agg #[.int .i64 ((k : Nat)), .int .i64 ((r0 : Nat)), .int .i64 ((c0 : Nat)), .int .i64 ((n0 : Nat)), .int .i32 x.ru, .int .i32 x.m0, .int .i32 x.m1, .int .u8 x.k, .int .u8 x.a.fg.k, .int .u8 x.a.fg.r, .int .u8 x.a.fg.g, .int .u8 x.a.fg.b, .int .u8 x.a.bg.k, .int .u8 x.a.bg.r, .int .u8 x.a.bg.g, .int .u8 x.a.bg.b, .int .u16 (x.a.fl : Nat), .int .u8 x.l, .int .i32 769] by unfold actV actA actR actC actN; rw [HXE.out, ho, HEQ.out.1, HEQ.out.2.1, HEQ.out.2.2.1, HEQ.out.2.2.2]; rfl)
      have h6 := (HQB.out.block b6 (by have := HB6.out; omega)).trans HZ6.out
      have HQE := Lib.hid (setRow_heap x1 b6 _ #[.int .i64 ((k : Nat)), .int .i64 ((r0 : Nat)), .int .i64 ((c0 : Nat)), .int .i64 ((n0 : Nat)), .int .i32 x.ru, .int .i32 x.m0, .int .i32 x.m1, .int .u8 x.k, .int .u8 x.a.fg.k, .int .u8 x.a.fg.r, .int .u8 x.a.fg.g, .int .u8 x.a.fg.b, .int .u8 x.a.bg.k, .int .u8 x.a.bg.r, .int .u8 x.a.bg.g, .int .u8 x.a.bg.b, .int .u16 (x.a.fl : Nat), .int .u8 x.l, .int .i32 769] _ _ h6)
      have HBE := Lib.hid (show Below w.heap.size w (x1.setRow b6 #[.int .i64 ((k : Nat)), .int .i64 ((r0 : Nat)), .int .i64 ((c0 : Nat)), .int .i64 ((n0 : Nat)), .int .i32 x.ru, .int .i32 x.m0, .int .i32 x.m1, .int .u8 x.k, .int .u8 x.a.fg.k, .int .u8 x.a.fg.r, .int .u8 x.a.fg.g, .int .u8 x.a.fg.b, .int .u8 x.a.bg.k, .int .u8 x.a.bg.r, .int .u8 x.a.bg.g, .int .u8 x.a.bg.b, .int .u16 (x.a.fl : Nat), .int .u8 x.l, .int .i32 769]) from (HB0.out.trans (HQB.out.mono HB0.out.size)).trans ((But.setRow x1 b6 #[.int .i64 ((k : Nat)), .int .i64 ((r0 : Nat)), .int .i64 ((c0 : Nat)), .int .i64 ((n0 : Nat)), .int .i32 x.ru, .int .i32 x.m0, .int .i32 x.m1, .int .u8 x.k, .int .u8 x.a.fg.k, .int .u8 x.a.fg.r, .int .u8 x.a.fg.g, .int .u8 x.a.fg.b, .int .u8 x.a.bg.k, .int .u8 x.a.bg.r, .int .u8 x.a.bg.g, .int .u8 x.a.bg.b, .int .u16 (x.a.fl : Nat), .int .u8 x.l, .int .i32 769]).below (by have := HB6.out; omega) (Nat.le_trans HB0.out.size HQB.out.size)))
      refine wp_region_lit ?_
      refine wpList_load_row rfl 79 (.tmp 7) rfl bv rfl 79 #[.int .i64 ((k : Nat)), .int .i64 ((r0 : Nat)), .int .i64 ((c0 : Nat)), .int .i64 ((n0 : Nat)), .int .i32 x.ru, .int .i32 x.m0, .int .i32 x.m1, .int .u8 x.k, .int .u8 x.a.fg.k, .int .u8 x.a.fg.r, .int .u8 x.a.fg.g, .int .u8 x.a.fg.b, .int .u8 x.a.bg.k, .int .u8 x.a.bg.r, .int .u8 x.a.bg.g, .int .u8 x.a.bg.b, .int .u16 (x.a.fl : Nat), .int .u8 x.l, .int .i32 769] _ _ HQ.out Tryz.underlying79 rfl (by kernel_rfl) ?_
      try go_frame
      refine wpList_store_row rfl 79 (.tmp 6) (.tmp 54) rfl b6 #[.int .i64 ((k : Nat)), .int .i64 ((r0 : Nat)), .int .i64 ((c0 : Nat)), .int .i64 ((n0 : Nat)), .int .i32 x.ru, .int .i32 x.m0, .int .i32 x.m1, .int .u8 x.k, .int .u8 x.a.fg.k, .int .u8 x.a.fg.r, .int .u8 x.a.fg.g, .int .u8 x.a.fg.b, .int .u8 x.a.bg.k, .int .u8 x.a.bg.r, .int .u8 x.a.bg.g, .int .u8 x.a.bg.b, .int .u16 (x.a.fl : Nat), .int .u8 x.l, .int .i32 769] rfl rfl 79 _ h6 (by kernel_rfl) rfl (by simp [Value.oneCell']) ?_
      obtain ⟨xe, hxe⟩ : ∃ X, X = x1.setRow b6 #[.int .i64 ((k : Nat)), .int .i64 ((r0 : Nat)), .int .i64 ((c0 : Nat)), .int .i64 ((n0 : Nat)), .int .i32 x.ru, .int .i32 x.m0, .int .i32 x.m1, .int .u8 x.k, .int .u8 x.a.fg.k, .int .u8 x.a.fg.r, .int .u8 x.a.fg.g, .int .u8 x.a.fg.b, .int .u8 x.a.bg.k, .int .u8 x.a.bg.r, .int .u8 x.a.bg.g, .int .u8 x.a.bg.b, .int .u16 (x.a.fl : Nat), .int .u8 x.l, .int .i32 769] := ⟨_, rfl⟩
      rw [← hxe] at HQE HBE ⊢
      clear hxe h6
      go_wp2
      rw [HE.out]
      exact bodyPost_ret (v := .agg #[.int .i64 ((k : Nat)), .int .i64 ((r0 : Nat)), .int .i64 ((c0 : Nat)), .int .i64 ((n0 : Nat)), .int .i32 x.ru, .int .i32 x.m0, .int .i32 x.m1, .int .u8 x.k, .int .u8 x.a.fg.k, .int .u8 x.a.fg.r, .int .u8 x.a.fg.g, .int .u8 x.a.fg.b, .int .u8 x.a.bg.k, .int .u8 x.a.bg.r, .int .u8 x.a.bg.g, .int .u8 x.a.bg.b, .int .u16 (x.a.fl : Nat), .int .u8 x.l, .int .i32 769]) (results_cell_row rfl _ _ b6 79 _ _ _ rfl HQE.out Tryz.underlying79 rfl (by kernel_rfl)) rfl ⟨rfl, HBE.out⟩
  · cases ho : s.odd with
    | true => as_aux_lemma =>
      have hk2 : ¬ (k : Int) < 2 := by omega
      obtain ⟨x, hx⟩ : ∃ x, x = bl := ⟨_, rfl⟩
      have HXE := Lib.hid (show actX s = x by unfold actX; rw [← HEQ.out.1, if_neg (by omega), hx, HBL.out])
      rw [← hx] at HQ
      clear hx
      have hli := Lie.of HQ.out
      have v0 := hli.at 0 rfl
      have v1 := hli.at 1 rfl
      have v2 := hli.at 2 rfl
      have v3 := hli.at 3 rfl
      have v4 := hli.at 4 rfl
      have v5 := hli.at 5 rfl
      have v6 := hli.at 6 rfl
      have v7 := hli.at 7 rfl
      have v8 := hli.at 8 rfl
      have v9 := hli.at 9 rfl
      have v10 := hli.at 10 rfl
      have v11 := hli.at 11 rfl
      have v12 := hli.at 12 rfl
      have v13 := hli.at 13 rfl
      have v14 := hli.at 14 rfl
      have v15 := hli.at 15 rfl
      have v16 := hli.at 16 rfl
      have v17 := hli.at 17 rfl
      have v18 := hli.at 18 rfl
      clear hli
      have fz := fun i => frozen_of_row wc bv i _ _ HQ.out
      have yb := HL.out.below HQB.out
      have y0 := yb.at 0 rfl
      have y1 := yb.at 1 rfl
      have y2 := yb.at 2 rfl
      have y3 := yb.at 3 rfl
      have y4 := yb.at 4 rfl
      have y5 := yb.at 5 rfl
      have y6 := yb.at 6 rfl
      have y7 := yb.at 7 rfl
      have y8 := yb.at 8 rfl
      have y9 := yb.at 9 rfl
      have y10 := yb.at 10 rfl
      clear yb
      go_upto_region 4 with (fail)
      clear fz v0 v1 v2 v3 v4 v5 v6 v7 v8 v9 v10 v11 v12 v13 v14 v15 v16 v17 v18 y0 y1 y2 y3 y4 y5 y6 y7 y8 y9 y10
      have yb := HL.out.below HQB.out
      have y0 := yb.at 0 rfl
      have y1 := yb.at 1 rfl
      have y2 := yb.at 2 rfl
      have y3 := yb.at 3 rfl
      have y4 := yb.at 4 rfl
      have y5 := yb.at 5 rfl
      have y6 := yb.at 6 rfl
      have y7 := yb.at 7 rfl
      have y8 := yb.at 8 rfl
      have y9 := yb.at 9 rfl
      have y10 := yb.at 10 rfl
      clear yb
      have hli := Lie.of HQ.out
      have v0 := hli.at 0 rfl
      have v1 := hli.at 1 rfl
      have v2 := hli.at 2 rfl
      have v3 := hli.at 3 rfl
      have v4 := hli.at 4 rfl
      have v5 := hli.at 5 rfl
      have v6 := hli.at 6 rfl
      have v7 := hli.at 7 rfl
      have v8 := hli.at 8 rfl
      have v9 := hli.at 9 rfl
      have v10 := hli.at 10 rfl
      have v11 := hli.at 11 rfl
      have v12 := hli.at 12 rfl
      have v13 := hli.at 13 rfl
      have v14 := hli.at 14 rfl
      have v15 := hli.at 15 rfl
      have v16 := hli.at 16 rfl
      have v17 := hli.at 17 rfl
      have v18 := hli.at 18 rfl
      clear hli
      have fz := fun i => frozen_of_row wc bv i _ _ HQ.out
      rw [ho] at y10
      obtain ⟨x1, hx1⟩ : ∃ X, X = setL wc bv 1 [.int .i64 sr, .int .i64 sc] := ⟨_, rfl⟩
      have HQ' := Lib.hid (show x1.heap[bv]? = some (.cells #[.int .i64 ((k : Nat)), .int .i64 (sr), .int .i64 (sc), .int .i64 ((n0 : Nat)), .int .i32 x.ru, .int .i32 x.m0, .int .i32 x.m1, .int .u8 x.k, .int .u8 x.a.fg.k, .int .u8 x.a.fg.r, .int .u8 x.a.fg.g, .int .u8 x.a.fg.b, .int .u8 x.a.bg.k, .int .u8 x.a.bg.r, .int .u8 x.a.bg.g, .int .u8 x.a.bg.b, .int .u16 (x.a.fl : Nat), .int .u8 x.l, .int .i32 769] 79 (0, 0)) by rw [hx1]; exact setL_at [.int .i64 sr, .int .i64 sc] HQ.out (by simp) rfl)
      have HQB' := Lib.hid (show Below w0.heap.size w0 x1 by rw [hx1]; exact HQB.out.trans ((setL_but [.int .i64 sr, .int .i64 sc]).below HVB.out HQB.out.size))
      simp only [setL, Nat.reduceAdd] at hx1
      go_upto_region 6 with (fail)
      rw [← hx1]
      clear fz v0 v1 v2 v3 v4 v5 v6 v7 v8 v9 v10 v11 v12 v13 v14 v15 v16 v17 v18 y0 y1 y2 y3 y4 y5 y6 y7 y8 y9 y10
      clear hx1 HQ HQB
      have HQ := HQ'
      have HQB := HQB'
      clear HQ' HQB'
      have yb := HL.out.below HQB.out
      have y0 := yb.at 0 rfl
      have y1 := yb.at 1 rfl
      have y2 := yb.at 2 rfl
      have y3 := yb.at 3 rfl
      have y4 := yb.at 4 rfl
      have y5 := yb.at 5 rfl
      have y6 := yb.at 6 rfl
      have y7 := yb.at 7 rfl
      have y8 := yb.at 8 rfl
      have y9 := yb.at 9 rfl
      have y10 := yb.at 10 rfl
      clear yb
      have hli := Lie.of HQ.out
      have v0 := hli.at 0 rfl
      have v1 := hli.at 1 rfl
      have v2 := hli.at 2 rfl
      have v3 := hli.at 3 rfl
      have v4 := hli.at 4 rfl
      have v5 := hli.at 5 rfl
      have v6 := hli.at 6 rfl
      have v7 := hli.at 7 rfl
      have v8 := hli.at 8 rfl
      have v9 := hli.at 9 rfl
      have v10 := hli.at 10 rfl
      have v11 := hli.at 11 rfl
      have v12 := hli.at 12 rfl
      have v13 := hli.at 13 rfl
      have v14 := hli.at 14 rfl
      have v15 := hli.at 15 rfl
      have v16 := hli.at 16 rfl
      have v17 := hli.at 17 rfl
      have v18 := hli.at 18 rfl
      clear hli
      have fz := fun i => frozen_of_row x1 bv i _ _ HQ.out
      obtain ⟨x2, hx2⟩ : ∃ X, X = setL x1 bv 3 [.int .i64 sn] := ⟨_, rfl⟩
      have HQ' := Lib.hid (show x2.heap[bv]? = some (.cells #[.int .i64 ((k : Nat)), .int .i64 (sr), .int .i64 (sc), .int .i64 (sn), .int .i32 x.ru, .int .i32 x.m0, .int .i32 x.m1, .int .u8 x.k, .int .u8 x.a.fg.k, .int .u8 x.a.fg.r, .int .u8 x.a.fg.g, .int .u8 x.a.fg.b, .int .u8 x.a.bg.k, .int .u8 x.a.bg.r, .int .u8 x.a.bg.g, .int .u8 x.a.bg.b, .int .u16 (x.a.fl : Nat), .int .u8 x.l, .int .i32 769] 79 (0, 0)) by rw [hx2]; exact setL_at [.int .i64 sn] HQ.out (by simp) rfl)
      have HQB' := Lib.hid (show Below w0.heap.size w0 x2 by rw [hx2]; exact HQB.out.trans ((setL_but [.int .i64 sn]).below HVB.out HQB.out.size))
      simp only [setL] at hx2
      go_upto_region 7 with (fail)
      rw [← hx2]
      clear fz v0 v1 v2 v3 v4 v5 v6 v7 v8 v9 v10 v11 v12 v13 v14 v15 v16 v17 v18 y0 y1 y2 y3 y4 y5 y6 y7 y8 y9 y10
      clear hx2 HQ HQB
      have HQ := HQ'
      have HQB := HQB'
      clear HQ' HQB'
      have HE := Lib.hid (show actV s n m = .agg #[.int .i64 ((k : Nat)), .int .i64 (sr), .int .i64 (sc), .int .i64 (sn), .int .i32 x.ru, .int .i32 x.m0, .int .i32 x.m1, .int .u8 x.k, .int .u8 x.a.fg.k, .int .u8 x.a.fg.r, .int .u8 x.a.fg.g, .int .u8 x.a.fg.b, .int .u8 x.a.bg.k, .int .u8 x.a.bg.r, .int .u8 x.a.bg.g, .int .u8 x.a.bg.b, .int .u16 (x.a.fl : Nat), .int .u8 x.l, .int .i32 769] by unfold actV actA; rw [HXE.out, ← HEQ.out.1, HSR.out.1 ho, HSR.out.2.1 ho, HSR.out.2.2 ho])
      have h6 := (HQB.out.block b6 (by have := HB6.out; omega)).trans HZ6.out
      have HQE := Lib.hid (setRow_heap x2 b6 _ #[.int .i64 ((k : Nat)), .int .i64 (sr), .int .i64 (sc), .int .i64 (sn), .int .i32 x.ru, .int .i32 x.m0, .int .i32 x.m1, .int .u8 x.k, .int .u8 x.a.fg.k, .int .u8 x.a.fg.r, .int .u8 x.a.fg.g, .int .u8 x.a.fg.b, .int .u8 x.a.bg.k, .int .u8 x.a.bg.r, .int .u8 x.a.bg.g, .int .u8 x.a.bg.b, .int .u16 (x.a.fl : Nat), .int .u8 x.l, .int .i32 769] _ _ h6)
      have HBE := Lib.hid (show Below w.heap.size w (x2.setRow b6 #[.int .i64 ((k : Nat)), .int .i64 (sr), .int .i64 (sc), .int .i64 (sn), .int .i32 x.ru, .int .i32 x.m0, .int .i32 x.m1, .int .u8 x.k, .int .u8 x.a.fg.k, .int .u8 x.a.fg.r, .int .u8 x.a.fg.g, .int .u8 x.a.fg.b, .int .u8 x.a.bg.k, .int .u8 x.a.bg.r, .int .u8 x.a.bg.g, .int .u8 x.a.bg.b, .int .u16 (x.a.fl : Nat), .int .u8 x.l, .int .i32 769]) from (HB0.out.trans (HQB.out.mono HB0.out.size)).trans ((But.setRow x2 b6 #[.int .i64 ((k : Nat)), .int .i64 (sr), .int .i64 (sc), .int .i64 (sn), .int .i32 x.ru, .int .i32 x.m0, .int .i32 x.m1, .int .u8 x.k, .int .u8 x.a.fg.k, .int .u8 x.a.fg.r, .int .u8 x.a.fg.g, .int .u8 x.a.fg.b, .int .u8 x.a.bg.k, .int .u8 x.a.bg.r, .int .u8 x.a.bg.g, .int .u8 x.a.bg.b, .int .u16 (x.a.fl : Nat), .int .u8 x.l, .int .i32 769]).below (by have := HB6.out; omega) (Nat.le_trans HB0.out.size HQB.out.size)))
      refine wp_region_lit ?_
      refine wpList_load_row rfl 79 (.tmp 7) rfl bv rfl 79 #[.int .i64 ((k : Nat)), .int .i64 (sr), .int .i64 (sc), .int .i64 (sn), .int .i32 x.ru, .int .i32 x.m0, .int .i32 x.m1, .int .u8 x.k, .int .u8 x.a.fg.k, .int .u8 x.a.fg.r, .int .u8 x.a.fg.g, .int .u8 x.a.fg.b, .int .u8 x.a.bg.k, .int .u8 x.a.bg.r, .int .u8 x.a.bg.g, .int .u8 x.a.bg.b, .int .u16 (x.a.fl : Nat), .int .u8 x.l, .int .i32 769] _ _ HQ.out Tryz.underlying79 rfl (by kernel_rfl) ?_
      try go_frame
      refine wpList_store_row rfl 79 (.tmp 6) (.tmp 54) rfl b6 #[.int .i64 ((k : Nat)), .int .i64 (sr), .int .i64 (sc), .int .i64 (sn), .int .i32 x.ru, .int .i32 x.m0, .int .i32 x.m1, .int .u8 x.k, .int .u8 x.a.fg.k, .int .u8 x.a.fg.r, .int .u8 x.a.fg.g, .int .u8 x.a.fg.b, .int .u8 x.a.bg.k, .int .u8 x.a.bg.r, .int .u8 x.a.bg.g, .int .u8 x.a.bg.b, .int .u16 (x.a.fl : Nat), .int .u8 x.l, .int .i32 769] rfl rfl 79 _ h6 (by kernel_rfl) rfl (by simp [Value.oneCell']) ?_
      obtain ⟨xe, hxe⟩ : ∃ X, X = x2.setRow b6 #[.int .i64 ((k : Nat)), .int .i64 (sr), .int .i64 (sc), .int .i64 (sn), .int .i32 x.ru, .int .i32 x.m0, .int .i32 x.m1, .int .u8 x.k, .int .u8 x.a.fg.k, .int .u8 x.a.fg.r, .int .u8 x.a.fg.g, .int .u8 x.a.fg.b, .int .u8 x.a.bg.k, .int .u8 x.a.bg.r, .int .u8 x.a.bg.g, .int .u8 x.a.bg.b, .int .u16 (x.a.fl : Nat), .int .u8 x.l, .int .i32 769] := ⟨_, rfl⟩
      rw [← hxe] at HQE HBE ⊢
      clear hxe h6
      go_wp2
      rw [HE.out]
      exact bodyPost_ret (v := .agg #[.int .i64 ((k : Nat)), .int .i64 (sr), .int .i64 (sc), .int .i64 (sn), .int .i32 x.ru, .int .i32 x.m0, .int .i32 x.m1, .int .u8 x.k, .int .u8 x.a.fg.k, .int .u8 x.a.fg.r, .int .u8 x.a.fg.g, .int .u8 x.a.fg.b, .int .u8 x.a.bg.k, .int .u8 x.a.bg.r, .int .u8 x.a.bg.g, .int .u8 x.a.bg.b, .int .u16 (x.a.fl : Nat), .int .u8 x.l, .int .i32 769]) (results_cell_row rfl _ _ b6 79 _ _ _ rfl HQE.out Tryz.underlying79 rfl (by kernel_rfl)) rfl ⟨rfl, HBE.out⟩
    | false => as_aux_lemma =>
      have hk2 : ¬ (k : Int) < 2 := by omega
      obtain ⟨x, hx⟩ : ∃ x, x = bl := ⟨_, rfl⟩
      have HXE := Lib.hid (show actX s = x by unfold actX; rw [← HEQ.out.1, if_neg (by omega), hx, HBL.out])
      rw [← hx] at HQ
      clear hx
      have hli := Lie.of HQ.out
      have v0 := hli.at 0 rfl
      have v1 := hli.at 1 rfl
      have v2 := hli.at 2 rfl
      have v3 := hli.at 3 rfl
      have v4 := hli.at 4 rfl
      have v5 := hli.at 5 rfl
      have v6 := hli.at 6 rfl
      have v7 := hli.at 7 rfl
      have v8 := hli.at 8 rfl
      have v9 := hli.at 9 rfl
      have v10 := hli.at 10 rfl
      have v11 := hli.at 11 rfl
      have v12 := hli.at 12 rfl
      have v13 := hli.at 13 rfl
      have v14 := hli.at 14 rfl
      have v15 := hli.at 15 rfl
      have v16 := hli.at 16 rfl
      have v17 := hli.at 17 rfl
      have v18 := hli.at 18 rfl
      clear hli
      have fz := fun i => frozen_of_row wc bv i _ _ HQ.out
      have yb := HL.out.below HQB.out
      have y0 := yb.at 0 rfl
      have y1 := yb.at 1 rfl
      have y2 := yb.at 2 rfl
      have y3 := yb.at 3 rfl
      have y4 := yb.at 4 rfl
      have y5 := yb.at 5 rfl
      have y6 := yb.at 6 rfl
      have y7 := yb.at 7 rfl
      have y8 := yb.at 8 rfl
      have y9 := yb.at 9 rfl
      have y10 := yb.at 10 rfl
      clear yb
      go_upto_region 4 with (fail)
      clear fz v0 v1 v2 v3 v4 v5 v6 v7 v8 v9 v10 v11 v12 v13 v14 v15 v16 v17 v18 y0 y1 y2 y3 y4 y5 y6 y7 y8 y9 y10
      have yb := HL.out.below HQB.out
      have y0 := yb.at 0 rfl
      have y1 := yb.at 1 rfl
      have y2 := yb.at 2 rfl
      have y3 := yb.at 3 rfl
      have y4 := yb.at 4 rfl
      have y5 := yb.at 5 rfl
      have y6 := yb.at 6 rfl
      have y7 := yb.at 7 rfl
      have y8 := yb.at 8 rfl
      have y9 := yb.at 9 rfl
      have y10 := yb.at 10 rfl
      clear yb
      have hli := Lie.of HQ.out
      have v0 := hli.at 0 rfl
      have v1 := hli.at 1 rfl
      have v2 := hli.at 2 rfl
      have v3 := hli.at 3 rfl
      have v4 := hli.at 4 rfl
      have v5 := hli.at 5 rfl
      have v6 := hli.at 6 rfl
      have v7 := hli.at 7 rfl
      have v8 := hli.at 8 rfl
      have v9 := hli.at 9 rfl
      have v10 := hli.at 10 rfl
      have v11 := hli.at 11 rfl
      have v12 := hli.at 12 rfl
      have v13 := hli.at 13 rfl
      have v14 := hli.at 14 rfl
      have v15 := hli.at 15 rfl
      have v16 := hli.at 16 rfl
      have v17 := hli.at 17 rfl
      have v18 := hli.at 18 rfl
      clear hli
      have fz := fun i => frozen_of_row wc bv i _ _ HQ.out
      rw [ho] at y10
      go_upto_region 7 with (fail)
      clear fz v0 v1 v2 v3 v4 v5 v6 v7 v8 v9 v10 v11 v12 v13 v14 v15 v16 v17 v18 y0 y1 y2 y3 y4 y5 y6 y7 y8 y9 y10
      have HE := Lib.hid (show actV s n m = .agg #[.int .i64 ((k : Nat)), .int .i64 ((r0 : Nat)), .int .i64 ((c0 : Nat)), .int .i64 ((n0 : Nat)), .int .i32 x.ru, .int .i32 x.m0, .int .i32 x.m1, .int .u8 x.k, .int .u8 x.a.fg.k, .int .u8 x.a.fg.r, .int .u8 x.a.fg.g, .int .u8 x.a.fg.b, .int .u8 x.a.bg.k, .int .u8 x.a.bg.r, .int .u8 x.a.bg.g, .int .u8 x.a.bg.b, .int .u16 (x.a.fl : Nat), .int .u8 x.l, .int .i32 769] by unfold actV actA actR actC actN; rw [HXE.out, ho, HEQ.out.1, HEQ.out.2.1, HEQ.out.2.2.1, HEQ.out.2.2.2]; rfl)
      have h6 := (HQB.out.block b6 (by have := HB6.out; omega)).trans HZ6.out
      have HQE := Lib.hid (setRow_heap wc b6 _ #[.int .i64 ((k : Nat)), .int .i64 ((r0 : Nat)), .int .i64 ((c0 : Nat)), .int .i64 ((n0 : Nat)), .int .i32 x.ru, .int .i32 x.m0, .int .i32 x.m1, .int .u8 x.k, .int .u8 x.a.fg.k, .int .u8 x.a.fg.r, .int .u8 x.a.fg.g, .int .u8 x.a.fg.b, .int .u8 x.a.bg.k, .int .u8 x.a.bg.r, .int .u8 x.a.bg.g, .int .u8 x.a.bg.b, .int .u16 (x.a.fl : Nat), .int .u8 x.l, .int .i32 769] _ _ h6)
      have HBE := Lib.hid (show Below w.heap.size w (wc.setRow b6 #[.int .i64 ((k : Nat)), .int .i64 ((r0 : Nat)), .int .i64 ((c0 : Nat)), .int .i64 ((n0 : Nat)), .int .i32 x.ru, .int .i32 x.m0, .int .i32 x.m1, .int .u8 x.k, .int .u8 x.a.fg.k, .int .u8 x.a.fg.r, .int .u8 x.a.fg.g, .int .u8 x.a.fg.b, .int .u8 x.a.bg.k, .int .u8 x.a.bg.r, .int .u8 x.a.bg.g, .int .u8 x.a.bg.b, .int .u16 (x.a.fl : Nat), .int .u8 x.l, .int .i32 769]) from (HB0.out.trans (HQB.out.mono HB0.out.size)).trans ((But.setRow wc b6 #[.int .i64 ((k : Nat)), .int .i64 ((r0 : Nat)), .int .i64 ((c0 : Nat)), .int .i64 ((n0 : Nat)), .int .i32 x.ru, .int .i32 x.m0, .int .i32 x.m1, .int .u8 x.k, .int .u8 x.a.fg.k, .int .u8 x.a.fg.r, .int .u8 x.a.fg.g, .int .u8 x.a.fg.b, .int .u8 x.a.bg.k, .int .u8 x.a.bg.r, .int .u8 x.a.bg.g, .int .u8 x.a.bg.b, .int .u16 (x.a.fl : Nat), .int .u8 x.l, .int .i32 769]).below (by have := HB6.out; omega) (Nat.le_trans HB0.out.size HQB.out.size)))
      refine wp_region_lit ?_
      refine wpList_load_row rfl 79 (.tmp 7) rfl bv rfl 79 #[.int .i64 ((k : Nat)), .int .i64 ((r0 : Nat)), .int .i64 ((c0 : Nat)), .int .i64 ((n0 : Nat)), .int .i32 x.ru, .int .i32 x.m0, .int .i32 x.m1, .int .u8 x.k, .int .u8 x.a.fg.k, .int .u8 x.a.fg.r, .int .u8 x.a.fg.g, .int .u8 x.a.fg.b, .int .u8 x.a.bg.k, .int .u8 x.a.bg.r, .int .u8 x.a.bg.g, .int .u8 x.a.bg.b, .int .u16 (x.a.fl : Nat), .int .u8 x.l, .int .i32 769] _ _ HQ.out Tryz.underlying79 rfl (by kernel_rfl) ?_
      try go_frame
      refine wpList_store_row rfl 79 (.tmp 6) (.tmp 54) rfl b6 #[.int .i64 ((k : Nat)), .int .i64 ((r0 : Nat)), .int .i64 ((c0 : Nat)), .int .i64 ((n0 : Nat)), .int .i32 x.ru, .int .i32 x.m0, .int .i32 x.m1, .int .u8 x.k, .int .u8 x.a.fg.k, .int .u8 x.a.fg.r, .int .u8 x.a.fg.g, .int .u8 x.a.fg.b, .int .u8 x.a.bg.k, .int .u8 x.a.bg.r, .int .u8 x.a.bg.g, .int .u8 x.a.bg.b, .int .u16 (x.a.fl : Nat), .int .u8 x.l, .int .i32 769] rfl rfl 79 _ h6 (by kernel_rfl) rfl (by simp [Value.oneCell']) ?_
      obtain ⟨xe, hxe⟩ : ∃ X, X = wc.setRow b6 #[.int .i64 ((k : Nat)), .int .i64 ((r0 : Nat)), .int .i64 ((c0 : Nat)), .int .i64 ((n0 : Nat)), .int .i32 x.ru, .int .i32 x.m0, .int .i32 x.m1, .int .u8 x.k, .int .u8 x.a.fg.k, .int .u8 x.a.fg.r, .int .u8 x.a.fg.g, .int .u8 x.a.fg.b, .int .u8 x.a.bg.k, .int .u8 x.a.bg.r, .int .u8 x.a.bg.g, .int .u8 x.a.bg.b, .int .u16 (x.a.fl : Nat), .int .u8 x.l, .int .i32 769] := ⟨_, rfl⟩
      rw [← hxe] at HQE HBE ⊢
      clear hxe h6
      go_wp2
      rw [HE.out]
      exact bodyPost_ret (v := .agg #[.int .i64 ((k : Nat)), .int .i64 ((r0 : Nat)), .int .i64 ((c0 : Nat)), .int .i64 ((n0 : Nat)), .int .i32 x.ru, .int .i32 x.m0, .int .i32 x.m1, .int .u8 x.k, .int .u8 x.a.fg.k, .int .u8 x.a.fg.r, .int .u8 x.a.fg.g, .int .u8 x.a.fg.b, .int .u8 x.a.bg.k, .int .u8 x.a.bg.r, .int .u8 x.a.bg.g, .int .u8 x.a.bg.b, .int .u16 (x.a.fl : Nat), .int .u8 x.l, .int .i32 769]) (results_cell_row rfl _ _ b6 79 _ _ _ rfl HQE.out Tryz.underlying79 rfl (by kernel_rfl)) rfl ⟨rfl, HBE.out⟩
end Go.Proofs.YtdeahnphcfcfpaaGreat.Lab
