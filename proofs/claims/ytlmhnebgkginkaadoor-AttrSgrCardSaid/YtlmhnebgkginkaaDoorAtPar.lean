/- The parameters of an attribute, as numbers and as bytes. -/
import Derived.Test.YtlmhnebgkginkaaDoorAtColor
import Derived.Test.YtlmhnebgkginkaaDoorAtPieces
import Derived.Laws.AppendOwnNone
import Derived.Deep.CutBlock
import Derived.Deep.DeepCutAuto
namespace Go.Proofs.YtlmhnebgkginkaaDoor.Lab
open Go Go.RowKit

def tellM (c : Cl) (more : Int) : List Int := if c.k = 2 then [38 + more, 2, c.r, c.g, c.b] else if c.k = 1 then (if c.r < 8 then [30 + more + c.r] else if c.r < 16 then [82 + more + c.r] else [38 + more, 5, c.r]) else []
def bitN : List (Nat × Int) := [(0, 1), (1, 2), (2, 3), (3, 4), (4, 5), (5, 7), (6, 8), (7, 9), (8, 21)]
def flagK (f k : Nat) : List Int := ((bitN.take k).filter fun p => f / 2 ^ p.1 % 2 == 1).map (·.2)
def numsM (a : At) : List Int := 0 :: (flagK a.fl 9 ++ tellM a.fg 0 ++ tellM a.bg 10)
def paramsM (a : At) : Rws := (numsM a).map fun x => [x]
theorem flagK_succ (f k : Nat) (h : k < bitN.length) : flagK f (k + 1) = flagK f k ++ (if f / 2 ^ bitN[k].1 % 2 = 1 then [bitN[k].2] else []) := by
  unfold flagK
  rw [List.take_succ_eq_append_getElem h, List.filter_append, List.map_append]
  congr 1
  by_cases hb : f / 2 ^ bitN[k].1 % 2 = 1
  · rw [if_pos hb, List.filter_cons, if_pos (by simpa using hb)]
    rfl
  · rw [if_neg hb, List.filter_cons, if_neg (by simpa using hb)]
    rfl
theorem flagK_len (f : Nat) : ∀ k, (flagK f k).length ≤ k := by
  intro k
  unfold flagK
  rw [List.length_map]
  have h1 := List.length_filter_le (fun p : Nat × Int => f / 2 ^ p.1 % 2 == 1) (bitN.take k)
  rw [List.length_take] at h1
  omega
theorem tellM_len (c : Cl) (more : Int) : (tellM c more).length ≤ 5 := by
  unfold tellM
  repeat' split
  all_goals simp
def IRow (w : World) (lo : Nat) (v : Value) (l : List Int) : Prop := w.ownsRow lo 3 1 v l.length (intsV l)
theorem IRow.below {w w' : World} {lo : Nat} {v : Value} {l : List Int} (h : IRow w lo v l) (hb : Below w.heap.size w w') : IRow w' lo v l := own_below h hb
theorem IRow.shape {w : World} {lo : Nat} {v : Value} {l : List Int} (h : IRow w lo v l) : ∃ a c, v = .slice a l.length c := by
  rcases h.2 with ⟨rfl, h0⟩ | ⟨g, cap, cur, rfl, _⟩
  · exact ⟨none, 0, by rw [h0]⟩
  · exact ⟨_, cap, rfl⟩
theorem IRow.lit (w : World) (l : List Int) (n b : Nat) (hn : n = l.length) (hb : b = w.heap.size) (hl : l.length ≤ 1000) : IRow (w.alloc (.cells (intsV l).toArray 3)) w.heap.size (.slice (some ⟨b, 0, none⟩) n n) l := by
  subst hn hb
  have := World.ownsRow_lit (base := w.heap.size) (e := 3) (size := 1) w (intsV l).toArray l.length (Nat.le_refl _) (by unfold maxLen; omega) (by simp)
  simpa [IRow] using this
theorem IRow.cell {w : World} {lo n c : Nat} {a : Option Addr} {l : List Int} (h : IRow w lo (.slice a n c) l) (h0 : 0 < l.length) : ∃ g, a = some ⟨g, 0, none⟩ ∧ g < w.heap.size ∧ ∀ j, j < l.length → w.cell? ⟨g, j, none⟩ = some (.int .i64 (l.getD j 0)) := by
  rcases h.2 with ⟨e, h1⟩ | ⟨g, cap, cur, e, _⟩
  · omega
  · injection e with e1 e2 e3
    subst e1
    refine ⟨g, rfl, (h.lt g rfl).2, fun j hj => ?_⟩
    have := h.cells (g := g) rfl j (.int .i64 (l.getD j 0)) (by rw [List.getElem?_map, List.getElem?_eq_getElem hj, List.getD_eq_getElem?_getD, List.getElem?_eq_getElem hj]; rfl)
    rwa [Addr.add_mid, Nat.zero_add] at this
theorem intsV_one (l : List Int) : ∀ u ∈ intsV l, u.oneCell' = true := by
  intro u hu
  obtain ⟨x, _, rfl⟩ := List.mem_map.1 hu
  rfl
theorem own_lower0 {w : World} {lo lo' n size : Nat} {e : TypeId} {v : Value} {xs : List Value} (h : w.ownsRow lo e size v n xs) (hl : lo' ≤ lo) : w.ownsRow lo' e size v n xs := by
  refine ⟨h.1, ?_⟩
  rcases h.2 with hn | ⟨g, cap, cur, e, hb, rest⟩
  · exact .inl hn
  · exact .inr ⟨g, cap, cur, e, Nat.le_trans hl hb, rest⟩
def TellOut (w : World) (l : List Int) (e : Ending) (w' : World) : Prop := ∃ v, e = .returned v ∧ IRow w' w.heap.size v l ∧ Below w.heap.size w w'
set_option maxHeartbeats 4000000 in
theorem telling_any (w : World) (c : Cl) (more : Nat) (hm : more ≤ 100) (hc : c.ok) : Calls Tryd.prog 38 #[colV c, .int .i64 (more : Nat)] w (TellOut w (tellM c more)) := by
  obtain ⟨⟨hk0, hk1⟩, ⟨hr0, hr1⟩, ⟨hg0, hg1⟩, ⟨hb0, hb1⟩⟩ := hc
  obtain ⟨w0, hw0⟩ : ∃ w0, w0 = w.alloc (.cells #[.int .u8 c.k, .int .u8 c.r, .int .u8 c.g, .int .u8 c.b] 23) := ⟨_, rfl⟩
  have b0 : Below w.heap.size w w0 := by rw [hw0]; exact (Below.refl _ _).alloc (Nat.le_refl _) _
  have HB := Lib.hid b0
  obtain ⟨y0, ⟨y1, y2, y3, y4⟩, yf⟩ : w.heap.size < w0.heap.size ∧ (w0.cell? ⟨w.heap.size, 0, none⟩ = some (.int .u8 c.k) ∧ w0.cell? ⟨w.heap.size, 1, none⟩ = some (.int .u8 c.r) ∧ w0.cell? ⟨w.heap.size, 2, none⟩ = some (.int .u8 c.g) ∧ w0.cell? ⟨w.heap.size, 3, none⟩ = some (.int .u8 c.b)) ∧ True := by
    rw [hw0]
    exact ⟨by simp, ⟨by simp, by simp, by simp, by simp⟩, trivial⟩
  obtain ⟨k, hk⟩ : ∃ k, k = c.k := ⟨_, rfl⟩
  obtain ⟨r, hr⟩ : ∃ r, r = c.r := ⟨_, rfl⟩
  obtain ⟨g, hg⟩ : ∃ g, g = c.g := ⟨_, rfl⟩
  obtain ⟨b, hb⟩ : ∃ b, b = c.b := ⟨_, rfl⟩
  have HT := Lib.hid (show tellM c more = if k = 2 then [38 + (more : Int), 2, r, g, b] else if k = 1 then (if r < 8 then [30 + (more : Int) + r] else if r < 16 then [82 + (more : Int) + r] else [38 + (more : Int), 5, r]) else [] by rw [hk, hr, hg, hb]; rfl)
  rw [← hk] at y1
  rw [← hr] at y2 hr0 hr1
  rw [← hg] at y3 hg0 hg1
  rw [← hb] at y4 hb0 hb1
  have e38 : IntKind.i64.wrap (38 + (more : Int)) = 38 + (more : Int) := by rw [IntKind.wrap_i64]; omega
  have e30 : IntKind.i64.wrap (30 + (more : Int)) = 30 + (more : Int) := by rw [IntKind.wrap_i64]; omega
  have e82 : IntKind.i64.wrap (82 + (more : Int)) = 82 + (more : Int) := by rw [IntKind.wrap_i64]; omega
  have e30r : IntKind.i64.wrap (30 + (more : Int) + r) = 30 + (more : Int) + r := by rw [IntKind.wrap_i64]; omega
  have e82r : IntKind.i64.wrap (82 + (more : Int) + r) = 82 + (more : Int) + r := by rw [IntKind.wrap_i64]; omega
  have er : IntKind.i64.wrap r = r := by rw [IntKind.wrap_i64]; omega
  have eg : IntKind.i64.wrap g = g := by rw [IntKind.wrap_i64]; omega
  have eb : IntKind.i64.wrap b = b := by rw [IntKind.wrap_i64]; omega
  have HLIT := Lib.hid (fun (l : List Int) (hl : l.length ≤ 1000) => IRow.lit w0 l l.length w0.heap.size rfl rfl hl)
  have HBL := Lib.hid (fun (o : Obj) => HB.out.alloc HB.out.size o)
  clear hk hr hg hb hk0 hk1
  by_cases h2 : k = 2
  · have HE := Lib.hid (show tellM c more = [38 + (more : Int), 2, r, g, b] by rw [HT.out, if_pos h2])
    subst h2
    go_enter Tryd.func38, Tryd.ntmps38
    go_upto_region 1 with (fail)
    rw [← hw0]
    clear hw0
    go_wp2
    go_ret
    exact ⟨_, rfl, by rw [HE.out]; exact own_lower0 (HLIT.out [38 + (more : Int), 2, r, g, b] (by simp)) HB.out.size, HBL.out _⟩
  have n2 : (k == 2) = false := by simp [h2]
  by_cases h1 : k = 1
  · subst h1
    by_cases h8 : r < 8
    · have HE := Lib.hid (show tellM c more = [30 + (more : Int) + r] by rw [HT.out, if_neg h2, if_pos rfl, if_pos h8])
      go_enter Tryd.func38, Tryd.ntmps38
      go_upto_region 1 with (fail)
      rw [← hw0]
      clear hw0
      go_wp2
      go_ret
      exact ⟨_, rfl, by rw [HE.out]; exact own_lower0 (HLIT.out [30 + (more : Int) + r] (by simp)) HB.out.size, HBL.out _⟩
    · have d8 : decide (r < 8) = false := by simp; omega
      by_cases h16 : r < 16
      · have HE := Lib.hid (show tellM c more = [82 + (more : Int) + r] by rw [HT.out, if_neg h2, if_pos rfl, if_neg h8, if_pos h16])
        go_enter Tryd.func38, Tryd.ntmps38
        go_upto_region 1 with (fail)
        rw [← hw0]
        clear hw0
        go_wp2
        go_ret
        exact ⟨_, rfl, by rw [HE.out]; exact own_lower0 (HLIT.out [82 + (more : Int) + r] (by simp)) HB.out.size, HBL.out _⟩
      · have d16 : decide (r < 16) = false := by simp; omega
        have HE := Lib.hid (show tellM c more = [38 + (more : Int), 5, r] by rw [HT.out, if_neg h2, if_pos rfl, if_neg h8, if_neg h16])
        go_enter Tryd.func38, Tryd.ntmps38
        go_upto_region 1 with (fail)
        rw [← hw0]
        clear hw0
        go_wp2
        go_ret
        exact ⟨_, rfl, by rw [HE.out]; exact own_lower0 (HLIT.out [38 + (more : Int), 5, r] (by simp)) HB.out.size, HBL.out _⟩
  have n1 : (k == 1) = false := by simp [h1]
  have n1' : (k != 1) = true := by simp [h1]
  have HE := Lib.hid (show tellM c more = [] by rw [HT.out, if_neg h2, if_neg h1])
  go_enter Tryd.func38, Tryd.ntmps38
  go_upto_region 1 with (fail)
  rw [← hw0]
  clear hw0
  go_wp2
  go_ret
  exact ⟨_, rfl, by rw [HE.out]; exact World.ownsRow_nil _ _ _ 1, HB.out⟩

/-- A row that is there, or none, appended to a row of the call's own. -/
theorem wp_append_row {P : Program} {o : Oper} {a : Act} {w : World} {K : Act → World → Prop} {Q : Exit → Act → World → Prop}
    (s x : Operand) (t : TypeId) (hop : o.op = Op.call { callee := Callee.builtin Builtin.append, args := #[s, x], argTypes := #[t, t] })
    (base : Nat) (e : TypeId) (i : TypeInfo) (z : Value) (size bytes : Nat) (h1 : P.underlying t = some (.slice e)) (h2 : P.info? e = some i) (h3 : i.zero = some z) (h4 : i.size = size) (h5 : i.bytes = bytes) (h6 : z.cells.size = size) (h7 : 0 < size)
    (v : Value) (n : Nat) (xs : List Value) (hs : a.eval s = v) (hown : w.ownsRow base e size v n xs)
    (base' m : Nat) (u : Value) (news : List Value) (hu : a.eval x = u) (hx : w.ownsRow base' e size u m news) (h1c : ∀ u ∈ news, u.oneCell' = true)
    (b1 : n + m ≤ maxLen) (b2 : (n + m) * bytes ≤ 140737488355328) (hb : base ≤ w.heap.size)
    (hK : ∀ v' w', w'.ownsRow base e size v' (n + m) (xs ++ news) → w.grownBy w' v.ownBlock → K (a.put o.dst v') w') :
    Oper.wp P o a w K Q := by
  have hn := hx.1
  rcases hx.2 with ⟨rfl, rfl⟩ | ⟨g, c, cur, rfl, _⟩
  · have hrun := run_append_owned_none (P := P) (w := w) base t o.type e i size h1 h2 v n xs hown
    have e0 : news = [] := List.eq_nil_of_length_eq_zero (by simpa using hn)
    unfold Oper.wp
    simp [execOp, hop, resolve, invoke, builtin, hs, hu, hrun, Result.andThen]
    exact hK v w (by simpa [e0] using hown) ⟨rfl, rfl, rfl, Nat.le_refl _, fun _ _ _ => rfl⟩
  · obtain ⟨v', w', hrun, r1, r2, _⟩ := run_append_own (P := P) w base t o.type e i z size bytes h1 h2 h3 h4 h5 h6 h7 v n xs hown ⟨g, 0, none⟩ m c news hn (hx.cells (g := g) rfl) h1c b1 b2 hb
    unfold Oper.wp
    simp [execOp, hop, resolve, invoke, builtin, hs, hu, hrun, Result.andThen]
    exact hK v' w' r1 r2

theorem wpList_append_row {P : Program} {ops : Array Oper} {rest : List Oper} {o : Oper} {a : Act} {w : World} {Q : Exit → Act → World → Prop} (hgd : o.guard = none)
    (s x : Operand) (t : TypeId) (hop : o.op = Op.call { callee := Callee.builtin Builtin.append, args := #[s, x], argTypes := #[t, t] })
    (base : Nat) (e : TypeId) (i : TypeInfo) (z : Value) (size bytes : Nat) (h1 : P.underlying t = some (.slice e)) (h2 : P.info? e = some i) (h3 : i.zero = some z) (h4 : i.size = size) (h5 : i.bytes = bytes) (h6 : z.cells.size = size) (h7 : 0 < size)
    (v : Value) (n : Nat) (xs : List Value) (hs : a.eval s = v) (hown : w.ownsRow base e size v n xs)
    (base' m : Nat) (u : Value) (news : List Value) (hu : a.eval x = u) (hx : w.ownsRow base' e size u m news) (h1c : ∀ u ∈ news, u.oneCell' = true)
    (b1 : n + m ≤ maxLen) (b2 : (n + m) * bytes ≤ 140737488355328) (hb : base ≤ w.heap.size)
    (hK : ∀ v' w', w'.ownsRow base e size v' (n + m) (xs ++ news) → w.grownBy w' v.ownBlock → wpList P ops Q rest (a.put o.dst v') w') :
    wpList P ops Q (o :: rest) a w :=
  wpList_plain hgd fun _ hK' => wp_append_row s x t hop base e i z size bytes h1 h2 h3 h4 h5 h6 h7 v n xs hs hown base' m u news hu hx h1c b1 b2 hb fun v' w' h2 h3 => hK' _ _ (hK v' w' h2 h3)

theorem bit_at (f P : Nat) (x : Int) (hf : f < 65536) (hx : x = ((f / P : Nat) : Int)) : bits .and .u16 x 1 = ((f / P % 2 : Nat) : Int) := by
  subst hx
  have h : f / P < 65536 := Nat.lt_of_le_of_lt (Nat.div_le_self _ _) hf
  rw [← Nat.and_one_is_mod]
  exact u16_and_nat (f / P) 1 h (by decide)
theorem infoInt : (Tryd.prog.info? 3).map (fun i => (i.zero, i.size, i.bytes)) = some (some (.int .i64 0), 1, 8) := by kernel_rfl
abbrev nineV : Value := .agg #[.int .i64 1, .int .i64 2, .int .i64 3, .int .i64 4, .int .i64 5, .int .i64 7, .int .i64 8, .int .i64 9, .int .i64 21]
theorem IntsAt.litA (w : World) (lo n b : Nat) (r : List Int) (hn : n = r.length) (hb : b = w.heap.size) (hlo : lo ≤ w.heap.size) (hm : r.length ≤ maxLen) : IntsAt (w.alloc (.cells (intsV r).toArray 3)) lo (.slice (some ⟨b, 0, none⟩) n n) r := by
  subst hn hb
  refine ⟨?_, by simp⟩
  have := World.ownsRow_lit (base := lo) (e := 3) (size := 1) w (intsV r).toArray r.length hlo hm (by simp)
  simpa using this
theorem own_apart0 {w w' : World} {lo base s s' n n' : Nat} {e e' : TypeId} {v u : Value} {xs xs' : List Value} (ne : e ≠ e') (h : w.ownsRow lo e s v n xs) (ho : w.ownsRow base e' s' u n' xs') (hg : w.grownBy w' u.ownBlock) : w'.ownsRow lo e s v n xs := by
  rcases h.2 with ⟨rfl, h0⟩ | ⟨g, cap, cur, rfl, _, hc, _⟩
  · exact ⟨h.1, .inl ⟨rfl, h0⟩⟩
  · refine h.kept hg (.inr fun e => ?_)
    rcases ho.2 with ⟨rfl, _⟩ | ⟨g', cap', cur', rfl, _, hg', _⟩
    · simp [Value.ownBlock] at e
    · simp [Value.ownBlock] at e
      subst e
      rw [hc] at hg'
      simp at hg'
      exact ne hg'.2
def ParOut (w : World) (R : Rws) (e : Ending) (w' : World) : Prop := ∃ v, e = .returned v ∧ RowsAt w' w.heap.size v R ∧ Below w.heap.size w w'
set_option maxHeartbeats 4000000 in
set_option maxRecDepth 100000 in
theorem params_any (w : World) (a : At) (ha : a.ok) : Calls Tryd.prog 19 #[attV a] w (ParOut w (paramsM a)) := by
  obtain ⟨w0, hw0⟩ : ∃ w0, w0 = w.alloc (.cells #[.int .u8 a.fg.k, .int .u8 a.fg.r, .int .u8 a.fg.g, .int .u8 a.fg.b, .int .u8 a.bg.k, .int .u8 a.bg.r, .int .u8 a.bg.g, .int .u8 a.bg.b, .int .u16 (a.fl : Nat)] 26) := ⟨_, rfl⟩
  have b0 : Below w.heap.size w w0 := by rw [hw0]; exact (Below.refl _ _).alloc (Nat.le_refl _) _
  have hA0 : AtAt w0 w.heap.size a := by rw [hw0]; exact AtAt.newAt w _ rfl a _
  obtain ⟨w1, hw1⟩ : ∃ w1, w1 = w0.alloc (.cells #[.int .i64 0] 3) := ⟨_, rfl⟩
  have b1 : Below w0.heap.size w0 w1 := by rw [hw1]; exact (Below.refl _ _).alloc (Nat.le_refl _) _
  have HA := Lib.hid (hA0.below b1)
  have HB := Lib.hid (b0.trans (b1.mono b0.size))
  have HI := Lib.hid (show IRow w1 (w.heap.size + 1) (.slice (some ⟨w.heap.size + 1, 0, none⟩) 1 1) (0 :: flagK a.fl 0) by rw [hw1]; exact own_lower0 (IRow.lit w0 [0] 1 (w.heap.size + 1) rfl (by rw [hw0]; simp) (by decide)) (by rw [hw0]; simp))
  have HOK := Lib.hid ha
  obtain ⟨ib, hi, hz0, hz1, hz2⟩ := info_parts infoInt
  obtain ⟨jb, ji, jz0, jz1, jz2⟩ := info_parts infoRow
  have x0 : ∀ w : World, (Instr.index 74 nineV (.int .i64 0)).run Tryd.prog w = .ok (.int .i64 1) w := fun _ => by kernel_rfl
  have x1 : ∀ w : World, (Instr.index 74 nineV (.int .i64 1)).run Tryd.prog w = .ok (.int .i64 2) w := fun _ => by kernel_rfl
  have x2 : ∀ w : World, (Instr.index 74 nineV (.int .i64 2)).run Tryd.prog w = .ok (.int .i64 3) w := fun _ => by kernel_rfl
  have x3 : ∀ w : World, (Instr.index 74 nineV (.int .i64 3)).run Tryd.prog w = .ok (.int .i64 4) w := fun _ => by kernel_rfl
  have x4 : ∀ w : World, (Instr.index 74 nineV (.int .i64 4)).run Tryd.prog w = .ok (.int .i64 5) w := fun _ => by kernel_rfl
  have x5 : ∀ w : World, (Instr.index 74 nineV (.int .i64 5)).run Tryd.prog w = .ok (.int .i64 7) w := fun _ => by kernel_rfl
  have x6 : ∀ w : World, (Instr.index 74 nineV (.int .i64 6)).run Tryd.prog w = .ok (.int .i64 8) w := fun _ => by kernel_rfl
  have x7 : ∀ w : World, (Instr.index 74 nineV (.int .i64 7)).run Tryd.prog w = .ok (.int .i64 9) w := fun _ => by kernel_rfl
  have x8 : ∀ w : World, (Instr.index 74 nineV (.int .i64 8)).run Tryd.prog w = .ok (.int .i64 21) w := fun _ => by kernel_rfl
  have HX := Lib.hid (show True from trivial)
  clear b0 b1 hA0 ha
  go_enter Tryd.func19, Tryd.ntmps19
  go_upto_region 2 with (fail)
  rw [← hw0, ← hw1]
  clear hw0 hw1
  go_wp2
  go_loopw [3, 11] (fun v i wr => ∃ k : Nat, k ≤ 9 ∧ i = .int .i64 k ∧ Hid (IRow wr (w.heap.size + 1) v (0 :: flagK a.fl k)) ∧ Hid (AtAt wr w.heap.size a) ∧ Hid (Below w.heap.size w wr)) (fun _ i _ => 9 - (intOf i).toNat)
  case atStart => exact ⟨0, Nat.zero_le _, rfl, HI, HA, HB⟩
  case round =>
    obtain ⟨k, hk, rfl, HI, HA, HB⟩ := hrel
    by_cases hlt : k < 9
    · have hfl : a.fl < 65536 := HOK.out.2.2
      obtain ⟨f, hf⟩ : ∃ f, f = a.fl := ⟨_, rfl⟩
      have HF := Lib.hid hf
      have a8 := HA.out.2.1.2.2.2.2.2.2.2.2
      rw [← hf] at a8 hfl HI
      have hlen := flagK_len f k
      obtain ⟨ad, cc, rfl⟩ := HI.out.shape
      obtain ⟨l0, hl0⟩ : ∃ l0, l0 = 0 :: flagK f k := ⟨_, rfl⟩
      have hl1 : l0.length ≤ 20 := by rw [hl0]; simp; omega
      have HL0 := Lib.hid hl0
      rw [← hl0] at HI
      obtain ⟨nl, hnl⟩ : ∃ nl, nl = l0.length := ⟨_, rfl⟩
      have hI0 : wr.ownsRow (w.heap.size + 1) 3 1 (.slice ad nl cc) nl (intsV l0) := by rw [hnl]; exact HI.out
      have HNL := Lib.hid hnl
      have hnl2 : nl ≤ 20 := by omega
      have hls : (0 :: flagK f k).length = nl := by rw [hnl, hl0]
      rw [hls]
      clear hf hl0 hnl hl1 hlen hls
      have hc : k = 0 ∨ k = 1 ∨ k = 2 ∨ k = 3 ∨ k = 4 ∨ k = 5 ∨ k = 6 ∨ k = 7 ∨ k = 8 := by omega
      rcases hc with rfl | rfl | rfl | rfl | rfl | rfl | rfl | rfl | rfl
      · have HS := Lib.hid (show flagK f 1 = flagK f 0 ++ (if f / 1 % 2 = 1 then [1] else []) from flagK_succ f 0 (by decide))
        have hq : bits .and .u16 (f : Int) 1 = ((f / 1 % 2 : Nat) : Int) := bit_at f 1 (f : Int) hfl (by omega)
        rcases Nat.mod_two_eq_zero_or_one (f / 1) with hm | hm
        · have hq' : (bits .and .u16 (f : Int) 1 == 1) = false := by rw [hq, hm]; rfl
          have HIN := Lib.hid (show IRow wr (w.heap.size + 1) (.slice ad nl cc) (0 :: flagK a.fl 1) by
            have e : flagK f 1 = flagK f 0 := by rw [HS.out, if_neg (by omega), List.append_nil]
            rw [← HF.out, e, ← HL0.out]
            unfold IRow
            rw [← HNL.out]
            exact hI0)
          clear hq hm HS hI0 HI
          go_wp2
          go_roundw
          case rel => exact ⟨1, by omega, by go_num, HIN, HA, HB⟩
          case measure => simp [intOf]
        · have hq' : (bits .and .u16 (f : Int) 1 == 1) = true := by rw [hq, hm]; rfl
          clear hq
          go_wp2_with (at_builtin; refine wpList_append_own _ rfl (.tmp 21) (.tmp 23) 50 rfl (w.heap.size + 1) 3 ib (.int .i64 0) 1 8 Tryd.underlying50 hi hz0 hz1 hz2 rfl (by decide) (.slice ad nl cc) nl (intsV l0) rfl (hI0.alloc _) ⟨wr.heap.size, 0, none⟩ 1 1 [.int .i64 1] rfl rfl ?c1 ?c2 ?c3 ?c4 ?c5 ?_)
          case c1 => exact new_cells wr [.int .i64 1] 3 _ rfl
          case c2 => simp [Value.oneCell']
          case c3 => unfold maxLen; omega
          case c4 => omega
          case c5 => have := HA.out.1; simp; omega
          intro v' w2 own2 grow2 _
          have b2 : Below w.heap.size w w2 := (HB.out.alloc HB.out.size _).grown grow2 (by have := HB.out.size; simp; omega) (fun j hj => Nat.le_of_succ_le (hI0.lt j hj).1)
          have HIN := Lib.hid (show IRow w2 (w.heap.size + 1) v' (0 :: flagK a.fl 1) by
            have e : (0 :: flagK f 1) = l0 ++ [1] := by rw [HS.out, if_pos hm, HL0.out]; rfl
            rw [← HF.out, e]
            unfold IRow
            rw [List.length_append, ← HNL.out]
            simpa [intsV] using own2)
          have HAN := Lib.hid (show AtAt w2 w.heap.size a from (HA.out.past _).same grow2.size (grow2.block _ (by have := HA.out.1; simp; omega) (fun e => by have := (hI0.lt _ e.symm).1; omega)))
          have HB2 := Lib.hid b2
          clear own2 grow2 b2 hI0 HS hm HI
          go_wp2
          go_roundw
          case rel => exact ⟨1, by omega, by go_num, HIN, HAN, HB2⟩
          case measure => simp [intOf]
      · have HS := Lib.hid (show flagK f 2 = flagK f 1 ++ (if f / 2 % 2 = 1 then [2] else []) from flagK_succ f 1 (by decide))
        have hq : bits .and .u16 ((f : Int) / 2) 1 = ((f / 2 % 2 : Nat) : Int) := bit_at f 2 ((f : Int) / 2) hfl (by omega)
        rcases Nat.mod_two_eq_zero_or_one (f / 2) with hm | hm
        · have hq' : (bits .and .u16 ((f : Int) / 2) 1 == 1) = false := by rw [hq, hm]; rfl
          have HIN := Lib.hid (show IRow wr (w.heap.size + 1) (.slice ad nl cc) (0 :: flagK a.fl 2) by
            have e : flagK f 2 = flagK f 1 := by rw [HS.out, if_neg (by omega), List.append_nil]
            rw [← HF.out, e, ← HL0.out]
            unfold IRow
            rw [← HNL.out]
            exact hI0)
          clear hq hm HS hI0 HI
          go_wp2
          go_roundw
          case rel => exact ⟨2, by omega, by go_num, HIN, HA, HB⟩
          case measure => simp [intOf]
        · have hq' : (bits .and .u16 ((f : Int) / 2) 1 == 1) = true := by rw [hq, hm]; rfl
          clear hq
          go_wp2_with (at_builtin; refine wpList_append_own _ rfl (.tmp 21) (.tmp 23) 50 rfl (w.heap.size + 1) 3 ib (.int .i64 0) 1 8 Tryd.underlying50 hi hz0 hz1 hz2 rfl (by decide) (.slice ad nl cc) nl (intsV l0) rfl (hI0.alloc _) ⟨wr.heap.size, 0, none⟩ 1 1 [.int .i64 2] rfl rfl ?c1 ?c2 ?c3 ?c4 ?c5 ?_)
          case c1 => exact new_cells wr [.int .i64 2] 3 _ rfl
          case c2 => simp [Value.oneCell']
          case c3 => unfold maxLen; omega
          case c4 => omega
          case c5 => have := HA.out.1; simp; omega
          intro v' w2 own2 grow2 _
          have b2 : Below w.heap.size w w2 := (HB.out.alloc HB.out.size _).grown grow2 (by have := HB.out.size; simp; omega) (fun j hj => Nat.le_of_succ_le (hI0.lt j hj).1)
          have HIN := Lib.hid (show IRow w2 (w.heap.size + 1) v' (0 :: flagK a.fl 2) by
            have e : (0 :: flagK f 2) = l0 ++ [2] := by rw [HS.out, if_pos hm, HL0.out]; rfl
            rw [← HF.out, e]
            unfold IRow
            rw [List.length_append, ← HNL.out]
            simpa [intsV] using own2)
          have HAN := Lib.hid (show AtAt w2 w.heap.size a from (HA.out.past _).same grow2.size (grow2.block _ (by have := HA.out.1; simp; omega) (fun e => by have := (hI0.lt _ e.symm).1; omega)))
          have HB2 := Lib.hid b2
          clear own2 grow2 b2 hI0 HS hm HI
          go_wp2
          go_roundw
          case rel => exact ⟨2, by omega, by go_num, HIN, HAN, HB2⟩
          case measure => simp [intOf]
      · have HS := Lib.hid (show flagK f 3 = flagK f 2 ++ (if f / 4 % 2 = 1 then [3] else []) from flagK_succ f 2 (by decide))
        have hq : bits .and .u16 ((f : Int) / 4) 1 = ((f / 4 % 2 : Nat) : Int) := bit_at f 4 ((f : Int) / 4) hfl (by omega)
        rcases Nat.mod_two_eq_zero_or_one (f / 4) with hm | hm
        · have hq' : (bits .and .u16 ((f : Int) / 4) 1 == 1) = false := by rw [hq, hm]; rfl
          have HIN := Lib.hid (show IRow wr (w.heap.size + 1) (.slice ad nl cc) (0 :: flagK a.fl 3) by
            have e : flagK f 3 = flagK f 2 := by rw [HS.out, if_neg (by omega), List.append_nil]
            rw [← HF.out, e, ← HL0.out]
            unfold IRow
            rw [← HNL.out]
            exact hI0)
          clear hq hm HS hI0 HI
          go_wp2
          go_roundw
          case rel => exact ⟨3, by omega, by go_num, HIN, HA, HB⟩
          case measure => simp [intOf]
        · have hq' : (bits .and .u16 ((f : Int) / 4) 1 == 1) = true := by rw [hq, hm]; rfl
          clear hq
          go_wp2_with (at_builtin; refine wpList_append_own _ rfl (.tmp 21) (.tmp 23) 50 rfl (w.heap.size + 1) 3 ib (.int .i64 0) 1 8 Tryd.underlying50 hi hz0 hz1 hz2 rfl (by decide) (.slice ad nl cc) nl (intsV l0) rfl (hI0.alloc _) ⟨wr.heap.size, 0, none⟩ 1 1 [.int .i64 3] rfl rfl ?c1 ?c2 ?c3 ?c4 ?c5 ?_)
          case c1 => exact new_cells wr [.int .i64 3] 3 _ rfl
          case c2 => simp [Value.oneCell']
          case c3 => unfold maxLen; omega
          case c4 => omega
          case c5 => have := HA.out.1; simp; omega
          intro v' w2 own2 grow2 _
          have b2 : Below w.heap.size w w2 := (HB.out.alloc HB.out.size _).grown grow2 (by have := HB.out.size; simp; omega) (fun j hj => Nat.le_of_succ_le (hI0.lt j hj).1)
          have HIN := Lib.hid (show IRow w2 (w.heap.size + 1) v' (0 :: flagK a.fl 3) by
            have e : (0 :: flagK f 3) = l0 ++ [3] := by rw [HS.out, if_pos hm, HL0.out]; rfl
            rw [← HF.out, e]
            unfold IRow
            rw [List.length_append, ← HNL.out]
            simpa [intsV] using own2)
          have HAN := Lib.hid (show AtAt w2 w.heap.size a from (HA.out.past _).same grow2.size (grow2.block _ (by have := HA.out.1; simp; omega) (fun e => by have := (hI0.lt _ e.symm).1; omega)))
          have HB2 := Lib.hid b2
          clear own2 grow2 b2 hI0 HS hm HI
          go_wp2
          go_roundw
          case rel => exact ⟨3, by omega, by go_num, HIN, HAN, HB2⟩
          case measure => simp [intOf]
      · have HS := Lib.hid (show flagK f 4 = flagK f 3 ++ (if f / 8 % 2 = 1 then [4] else []) from flagK_succ f 3 (by decide))
        have hq : bits .and .u16 ((f : Int) / 8) 1 = ((f / 8 % 2 : Nat) : Int) := bit_at f 8 ((f : Int) / 8) hfl (by omega)
        rcases Nat.mod_two_eq_zero_or_one (f / 8) with hm | hm
        · have hq' : (bits .and .u16 ((f : Int) / 8) 1 == 1) = false := by rw [hq, hm]; rfl
          have HIN := Lib.hid (show IRow wr (w.heap.size + 1) (.slice ad nl cc) (0 :: flagK a.fl 4) by
            have e : flagK f 4 = flagK f 3 := by rw [HS.out, if_neg (by omega), List.append_nil]
            rw [← HF.out, e, ← HL0.out]
            unfold IRow
            rw [← HNL.out]
            exact hI0)
          clear hq hm HS hI0 HI
          go_wp2
          go_roundw
          case rel => exact ⟨4, by omega, by go_num, HIN, HA, HB⟩
          case measure => simp [intOf]
        · have hq' : (bits .and .u16 ((f : Int) / 8) 1 == 1) = true := by rw [hq, hm]; rfl
          clear hq
          go_wp2_with (at_builtin; refine wpList_append_own _ rfl (.tmp 21) (.tmp 23) 50 rfl (w.heap.size + 1) 3 ib (.int .i64 0) 1 8 Tryd.underlying50 hi hz0 hz1 hz2 rfl (by decide) (.slice ad nl cc) nl (intsV l0) rfl (hI0.alloc _) ⟨wr.heap.size, 0, none⟩ 1 1 [.int .i64 4] rfl rfl ?c1 ?c2 ?c3 ?c4 ?c5 ?_)
          case c1 => exact new_cells wr [.int .i64 4] 3 _ rfl
          case c2 => simp [Value.oneCell']
          case c3 => unfold maxLen; omega
          case c4 => omega
          case c5 => have := HA.out.1; simp; omega
          intro v' w2 own2 grow2 _
          have b2 : Below w.heap.size w w2 := (HB.out.alloc HB.out.size _).grown grow2 (by have := HB.out.size; simp; omega) (fun j hj => Nat.le_of_succ_le (hI0.lt j hj).1)
          have HIN := Lib.hid (show IRow w2 (w.heap.size + 1) v' (0 :: flagK a.fl 4) by
            have e : (0 :: flagK f 4) = l0 ++ [4] := by rw [HS.out, if_pos hm, HL0.out]; rfl
            rw [← HF.out, e]
            unfold IRow
            rw [List.length_append, ← HNL.out]
            simpa [intsV] using own2)
          have HAN := Lib.hid (show AtAt w2 w.heap.size a from (HA.out.past _).same grow2.size (grow2.block _ (by have := HA.out.1; simp; omega) (fun e => by have := (hI0.lt _ e.symm).1; omega)))
          have HB2 := Lib.hid b2
          clear own2 grow2 b2 hI0 HS hm HI
          go_wp2
          go_roundw
          case rel => exact ⟨4, by omega, by go_num, HIN, HAN, HB2⟩
          case measure => simp [intOf]
      · have HS := Lib.hid (show flagK f 5 = flagK f 4 ++ (if f / 16 % 2 = 1 then [5] else []) from flagK_succ f 4 (by decide))
        have hq : bits .and .u16 ((f : Int) / 16) 1 = ((f / 16 % 2 : Nat) : Int) := bit_at f 16 ((f : Int) / 16) hfl (by omega)
        rcases Nat.mod_two_eq_zero_or_one (f / 16) with hm | hm
        · have hq' : (bits .and .u16 ((f : Int) / 16) 1 == 1) = false := by rw [hq, hm]; rfl
          have HIN := Lib.hid (show IRow wr (w.heap.size + 1) (.slice ad nl cc) (0 :: flagK a.fl 5) by
            have e : flagK f 5 = flagK f 4 := by rw [HS.out, if_neg (by omega), List.append_nil]
            rw [← HF.out, e, ← HL0.out]
            unfold IRow
            rw [← HNL.out]
            exact hI0)
          clear hq hm HS hI0 HI
          go_wp2
          go_roundw
          case rel => exact ⟨5, by omega, by go_num, HIN, HA, HB⟩
          case measure => simp [intOf]
        · have hq' : (bits .and .u16 ((f : Int) / 16) 1 == 1) = true := by rw [hq, hm]; rfl
          clear hq
          go_wp2_with (at_builtin; refine wpList_append_own _ rfl (.tmp 21) (.tmp 23) 50 rfl (w.heap.size + 1) 3 ib (.int .i64 0) 1 8 Tryd.underlying50 hi hz0 hz1 hz2 rfl (by decide) (.slice ad nl cc) nl (intsV l0) rfl (hI0.alloc _) ⟨wr.heap.size, 0, none⟩ 1 1 [.int .i64 5] rfl rfl ?c1 ?c2 ?c3 ?c4 ?c5 ?_)
          case c1 => exact new_cells wr [.int .i64 5] 3 _ rfl
          case c2 => simp [Value.oneCell']
          case c3 => unfold maxLen; omega
          case c4 => omega
          case c5 => have := HA.out.1; simp; omega
          intro v' w2 own2 grow2 _
          have b2 : Below w.heap.size w w2 := (HB.out.alloc HB.out.size _).grown grow2 (by have := HB.out.size; simp; omega) (fun j hj => Nat.le_of_succ_le (hI0.lt j hj).1)
          have HIN := Lib.hid (show IRow w2 (w.heap.size + 1) v' (0 :: flagK a.fl 5) by
            have e : (0 :: flagK f 5) = l0 ++ [5] := by rw [HS.out, if_pos hm, HL0.out]; rfl
            rw [← HF.out, e]
            unfold IRow
            rw [List.length_append, ← HNL.out]
            simpa [intsV] using own2)
          have HAN := Lib.hid (show AtAt w2 w.heap.size a from (HA.out.past _).same grow2.size (grow2.block _ (by have := HA.out.1; simp; omega) (fun e => by have := (hI0.lt _ e.symm).1; omega)))
          have HB2 := Lib.hid b2
          clear own2 grow2 b2 hI0 HS hm HI
          go_wp2
          go_roundw
          case rel => exact ⟨5, by omega, by go_num, HIN, HAN, HB2⟩
          case measure => simp [intOf]
      · have HS := Lib.hid (show flagK f 6 = flagK f 5 ++ (if f / 32 % 2 = 1 then [7] else []) from flagK_succ f 5 (by decide))
        have hq : bits .and .u16 ((f : Int) / 32) 1 = ((f / 32 % 2 : Nat) : Int) := bit_at f 32 ((f : Int) / 32) hfl (by omega)
        rcases Nat.mod_two_eq_zero_or_one (f / 32) with hm | hm
        · have hq' : (bits .and .u16 ((f : Int) / 32) 1 == 1) = false := by rw [hq, hm]; rfl
          have HIN := Lib.hid (show IRow wr (w.heap.size + 1) (.slice ad nl cc) (0 :: flagK a.fl 6) by
            have e : flagK f 6 = flagK f 5 := by rw [HS.out, if_neg (by omega), List.append_nil]
            rw [← HF.out, e, ← HL0.out]
            unfold IRow
            rw [← HNL.out]
            exact hI0)
          clear hq hm HS hI0 HI
          go_wp2
          go_roundw
          case rel => exact ⟨6, by omega, by go_num, HIN, HA, HB⟩
          case measure => simp [intOf]
        · have hq' : (bits .and .u16 ((f : Int) / 32) 1 == 1) = true := by rw [hq, hm]; rfl
          clear hq
          go_wp2_with (at_builtin; refine wpList_append_own _ rfl (.tmp 21) (.tmp 23) 50 rfl (w.heap.size + 1) 3 ib (.int .i64 0) 1 8 Tryd.underlying50 hi hz0 hz1 hz2 rfl (by decide) (.slice ad nl cc) nl (intsV l0) rfl (hI0.alloc _) ⟨wr.heap.size, 0, none⟩ 1 1 [.int .i64 7] rfl rfl ?c1 ?c2 ?c3 ?c4 ?c5 ?_)
          case c1 => exact new_cells wr [.int .i64 7] 3 _ rfl
          case c2 => simp [Value.oneCell']
          case c3 => unfold maxLen; omega
          case c4 => omega
          case c5 => have := HA.out.1; simp; omega
          intro v' w2 own2 grow2 _
          have b2 : Below w.heap.size w w2 := (HB.out.alloc HB.out.size _).grown grow2 (by have := HB.out.size; simp; omega) (fun j hj => Nat.le_of_succ_le (hI0.lt j hj).1)
          have HIN := Lib.hid (show IRow w2 (w.heap.size + 1) v' (0 :: flagK a.fl 6) by
            have e : (0 :: flagK f 6) = l0 ++ [7] := by rw [HS.out, if_pos hm, HL0.out]; rfl
            rw [← HF.out, e]
            unfold IRow
            rw [List.length_append, ← HNL.out]
            simpa [intsV] using own2)
          have HAN := Lib.hid (show AtAt w2 w.heap.size a from (HA.out.past _).same grow2.size (grow2.block _ (by have := HA.out.1; simp; omega) (fun e => by have := (hI0.lt _ e.symm).1; omega)))
          have HB2 := Lib.hid b2
          clear own2 grow2 b2 hI0 HS hm HI
          go_wp2
          go_roundw
          case rel => exact ⟨6, by omega, by go_num, HIN, HAN, HB2⟩
          case measure => simp [intOf]
      · have HS := Lib.hid (show flagK f 7 = flagK f 6 ++ (if f / 64 % 2 = 1 then [8] else []) from flagK_succ f 6 (by decide))
        have hq : bits .and .u16 ((f : Int) / 64) 1 = ((f / 64 % 2 : Nat) : Int) := bit_at f 64 ((f : Int) / 64) hfl (by omega)
        rcases Nat.mod_two_eq_zero_or_one (f / 64) with hm | hm
        · have hq' : (bits .and .u16 ((f : Int) / 64) 1 == 1) = false := by rw [hq, hm]; rfl
          have HIN := Lib.hid (show IRow wr (w.heap.size + 1) (.slice ad nl cc) (0 :: flagK a.fl 7) by
            have e : flagK f 7 = flagK f 6 := by rw [HS.out, if_neg (by omega), List.append_nil]
            rw [← HF.out, e, ← HL0.out]
            unfold IRow
            rw [← HNL.out]
            exact hI0)
          clear hq hm HS hI0 HI
          go_wp2
          go_roundw
          case rel => exact ⟨7, by omega, by go_num, HIN, HA, HB⟩
          case measure => simp [intOf]
        · have hq' : (bits .and .u16 ((f : Int) / 64) 1 == 1) = true := by rw [hq, hm]; rfl
          clear hq
          go_wp2_with (at_builtin; refine wpList_append_own _ rfl (.tmp 21) (.tmp 23) 50 rfl (w.heap.size + 1) 3 ib (.int .i64 0) 1 8 Tryd.underlying50 hi hz0 hz1 hz2 rfl (by decide) (.slice ad nl cc) nl (intsV l0) rfl (hI0.alloc _) ⟨wr.heap.size, 0, none⟩ 1 1 [.int .i64 8] rfl rfl ?c1 ?c2 ?c3 ?c4 ?c5 ?_)
          case c1 => exact new_cells wr [.int .i64 8] 3 _ rfl
          case c2 => simp [Value.oneCell']
          case c3 => unfold maxLen; omega
          case c4 => omega
          case c5 => have := HA.out.1; simp; omega
          intro v' w2 own2 grow2 _
          have b2 : Below w.heap.size w w2 := (HB.out.alloc HB.out.size _).grown grow2 (by have := HB.out.size; simp; omega) (fun j hj => Nat.le_of_succ_le (hI0.lt j hj).1)
          have HIN := Lib.hid (show IRow w2 (w.heap.size + 1) v' (0 :: flagK a.fl 7) by
            have e : (0 :: flagK f 7) = l0 ++ [8] := by rw [HS.out, if_pos hm, HL0.out]; rfl
            rw [← HF.out, e]
            unfold IRow
            rw [List.length_append, ← HNL.out]
            simpa [intsV] using own2)
          have HAN := Lib.hid (show AtAt w2 w.heap.size a from (HA.out.past _).same grow2.size (grow2.block _ (by have := HA.out.1; simp; omega) (fun e => by have := (hI0.lt _ e.symm).1; omega)))
          have HB2 := Lib.hid b2
          clear own2 grow2 b2 hI0 HS hm HI
          go_wp2
          go_roundw
          case rel => exact ⟨7, by omega, by go_num, HIN, HAN, HB2⟩
          case measure => simp [intOf]
      · have HS := Lib.hid (show flagK f 8 = flagK f 7 ++ (if f / 128 % 2 = 1 then [9] else []) from flagK_succ f 7 (by decide))
        have hq : bits .and .u16 ((f : Int) / 128) 1 = ((f / 128 % 2 : Nat) : Int) := bit_at f 128 ((f : Int) / 128) hfl (by omega)
        rcases Nat.mod_two_eq_zero_or_one (f / 128) with hm | hm
        · have hq' : (bits .and .u16 ((f : Int) / 128) 1 == 1) = false := by rw [hq, hm]; rfl
          have HIN := Lib.hid (show IRow wr (w.heap.size + 1) (.slice ad nl cc) (0 :: flagK a.fl 8) by
            have e : flagK f 8 = flagK f 7 := by rw [HS.out, if_neg (by omega), List.append_nil]
            rw [← HF.out, e, ← HL0.out]
            unfold IRow
            rw [← HNL.out]
            exact hI0)
          clear hq hm HS hI0 HI
          go_wp2
          go_roundw
          case rel => exact ⟨8, by omega, by go_num, HIN, HA, HB⟩
          case measure => simp [intOf]
        · have hq' : (bits .and .u16 ((f : Int) / 128) 1 == 1) = true := by rw [hq, hm]; rfl
          clear hq
          go_wp2_with (at_builtin; refine wpList_append_own _ rfl (.tmp 21) (.tmp 23) 50 rfl (w.heap.size + 1) 3 ib (.int .i64 0) 1 8 Tryd.underlying50 hi hz0 hz1 hz2 rfl (by decide) (.slice ad nl cc) nl (intsV l0) rfl (hI0.alloc _) ⟨wr.heap.size, 0, none⟩ 1 1 [.int .i64 9] rfl rfl ?c1 ?c2 ?c3 ?c4 ?c5 ?_)
          case c1 => exact new_cells wr [.int .i64 9] 3 _ rfl
          case c2 => simp [Value.oneCell']
          case c3 => unfold maxLen; omega
          case c4 => omega
          case c5 => have := HA.out.1; simp; omega
          intro v' w2 own2 grow2 _
          have b2 : Below w.heap.size w w2 := (HB.out.alloc HB.out.size _).grown grow2 (by have := HB.out.size; simp; omega) (fun j hj => Nat.le_of_succ_le (hI0.lt j hj).1)
          have HIN := Lib.hid (show IRow w2 (w.heap.size + 1) v' (0 :: flagK a.fl 8) by
            have e : (0 :: flagK f 8) = l0 ++ [9] := by rw [HS.out, if_pos hm, HL0.out]; rfl
            rw [← HF.out, e]
            unfold IRow
            rw [List.length_append, ← HNL.out]
            simpa [intsV] using own2)
          have HAN := Lib.hid (show AtAt w2 w.heap.size a from (HA.out.past _).same grow2.size (grow2.block _ (by have := HA.out.1; simp; omega) (fun e => by have := (hI0.lt _ e.symm).1; omega)))
          have HB2 := Lib.hid b2
          clear own2 grow2 b2 hI0 HS hm HI
          go_wp2
          go_roundw
          case rel => exact ⟨8, by omega, by go_num, HIN, HAN, HB2⟩
          case measure => simp [intOf]
      · have HS := Lib.hid (show flagK f 9 = flagK f 8 ++ (if f / 256 % 2 = 1 then [21] else []) from flagK_succ f 8 (by decide))
        have hq : bits .and .u16 ((f : Int) / 256) 1 = ((f / 256 % 2 : Nat) : Int) := bit_at f 256 ((f : Int) / 256) hfl (by omega)
        rcases Nat.mod_two_eq_zero_or_one (f / 256) with hm | hm
        · have hq' : (bits .and .u16 ((f : Int) / 256) 1 == 1) = false := by rw [hq, hm]; rfl
          have HIN := Lib.hid (show IRow wr (w.heap.size + 1) (.slice ad nl cc) (0 :: flagK a.fl 9) by
            have e : flagK f 9 = flagK f 8 := by rw [HS.out, if_neg (by omega), List.append_nil]
            rw [← HF.out, e, ← HL0.out]
            unfold IRow
            rw [← HNL.out]
            exact hI0)
          clear hq hm HS hI0 HI
          go_wp2
          go_roundw
          case rel => exact ⟨9, by omega, by go_num, HIN, HA, HB⟩
          case measure => simp [intOf]
        · have hq' : (bits .and .u16 ((f : Int) / 256) 1 == 1) = true := by rw [hq, hm]; rfl
          clear hq
          go_wp2_with (at_builtin; refine wpList_append_own _ rfl (.tmp 21) (.tmp 23) 50 rfl (w.heap.size + 1) 3 ib (.int .i64 0) 1 8 Tryd.underlying50 hi hz0 hz1 hz2 rfl (by decide) (.slice ad nl cc) nl (intsV l0) rfl (hI0.alloc _) ⟨wr.heap.size, 0, none⟩ 1 1 [.int .i64 21] rfl rfl ?c1 ?c2 ?c3 ?c4 ?c5 ?_)
          case c1 => exact new_cells wr [.int .i64 21] 3 _ rfl
          case c2 => simp [Value.oneCell']
          case c3 => unfold maxLen; omega
          case c4 => omega
          case c5 => have := HA.out.1; simp; omega
          intro v' w2 own2 grow2 _
          have b2 : Below w.heap.size w w2 := (HB.out.alloc HB.out.size _).grown grow2 (by have := HB.out.size; simp; omega) (fun j hj => Nat.le_of_succ_le (hI0.lt j hj).1)
          have HIN := Lib.hid (show IRow w2 (w.heap.size + 1) v' (0 :: flagK a.fl 9) by
            have e : (0 :: flagK f 9) = l0 ++ [21] := by rw [HS.out, if_pos hm, HL0.out]; rfl
            rw [← HF.out, e]
            unfold IRow
            rw [List.length_append, ← HNL.out]
            simpa [intsV] using own2)
          have HAN := Lib.hid (show AtAt w2 w.heap.size a from (HA.out.past _).same grow2.size (grow2.block _ (by have := HA.out.1; simp; omega) (fun e => by have := (hI0.lt _ e.symm).1; omega)))
          have HB2 := Lib.hid b2
          clear own2 grow2 b2 hI0 HS hm HI
          go_wp2
          go_roundw
          case rel => exact ⟨9, by omega, by go_num, HIN, HAN, HB2⟩
          case measure => simp [intOf]
    · have hk9 : k = 9 := by omega
      subst hk9
      have HFG := Lib.hid (fun w' => telling_any w' a.fg 0 (by decide) HOK.out.1)
      have HBG := Lib.hid (fun w' => telling_any w' a.bg 10 (by decide) HOK.out.2.1)
      obtain ⟨ad, cc, rfl⟩ := HI.out.shape
      obtain ⟨l0, hl0⟩ : ∃ l0, l0 = 0 :: flagK a.fl 9 := ⟨_, rfl⟩
      have hl1 : l0.length ≤ 10 := by rw [hl0]; have := flagK_len a.fl 9; simp; omega
      obtain ⟨t1, ht1⟩ : ∃ t, t = tellM a.fg ((0 : Nat) : Int) := ⟨_, rfl⟩
      obtain ⟨t2, ht2⟩ : ∃ t, t = tellM a.bg ((10 : Nat) : Int) := ⟨_, rfl⟩
      have ht1l : t1.length ≤ 5 := by rw [ht1]; exact tellM_len _ _
      have ht2l : t2.length ≤ 5 := by rw [ht2]; exact tellM_len _ _
      have HNM := Lib.hid (show numsM a = l0 ++ t1 ++ t2 by rw [hl0, ht1, ht2]; rfl)
      have HT1 := Lib.hid ht1
      have HT2 := Lib.hid ht2
      rw [← hl0] at HI ⊢
      obtain ⟨nl, hnl⟩ : ∃ nl, nl = l0.length := ⟨_, rfl⟩
      have HNL := Lib.hid hnl
      have hI0 : wr.ownsRow (w.heap.size + 1) 3 1 (.slice ad nl cc) nl (intsV l0) := by rw [hnl]; exact HI.out
      rw [← hnl] at hl1 ⊢
      have HI0 := Lib.hid hI0
      clear hl0 ht1 ht2 hnl hI0 HI
      obtain ⟨y0, ⟨y1, y2, y3, y4, y5, y6, y7, y8, y9⟩, yf⟩ := HA.out
      go_wp2_with fail
      refine (HFG.out wr).mono ?_
      rintro e w2 ⟨v1, rfl, I1, b1⟩
      rw [← HT1.out] at I1
      have hI1 := own_below HI0.out b1
      have HA1 := Lib.hid (HA.out.below b1)
      have HB1 := Lib.hid (HB.out.trans (b1.mono HB.out.size))
      obtain ⟨ad1, cc1, rfl⟩ := I1.shape
      obtain ⟨n1, hn1⟩ : ∃ n1, n1 = t1.length := ⟨_, rfl⟩
      have hI1' : w2.ownsRow wr.heap.size 3 1 (.slice ad1 n1 cc1) n1 (intsV t1) := by rw [hn1]; exact I1
      have HN1 := Lib.hid hn1
      rw [← hn1] at ht1l ⊢
      clear hn1 y0 y1 y2 y3 y4 y5 y6 y7 y8 y9 yf b1 I1
      go_wp2_with (at_builtin; refine wpList_append_row rfl (.tmp 26) (.tmp 29) 50 rfl (w.heap.size + 1) 3 ib (.int .i64 0) 1 8 Tryd.underlying50 hi hz0 hz1 hz2 rfl (by decide) (.slice ad nl cc) nl (intsV l0) rfl hI1 wr.heap.size n1 (.slice ad1 n1 cc1) (intsV t1) rfl hI1' (intsV_one t1) ?c3 ?c4 ?c5 ?_)
      case c3 => unfold maxLen; omega
      case c4 => omega
      case c5 => exact HA1.out.1
      intro v3 w3 own3 grow3
      have b3 : Below w.heap.size w w3 := HB1.out.grown grow3 HB1.out.size (fun j hj => Nat.le_of_succ_le (hI1.lt j hj).1)
      have HA3 := Lib.hid (HA1.out.same grow3.size (grow3.block _ HA1.out.1 (fun e => by have := (hI1.lt _ e.symm).1; omega)))
      have HB3 := Lib.hid b3
      obtain ⟨l1, hl1⟩ : ∃ l1, l1 = l0 ++ t1 := ⟨_, rfl⟩
      obtain ⟨nl1, hnl1⟩ : ∃ n, n = nl + n1 := ⟨_, rfl⟩
      have HNL1 := Lib.hid (show nl1 = l1.length by rw [hnl1, hl1, List.length_append, HNL.out, HN1.out])
      have own3' : w3.ownsRow (w.heap.size + 1) 3 1 v3 nl1 (intsV l1) := by rw [hnl1, hl1]; simpa [intsV] using own3
      have hnl1' : nl1 ≤ 15 := by omega
      rw [← hl1] at HNM
      obtain ⟨ad3, cc3, rfl⟩ : ∃ a c, v3 = .slice a nl1 c := by
        rcases own3'.2 with ⟨rfl, h0⟩ | ⟨g, cap, cur, rfl, _⟩
        · exact ⟨none, 0, by rw [h0]⟩
        · exact ⟨_, cap, rfl⟩
      have HI3 := Lib.hid own3'
      clear own3 grow3 b3 hl1 hnl1 own3' hI1 hI1' HI0 HA1 HB1 HA HB
      obtain ⟨y0, ⟨y1, y2, y3, y4, y5, y6, y7, y8, y9⟩, yf⟩ := HA3.out
      go_wp2_with fail
      refine (HBG.out w3).mono ?_
      rintro e w4 ⟨v4, rfl, I4, b4⟩
      rw [← HT2.out] at I4
      have hI4 := own_below HI3.out b4
      have HA4 := Lib.hid (HA3.out.below b4)
      have HB4 := Lib.hid (HB3.out.trans (b4.mono HB3.out.size))
      obtain ⟨ad4, cc4, rfl⟩ := I4.shape
      obtain ⟨n2, hn2⟩ : ∃ n2, n2 = t2.length := ⟨_, rfl⟩
      have hI4' : w4.ownsRow w3.heap.size 3 1 (.slice ad4 n2 cc4) n2 (intsV t2) := by rw [hn2]; exact I4
      have HN2 := Lib.hid hn2
      rw [← hn2] at ht2l ⊢
      clear hn2 y0 y1 y2 y3 y4 y5 y6 y7 y8 y9 yf b4 I4
      go_wp2_with (at_builtin; refine wpList_append_row rfl (.tmp 31) (.tmp 34) 50 rfl (w.heap.size + 1) 3 ib (.int .i64 0) 1 8 Tryd.underlying50 hi hz0 hz1 hz2 rfl (by decide) (.slice ad3 nl1 cc3) nl1 (intsV l1) rfl hI4 w3.heap.size n2 (.slice ad4 n2 cc4) (intsV t2) rfl hI4' (intsV_one t2) ?c3 ?c4 ?c5 ?_)
      case c3 => unfold maxLen; omega
      case c4 => omega
      case c5 => exact HA4.out.1
      intro v5 w5 own5 grow5
      have b5 : Below w.heap.size w w5 := HB4.out.grown grow5 HB4.out.size (fun j hj => Nat.le_of_succ_le (hI4.lt j hj).1)
      have HB5 := Lib.hid b5
      obtain ⟨l2, hl2⟩ : ∃ l2, l2 = l1 ++ t2 := ⟨_, rfl⟩
      obtain ⟨nl2, hnl2⟩ : ∃ n, n = nl1 + n2 := ⟨_, rfl⟩
      have HNL2 := Lib.hid (show nl2 = l2.length by rw [hnl2, hl2, List.length_append, HNL1.out, HN2.out])
      have own5' : IRow w5 (w.heap.size + 1) v5 l2 := by unfold IRow; rw [← HNL2.out, hnl2, hl2]; simpa [intsV] using own5
      have hnl2' : nl2 ≤ 20 := by omega
      rw [← hl2] at HNM
      obtain ⟨ad5, cc5, rfl⟩ := own5'.shape
      have HI5 := Lib.hid own5'
      have HPM := Lib.hid (show paramsM a = l2.map fun x => [x] by unfold paramsM; rw [HNM.out])
      rw [← HNL2.out] at HI5 ⊢
      have HSZ := Lib.hid (Nat.le_trans (Nat.succ_le_of_lt HA4.out.1) grow5.size)
      clear own5 grow5 b5 hl2 hnl2 own5' hI4 hI4' HI3 HA4 HB4 HA3 HB3 HNM HNL1 HN2 HNL HN1 hnl1' ht2l ht1l hl1
      go_wp2
      obtain ⟨w6, rfl⟩ : ∃ w6 : World, w6 = w5 := ⟨_, rfl⟩
      go_loopw [6, 38] (fun v i wr => ∃ k : Nat, k ≤ nl2 ∧ i = .int .i64 k ∧ Hid (RowsAt wr (w.heap.size + 1) v ((l2.take k).map fun x => [x])) ∧ Hid (IRow wr (w.heap.size + 1) (.slice ad5 nl2 cc5) l2) ∧ Hid (Below w.heap.size w wr) ∧ Hid (w.heap.size + 1 ≤ wr.heap.size)) (fun _ i _ => nl2 - (intOf i).toNat)
      case atStart => exact ⟨0, Nat.zero_le _, rfl, Lib.hid (RowsAt.nil _ _), HI5, HB5, HSZ⟩
      case round =>
        obtain ⟨k, hk, rfl, HR, HI, HB, HS⟩ := hrel
        clear HI5 HB5 HSZ
        by_cases hlt : k < nl2
        · have hkl : k < l2.length := by rw [← HNL2.out]; exact hlt
          obtain ⟨g, rfl, hg, hcell⟩ := IRow.cell HI.out (by omega)
          obtain ⟨x, hx⟩ : ∃ x, x = l2.getD k 0 := ⟨_, rfl⟩
          have a1 := hcell k hkl
          rw [← hx] at a1
          have HTK := Lib.hid (show (l2.take (k + 1)).map (fun x => [x]) = (l2.take k).map (fun x => [x]) ++ [[x]] by
            rw [List.take_succ_eq_append_getElem hkl, List.map_append, hx, List.getD_eq_getElem?_getD, List.getElem?_eq_getElem hkl]
            rfl)
          have HLK := Lib.hid (show ((l2.take k).map fun x => [x]).length = k by rw [List.length_map, List.length_take]; omega)
          have HI2 := Lib.hid HI.out
          obtain ⟨us, hown, hus⟩ := HR.out
          have HUS := Lib.hid hus
          clear hus hx hcell HR
          rw [HLK.out] at hown
          obtain ⟨W1, hW1⟩ : ∃ W1, W1 = (wr.alloc (.cells #[.int .i64 x] 3)).alloc (.cells #[.slice (some ⟨wr.heap.size, 0, none⟩) 1 1] 50) := ⟨_, rfl⟩
          have bW : Below wr.heap.size wr W1 := by rw [hW1]; exact ((Below.refl _ _).alloc (Nat.le_refl _) _).alloc (by simp) _
          have hownW : W1.ownsRow (w.heap.size + 1) 50 1 u6 k us := own_below hown bW
          have hsW : wr.heap.size ≤ W1.heap.size := bW.size
          have hnew : IntsAt W1 (w.heap.size + 1) (.slice (some ⟨wr.heap.size, 0, none⟩) 1 1) [x] := by
            rw [hW1]
            exact IntsAt.below (IntsAt.litA wr (w.heap.size + 1) 1 wr.heap.size [x] rfl rfl HS.out (by simp [maxLen])) ((Below.refl _ _).alloc (Nat.le_refl _) _)
          have hcW : ∀ j u, ([.slice (some ⟨wr.heap.size, 0, none⟩) 1 1] : List Value)[j]? = some u → W1.cell? ((⟨wr.heap.size + 1, 0, none⟩ : Addr).add j) = some u := by
            rw [hW1]
            exact new_cells _ [.slice (some ⟨wr.heap.size, 0, none⟩) 1 1] 50 _ (by simp)
          have HNEW := Lib.hid hnew
          clear hnew
          go_wp2_with (at_builtin; rw [← hW1]; clear hW1; refine wpList_append_own _ rfl (.tmp 42) (.tmp 45) 27 rfl (w.heap.size + 1) 50 jb (.slice none 0 0) 1 24 Tryd.underlying27 ji jz0 jz1 jz2 rfl (by decide) u6 k us rfl hownW ⟨wr.heap.size + 1, 0, none⟩ 1 1 [.slice (some ⟨wr.heap.size, 0, none⟩) 1 1] rfl rfl hcW ?c2 ?c3 ?c4 ?c5 ?_)
          case c2 => simp [Value.oneCell']
          case c3 => unfold maxLen; omega
          case c4 => omega
          case c5 => have := HS.out; omega
          intro v' w7 own2 grow2 _
          have b7 : Below w.heap.size w w7 := (HB.out.trans (bW.mono HB.out.size)).grown grow2 (by have := HB.out.size; omega) (fun j hj => Nat.le_of_succ_le (hownW.lt j hj).1)
          have HR2 := Lib.hid (show RowsAt w7 (w.heap.size + 1) v' ((l2.take (k + 1)).map fun x => [x]) by
            rw [HTK.out]
            refine RowsAt.snoc (w := W1) (us := us) (v := u6) (by rw [HLK.out]; exact hownW) (fun i hi => (HUS.out i hi).below bW) HNEW.out (by rw [HLK.out]; exact own2) grow2)
          have HI3 := Lib.hid (show IRow w7 (w.heap.size + 1) (.slice (some ⟨g, 0, none⟩) nl2 cc5) l2 from own_apart0 (by decide) (own_below HI2.out bW) hownW grow2)
          have HB2 := Lib.hid b7
          have HS2 := Lib.hid (Nat.le_trans HS.out (Nat.le_trans hsW grow2.size))
          clear own2 grow2 b7 bW hownW hcW HI HI2 HB HS HUS HNEW hown a1 hg hsW
          go_wp2
          go_roundw
          case rel => exact ⟨k + 1, by omega, by go_num, HR2, HI3, HB2, HS2⟩
          case measure => simp [intOf]; omega
        · have HE := Lib.hid (show (l2.take k) = l2 from List.take_of_length_le (by rw [← HNL2.out]; omega))
          go_wp2
          go_ret
          refine ⟨u6, rfl, ?_, HB.out⟩
          rw [HPM.out]
          have := HR.out
          rw [HE.out] at this
          exact this.lower (Nat.le_succ _)
end Go.Proofs.YtlmhnebgkginkaaDoor.Lab
