/- The Go law WidthAdds: texts of runes take as many columns as their runes. -/
import Derived.Test.YtegkoncpoghbfaaDoorWiShown
import Derived.Laws.OwnMore
import Derived.Deep.DeepCutAuto
import Derived.Deep.CutBlock
import Derived.Deep.MidRow
namespace Go.Proofs.YtegkoncpoghbfaaDoor.Lab
open Go.RowKit Go.Lib

def RuneB (r : Int) : Prop := -2147483648 ≤ r ∧ r ≤ 2147483647
def RunesB (ns : List Int) : Prop := ∀ r ∈ ns, RuneB r

theorem shown_all {ns : List Int} (h : RunesB ns) : ∀ r ∈ ns.filter shownB, Utf8.valid r = true := by
  intro r hr
  obtain ⟨h1, h2⟩ := List.mem_filter.1 hr
  exact shown_valid (h r h1) (by simpa [shownB] using h2)
theorem tx_app {ns : List Int} (h : RunesB ns) (t : ByteArray) : tx (runesBytes (ns.filter shownB) ++ t) = sumC (ns.filter shownB) + tx t := by
  unfold tx
  rw [ByteArray.data_append, Array.toList_append, runes_list, txt_runes _ (shown_all h)]
theorem tx_one {ns : List Int} (h : RunesB ns) : tx (runesBytes (ns.filter shownB)) = sumC (ns.filter shownB) := by
  unfold tx
  rw [runes_list]
  have := txt_runes _ (shown_all h) []
  rw [List.append_nil, txt_nil, Int.add_zero] at this
  exact this
theorem bytes_app (a b : List Int) : runesBytes a ++ runesBytes b = runesBytes (a ++ b) := by
  apply ByteArray.ext
  apply Array.toList_inj.1
  rw [ByteArray.data_append, Array.toList_append, runes_list, runes_list, runes_list, encL_app]
abbrev gapB : ByteArray := ⟨#[204, 129, 226, 128, 139, 7]⟩
theorem gap_list : gapB.data.toList = encL [769, 8203, 7] := by kernel_rfl
theorem tx_gap {ns : List Int} (h : RunesB ns) (t : ByteArray) : tx (runesBytes (ns.filter shownB) ++ gapB ++ t) = sumC (ns.filter shownB) + tx t := by
  rw [ByteArray.append_assoc, tx_app h]
  unfold tx
  rw [ByteArray.data_append, Array.toList_append, gap_list, txt_runes _ (by decide +kernel)]
  rw [show sumC [769, 8203, 7] = 0 by decide +kernel, Int.zero_add]

theorem sumC_snoc : ∀ (a : List Int) (r : Int), sumC (a ++ [r]) = sumC a + colI r
  | [], r => by simp [sumC]
  | x :: a, r => by
    have := sumC_snoc a r
    simp only [List.cons_append, sumC, this]
    omega
theorem colI_of {r o : Int} (h : ofI r = o) (h0 : 0 ≤ o) : colI r = o := by
  unfold colI
  rw [h, if_neg (by omega)]

theorem RunesAt.at {w : World} {a : Option Addr} {n : Nat} {ns : List Int} (h : RunesAt w a n ns) {k : Nat} (hk : k < n) :
    ∃ b off, a = some ⟨b, off, none⟩ ∧ w.cell? ⟨b, off + k, none⟩ = some (.int .i32 (ns.getD k 0)) := by
  rcases h.2 with h0 | ⟨b, off, h1, _, h2⟩
  · omega
  · exact ⟨b, off, h1, h2 k hk⟩
theorem RunesAt.take {w : World} {a : Option Addr} {n m : Nat} {ns : List Int} (h : RunesAt w a n ns) (hm : m ≤ n) : RunesAt w a m (ns.take m) := by
  obtain ⟨h0, h1⟩ := h
  refine ⟨by rw [List.length_take]; omega, ?_⟩
  rcases h1 with h1 | ⟨b, off, h2, h3, h4⟩
  · exact .inl (by omega)
  · refine .inr ⟨b, off, h2, h3, fun i hi => ?_⟩
    rw [h4 i (by omega)]
    simp [List.getD, hi]
theorem RunesB.take {ns : List Int} (h : RunesB ns) (m : Nat) : RunesB (ns.take m) := fun r hr => h r (List.mem_of_mem_take hr)

theorem cell_on {w w' : World} (hb : Below w.heap.size w w') {p : Addr} {v : Value} (h : w.cell? p = some v) : w'.cell? p = some v := (hb.cell (World.block_lt_of_cell? w p h)).trans h

/-- In a round: the tables, and the call's own row of runes that are kept. -/
def Rd (w0 w : World) (v : Value) (ns : List Int) : Prop := St w0 w ∧ w.ownsRow w0.heap.size 21 1 v ns.length (runeCs ns)
theorem Rd.on {w0 w w' : World} {v : Value} {ns : List Int} (h : Rd w0 w v ns) (hb : Below w.heap.size w w') : Rd w0 w' v ns := ⟨h.1.on hb, own_below h.2 hb⟩

/-- A row of values, or none, that can be read. -/
def RowR (w : World) (v : Value) (m : Nat) (news : List Value) : Prop := (v = .slice none 0 0 ∧ m = 0 ∧ news = []) ∨ ∃ ad c, v = .slice (some ad) m c ∧ ∀ j u, news[j]? = some u → w.cell? (ad.add j) = some u
theorem row_of_runes {w : World} {a : Option Addr} {n cap : Nat} {ns : List Int} (h : RunesAt w a n ns) (q : a = none → n = 0 ∧ cap = 0) : RowR w (.slice a n cap) n (runeCs ns) := by
  obtain ⟨h0, h1⟩ := h
  rcases a with _ | ad
  · obtain ⟨rfl, rfl⟩ := q rfl
    have : ns = [] := List.eq_nil_of_length_eq_zero h0
    subst this
    exact .inl ⟨rfl, rfl, rfl⟩
  · refine .inr ⟨ad, cap, rfl, fun j u hj => ?_⟩
    rw [List.getElem?_map, Option.map_eq_some_iff] at hj
    obtain ⟨r, hr, rfl⟩ := hj
    have hjl : j < ns.length := (List.getElem?_eq_some_iff.1 hr).1
    rcases h1 with h1 | ⟨b, off, h2, _, h4⟩
    · omega
    · cases h2
      rw [Addr.add_mid, h4 j (by omega)]
      simp [List.getD, hr]
theorem RowR.on {w w' : World} {v : Value} {m : Nat} {news : List Value} {n : Nat} (h : RowR w v m news) (hb : Below n w w') (hn : w.heap.size ≤ n) : RowR w' v m news := by
  rcases h with h | ⟨ad, c, h1, h2⟩
  · exact .inl h
  · exact .inr ⟨ad, c, h1, fun j u hj => (hb.cell (by have := World.block_lt_of_cell? w _ (h2 j u hj); omega)).trans (h2 j u hj)⟩

theorem wpList_want {P : Program} {ops : Array Oper} {rest : List Oper} {o : Oper} {a : Act} {w : World} {Q : Exit → Act → World → Prop} (hw : Region.wanted o (yielded ops a.tmps) = true)
    (h : ∀ K : Act → World → Prop, (∀ a w, wpList P ops Q rest a w → K a w) → o.wp P a w K Q) : wpList P ops Q (o :: rest) a w :=
  wpList_step fun K hK => by rw [if_pos hw]; exact h K hK

theorem wpList_append_row {P : Program} {ops : Array Oper} {rest : List Oper} {o : Oper} {a : Act} {w : World} {Q : Exit → Act → World → Prop} (hw : Region.wanted o (yielded ops a.tmps) = true)
    (s x : Operand) (t : TypeId) (hop : o.op = Op.call { callee := Callee.builtin Builtin.append, args := #[s, x], argTypes := #[t, t] })
    (base : Nat) (e : TypeId) (i : TypeInfo) (z : Value) (size bytes : Nat) (h1 : P.underlying t = some (.slice e)) (h2 : P.info? e = some i) (h3 : i.zero = some z) (h4 : i.size = size) (h5 : i.bytes = bytes) (h6 : z.cells.size = size) (h7 : 0 < size)
    (v : Value) (n : Nat) (xs : List Value) (hs : a.eval s = v) (hown : w.ownsRow base e size v n xs)
    (m : Nat) (news : List Value) (hx : RowR w (a.eval x) m news) (hn : news.length = m * size) (h1c : ∀ u ∈ news, u.oneCell' = true)
    (b1 : n + m ≤ maxLen) (b2 : (n + m) * bytes ≤ 140737488355328) (hb : base ≤ w.heap.size)
    (hK : ∀ v' w', w'.ownsRow base e size v' (n + m) (xs ++ news) → w.grownBy w' v.ownBlock → wpList P ops Q rest (a.put o.dst v') w') :
    wpList P ops Q (o :: rest) a w := by
  refine wpList_want hw fun K hKK => ?_
  rcases hx with ⟨e1, rfl, rfl⟩ | ⟨ad, c, e1, hc⟩
  · have hrun := run_append_owned_none (P := P) (w := w) base t o.type e i size h1 h2 v n xs hown
    unfold Oper.wp
    simp [execOp, hop, resolve, invoke, builtin, hs, e1, hrun, Result.andThen]
    exact hKK _ _ (hK v w (by simpa using hown) ⟨rfl, rfl, rfl, Nat.le_refl _, fun _ _ _ => rfl⟩)
  · obtain ⟨v', w', hrun, r1, r2, _⟩ := run_append_own (P := P) w base t o.type e i z size bytes h1 h2 h3 h4 h5 h6 h7 v n xs hown ad m c news hn hc h1c b1 b2 hb
    unfold Oper.wp
    simp [execOp, hop, resolve, invoke, builtin, hs, e1, hrun, Result.andThen]
    exact hKK _ _ (hK v' w' r1 r2)

theorem runes_of_row {w : World} {base : Nat} {T : TypeId} {v : Value} {n : Nat} {ns : List Int} (h : w.ownsRow base T 1 v n (runeCs ns)) : ∃ a cap, v = .slice a n cap ∧ RunesAt w a n ns := by
  have hl : ns.length = n := by simpa using h.1
  rcases h.2 with ⟨rfl, rfl⟩ | ⟨g, cap, cur, rfl, hb, hg, hr⟩
  · exact ⟨none, 0, rfl, hl, .inl rfl⟩
  · refine ⟨some ⟨g, 0, none⟩, cap, rfl, hl, .inr ⟨g, 0, rfl, (h.lt g rfl).2, fun i hi => ?_⟩⟩
    have := h.cells (g := g) rfl i (.int .i32 (ns.getD i 0)) (by simp [List.getD, List.getElem?_eq_getElem (show i < ns.length by omega)])
    rwa [Addr.add_mid] at this

set_option maxRecDepth 100000 in
set_option maxHeartbeats 8000000 in
theorem widthAdds_any (a1 a2 : Option Addr) (n1 n2 cap1 cap2 : Nat) (ls ms : List Int) (hl : RunesB ls) (hm : RunesB ms) (w : World) (hT : Tabs w) (R1 : RunesAt w a1 n1 ls) (R2 : RunesAt w a2 n2 ms)
    (q1 : a1 = none → n1 = 0 ∧ cap1 = 0) (q2 : a2 = none → n2 = 0 ∧ cap2 = 0) (z1 : n1 ≤ cap1 ∧ cap1 ≤ maxLen) (z2 : n2 ≤ cap2 ∧ cap2 ≤ maxLen) :
    Calls Tryd.prog 4 #[.slice a1 n1 cap1, .slice a2 n2 cap2] w fun e w' => e = .returned (.bool true) ∧ Below w.heap.size w w' := by
  have H0 := Lib.hid (St.here hT)
  have HTW := Lib.hid hT
  have HR := Lib.hid (And.intro R1 R2)
  have HB := Lib.hid (And.intro hl hm)
  clear hT R1 R2 hl hm
  unfold maxLen at z1 z2
  obtain ⟨ib, hi⟩ := Option.isSome_iff_exists.1 (show (Tryd.prog.info? 21).isSome = true by kernel_rfl)
  have hz : (Tryd.prog.info? 21).map (fun i => (i.zero, i.size, i.bytes)) = some (some (.int .i32 0), 1, 4) := by kernel_rfl
  rw [hi] at hz
  simp only [Option.map_some, Option.some.injEq, Prod.mk.injEq] at hz
  obtain ⟨hz0, hz1, hz2⟩ := hz
  go_enter Tryd.func4, Tryd.ntmps4
  go_wp2_with fail
  refine (works_any H0.out.1).mono ?_
  rintro e w1 ⟨rfl, hb⟩
  have H1 := Lib.hid (H0.out.on hb)
  clear hb H0
  go_upto_region 3 with (fail)
  go_cut [0, 1] (fun va vb wc => ∃ (m1 m2 : Nat), va = .slice a1 m1 cap1 ∧ vb = .slice a2 m2 cap2 ∧ m1 ≤ 60 ∧ m2 ≤ 60 ∧ m1 ≤ n1 ∧ m2 ≤ n2 ∧ Hid (St w wc))
  case first =>
    clear hi hz0 hz1 hz2
    rcases a1 with _ | a1
    · obtain ⟨rfl, rfl⟩ := q1 rfl
      clear q1
      rcases a2 with _ | a2
      · obtain ⟨rfl, rfl⟩ := q2 rfl
        go_quiet (fail)
        have H2 := Lib.hid (H1.out.on (below_drewN (Below.refl _ _) nq))
        go_wp2
        all_goals (go_meet; case rel => exact ⟨0, 0, rfl, rfl, by omega, by omega, by omega, by omega, H2⟩)
      · clear q2
        go_quiet (fail)
        have H2 := Lib.hid (H1.out.on (below_drewN (Below.refl _ _) nq))
        go_wp2
        all_goals (go_meet; case rel => exact ⟨0, _, rfl, rfl, by omega, by omega, by omega, by omega, H2⟩)
    · clear q1
      rcases a2 with _ | a2
      · obtain ⟨rfl, rfl⟩ := q2 rfl
        go_quiet (fail)
        have H2 := Lib.hid (H1.out.on (below_drewN (Below.refl _ _) nq))
        go_wp2
        all_goals (go_meet; case rel => exact ⟨_, 0, rfl, rfl, by omega, by omega, by omega, by omega, H2⟩)
      · clear q2
        go_quiet (fail)
        have H2 := Lib.hid (H1.out.on (below_drewN (Below.refl _ _) nq))
        go_wp2
        all_goals (go_meet; case rel => exact ⟨_, _, rfl, rfl, by omega, by omega, by omega, by omega, H2⟩)
  case rest =>
    obtain ⟨m1, m2, rfl, rfl, b1, b2, e1, e2, H2⟩ := hcut
    obtain ⟨w2, rfl⟩ : ∃ wx : World, wx = wc := ⟨_, rfl⟩
    have HL := Lib.hid (HR.out.1.take e1)
    have HM := Lib.hid (HR.out.2.take e2)
    have HBl := Lib.hid (HB.out.1.take m1)
    have HBm := Lib.hid (HB.out.2.take m2)
    have Q1 := Lib.hid (show a1 = none → m1 = 0 ∧ cap1 = 0 from fun h => by have := q1 h; omega)
    have Q2 := Lib.hid (show a2 = none → m2 = 0 ∧ cap2 = 0 from fun h => by have := q2 h; omega)
    have c1 : m1 ≤ cap1 ∧ cap1 ≤ 2 ^ 63 - 1 := by omega
    have c2 : m2 ≤ cap2 ∧ cap2 ≤ 2 ^ 63 - 1 := by omega
    clear HR HB q1 q2 z1 z2 e1 e2 H1
    generalize ls.take m1 = ls at *
    generalize ms.take m2 = ms at *
    go_wp2_with fail
    refine (shown_any a1 m1 cap1 ls _ H2.out.1 (HL.out.below H2.out.2 (Nat.le_refl _)) (by omega)).mono ?_
    rintro e w3 ⟨rfl, hb⟩
    have H3 := Lib.hid (H2.out.on hb)
    clear hb H2
    go_wp2_with fail
    refine (shown_any a2 m2 cap2 ms _ H3.out.1 (HM.out.below H3.out.2 (Nat.le_refl _)) (by omega)).mono ?_
    rintro e w4 ⟨rfl, hb⟩
    have H4 := Lib.hid (H3.out.on hb)
    clear hb H3
    obtain ⟨A, hA⟩ : ∃ A, A = runesBytes (ls.filter shownB) := ⟨_, rfl⟩
    obtain ⟨B, hB⟩ : ∃ B, B = runesBytes (ms.filter shownB) := ⟨_, rfl⟩
    rw [← hA, ← hB]
    have HA := Lib.hid hA
    have HBB := Lib.hid hB
    clear hA hB
    go_wp2_with fail
    have hls := Lib.hid HL.out.1
    go_loopw [7, 8, 9] (fun vn vk vi wr => ∃ (k : Nat) (q : Int), k ≤ m1 ∧ vn = .int .i64 q ∧ vi = .int .i64 k ∧ 0 ≤ q ∧ q ≤ 2 * k ∧ Hid (q = sumC (keptK ls k)) ∧ Hid (Rd w wr vk (keptK ls k))) (fun _ _ vi _ => m1 - (intOf vi).toNat)
    case atStart => exact ⟨0, 0, Nat.zero_le _, rfl, rfl, by omega, by omega, Lib.hid rfl, Lib.hid ⟨H4.out, World.ownsRow_nil _ _ _ _⟩⟩
    case round =>
      obtain ⟨k, q, hk, rfl, rfl, q0, q1, hQ, hI⟩ := hrel
      clear H4
      by_cases hlt : k < m1
      · obtain ⟨b, off, rfl, hck⟩ := (HL.out.below hI.out.1.2 (Nat.le_refl _)).at hlt
        have HS := Lib.hid (kept_snoc ls k (by rw [hls.out]; exact hlt))
        have HKL := Lib.hid (kept_len ls k)
        have HSB := Lib.hid (show shownB (ls.getD k 0) = decide (0 ≤ ofI (ls.getD k 0)) from rfl)
        generalize ls.getD k 0 = r at *
        obtain ⟨o, ho⟩ : ∃ o, ofI r = o := ⟨_, rfl⟩
        have hob := ofI_bd r
        rw [ho] at hob
        have hcase : o = -1 ∨ o = 0 ∨ o = 1 ∨ o = 2 := by omega
        clear hob
        rcases hcase with rfl | rfl | rfl | rfl
        · have hmk : markB r = false := by unfold markB; rw [ho]; rfl
          have hwd : wideB r = false := by unfold wideB; rw [ho]; rfl
          have CO := fun (w : World) (h : Tabs w) => of_val r _ ho h
          have CM := fun (w : World) (h : Tabs w) => mark_val r _ hmk h
          have CW := fun (w : World) (h : Tabs w) => wide_val r _ hwd h
          rw [HSB.out, ho, decide_eq_false (by omega), if_neg (by simp)] at HS
          clear ho hmk hwd HSB
          go_wp2_with fail
          refine (CO _ hI.out.1.1).mono ?_
          rintro e x1 ⟨rfl, hb⟩
          have hI1 := Lib.hid (hI.out.on hb)
          replace hck := cell_on hb hck
          clear hb hI
          go_wp2_with fail
          refine (CM _ hI1.out.1.1).mono ?_
          rintro e x2 ⟨rfl, hb⟩
          have hI2 := Lib.hid (hI1.out.on hb)
          replace hck := cell_on hb hck
          clear hb hI1
          go_wp2_with fail
          refine (CM _ hI2.out.1.1).mono ?_
          rintro e x3 ⟨rfl, hb⟩
          have hI3 := Lib.hid (hI2.out.on hb)
          replace hck := cell_on hb hck
          clear hb hI2
          go_wp2_with fail
          refine (CW _ hI3.out.1.1).mono ?_
          rintro e x4 ⟨rfl, hb⟩
          have hI4 := Lib.hid (hI3.out.on hb)
          replace hck := cell_on hb hck
          clear hb hI3
          go_wp2
          go_roundw
          case rel => exact ⟨k + 1, q, by omega, rfl, by go_num, by omega, by omega, Lib.hid (by rw [HS.out]; exact hQ.out), Lib.hid (by rw [HS.out]; exact hI4.out)⟩
          case measure => simp [intOf]; omega
        · have hmk : markB r = true := by unfold markB; rw [ho]; rfl
          have hwd : wideB r = false := by unfold wideB; rw [ho]; rfl
          have CO := fun (w : World) (h : Tabs w) => of_val r _ ho h
          have CM := fun (w : World) (h : Tabs w) => mark_val r _ hmk h
          have CW := fun (w : World) (h : Tabs w) => wide_val r _ hwd h
          have hcol := Lib.hid (colI_of ho (by omega))
          rw [HSB.out, ho, decide_eq_true (by omega), if_pos rfl] at HS
          clear ho hmk hwd HSB
          go_wp2_with fail
          refine (CO _ hI.out.1.1).mono ?_
          rintro e x1 ⟨rfl, hb⟩
          have hI1 := Lib.hid (hI.out.on hb)
          replace hck := cell_on hb hck
          clear hb hI
          go_wp2_with fail
          refine (CM _ hI1.out.1.1).mono ?_
          rintro e x2 ⟨rfl, hb⟩
          have hI2 := Lib.hid (hI1.out.on hb)
          replace hck := cell_on hb hck
          clear hb hI1
          go_wp2_with fail
          refine (CW _ hI2.out.1.1).mono ?_
          rintro e x3 ⟨rfl, hb⟩
          have hI3 := Lib.hid (hI2.out.on hb)
          replace hck := cell_on hb hck
          clear hb hI2
          go_wp2_with fail
          refine (CM _ hI3.out.1.1).mono ?_
          rintro e x4 ⟨rfl, hb⟩
          have hI4 := Lib.hid (hI3.out.on hb)
          replace hck := cell_on hb hck
          clear hb hI3
          go_wp2_with fail
          refine (CW _ hI4.out.1.1).mono ?_
          rintro e x5 ⟨rfl, hb⟩
          have hI5 := Lib.hid (hI4.out.on hb)
          replace hck := cell_on hb hck
          clear hb hI4
          have hsz := Lib.hid hI5.out.1.2.size
          go_wp2_with (at_builtin; refine wpList_append_own _ rfl (.tmp 80) (.tmp 85) 32 rfl w.heap.size 21 ib (.int .i32 0) 1 4 Tryd.underlying32 hi hz0 hz1 hz2 rfl (by decide) _ _ _ rfl (hI5.out.2.alloc _) ⟨x5.heap.size, 0, none⟩ 1 1 (runeCs [r]) rfl rfl ?c1 ?c2 ?c3 ?c4 ?c5 ?_)
          case c1 =>
            intro j u hj
            match j, hj with
            | 0, hj => simp at hj; subst hj; simp [Addr.add]
            | j + 1, hj => simp at hj
          case c2 => simp [Value.oneCell']
          case c3 => have := HKL.out; unfold maxLen; omega
          case c4 => have := HKL.out; omega
          case c5 => have := hsz.out; simp; omega
          intro p' w' own' grow' _
          go_wp2
          go_roundw
          case rel =>
            refine ⟨k + 1, q + 0, by omega, by go_num, by go_num, by omega, by omega, Lib.hid ?_, Lib.hid ⟨⟨?_, ?_⟩, ?_⟩⟩
            · rw [HS.out, sumC_snoc, hcol.out, ← hQ.out]
            · have hg := ((hI5.out.1.2.alloc hI5.out.1.2.size _).grown grow' (by have := hsz.out; simp; omega) (fun j hj => (hI5.out.2.lt j hj).1))
              exact HTW.out.below hg
            · exact ((hI5.out.1.2.alloc hI5.out.1.2.size _).grown grow' (by have := hsz.out; simp; omega) (fun j hj => (hI5.out.2.lt j hj).1))
            · rw [HS.out, List.length_append]; simpa [runeCs] using own'
          case measure => simp [intOf]; omega
        · have hmk : markB r = false := by unfold markB; rw [ho]; rfl
          have hwd : wideB r = false := by unfold wideB; rw [ho]; rfl
          have CO := fun (w : World) (h : Tabs w) => of_val r _ ho h
          have CM := fun (w : World) (h : Tabs w) => mark_val r _ hmk h
          have CW := fun (w : World) (h : Tabs w) => wide_val r _ hwd h
          have hcol := Lib.hid (colI_of ho (by omega))
          rw [HSB.out, ho, decide_eq_true (by omega), if_pos rfl] at HS
          clear ho hmk hwd HSB
          go_wp2_with fail
          refine (CO _ hI.out.1.1).mono ?_
          rintro e x1 ⟨rfl, hb⟩
          have hI1 := Lib.hid (hI.out.on hb)
          replace hck := cell_on hb hck
          clear hb hI
          go_wp2_with fail
          refine (CM _ hI1.out.1.1).mono ?_
          rintro e x2 ⟨rfl, hb⟩
          have hI2 := Lib.hid (hI1.out.on hb)
          replace hck := cell_on hb hck
          clear hb hI1
          go_wp2_with fail
          refine (CM _ hI2.out.1.1).mono ?_
          rintro e x3 ⟨rfl, hb⟩
          have hI3 := Lib.hid (hI2.out.on hb)
          replace hck := cell_on hb hck
          clear hb hI2
          go_wp2_with fail
          refine (CW _ hI3.out.1.1).mono ?_
          rintro e x4 ⟨rfl, hb⟩
          have hI4 := Lib.hid (hI3.out.on hb)
          replace hck := cell_on hb hck
          clear hb hI3
          have hsz := Lib.hid hI4.out.1.2.size
          go_wp2_with (at_builtin; refine wpList_append_own _ rfl (.tmp 80) (.tmp 85) 32 rfl w.heap.size 21 ib (.int .i32 0) 1 4 Tryd.underlying32 hi hz0 hz1 hz2 rfl (by decide) _ _ _ rfl (hI4.out.2.alloc _) ⟨x4.heap.size, 0, none⟩ 1 1 (runeCs [r]) rfl rfl ?c1 ?c2 ?c3 ?c4 ?c5 ?_)
          case c1 =>
            intro j u hj
            match j, hj with
            | 0, hj => simp at hj; subst hj; simp [Addr.add]
            | j + 1, hj => simp at hj
          case c2 => simp [Value.oneCell']
          case c3 => have := HKL.out; unfold maxLen; omega
          case c4 => have := HKL.out; omega
          case c5 => have := hsz.out; simp; omega
          intro p' w' own' grow' _
          go_wp2
          go_roundw
          case rel =>
            refine ⟨k + 1, q + 1, by omega, by go_num, by go_num, by omega, by omega, Lib.hid ?_, Lib.hid ⟨⟨?_, ?_⟩, ?_⟩⟩
            · rw [HS.out, sumC_snoc, hcol.out, ← hQ.out]
            · have hg := ((hI4.out.1.2.alloc hI4.out.1.2.size _).grown grow' (by have := hsz.out; simp; omega) (fun j hj => (hI4.out.2.lt j hj).1))
              exact HTW.out.below hg
            · exact ((hI4.out.1.2.alloc hI4.out.1.2.size _).grown grow' (by have := hsz.out; simp; omega) (fun j hj => (hI4.out.2.lt j hj).1))
            · rw [HS.out, List.length_append]; simpa [runeCs] using own'
          case measure => simp [intOf]; omega
        · have hmk : markB r = false := by unfold markB; rw [ho]; rfl
          have hwd : wideB r = true := by unfold wideB; rw [ho]; rfl
          have CO := fun (w : World) (h : Tabs w) => of_val r _ ho h
          have CM := fun (w : World) (h : Tabs w) => mark_val r _ hmk h
          have CW := fun (w : World) (h : Tabs w) => wide_val r _ hwd h
          have hcol := Lib.hid (colI_of ho (by omega))
          rw [HSB.out, ho, decide_eq_true (by omega), if_pos rfl] at HS
          clear ho hmk hwd HSB
          go_wp2_with fail
          refine (CO _ hI.out.1.1).mono ?_
          rintro e x1 ⟨rfl, hb⟩
          have hI1 := Lib.hid (hI.out.on hb)
          replace hck := cell_on hb hck
          clear hb hI
          go_wp2_with fail
          refine (CM _ hI1.out.1.1).mono ?_
          rintro e x2 ⟨rfl, hb⟩
          have hI2 := Lib.hid (hI1.out.on hb)
          replace hck := cell_on hb hck
          clear hb hI1
          go_wp2_with fail
          refine (CM _ hI2.out.1.1).mono ?_
          rintro e x3 ⟨rfl, hb⟩
          have hI3 := Lib.hid (hI2.out.on hb)
          replace hck := cell_on hb hck
          clear hb hI2
          go_wp2_with fail
          refine (CW _ hI3.out.1.1).mono ?_
          rintro e x4 ⟨rfl, hb⟩
          have hI4 := Lib.hid (hI3.out.on hb)
          replace hck := cell_on hb hck
          clear hb hI3
          have hsz := Lib.hid hI4.out.1.2.size
          go_wp2_with (at_builtin; refine wpList_append_own _ rfl (.tmp 80) (.tmp 85) 32 rfl w.heap.size 21 ib (.int .i32 0) 1 4 Tryd.underlying32 hi hz0 hz1 hz2 rfl (by decide) _ _ _ rfl (hI4.out.2.alloc _) ⟨x4.heap.size, 0, none⟩ 1 1 (runeCs [r]) rfl rfl ?c1 ?c2 ?c3 ?c4 ?c5 ?_)
          case c1 =>
            intro j u hj
            match j, hj with
            | 0, hj => simp at hj; subst hj; simp [Addr.add]
            | j + 1, hj => simp at hj
          case c2 => simp [Value.oneCell']
          case c3 => have := HKL.out; unfold maxLen; omega
          case c4 => have := HKL.out; omega
          case c5 => have := hsz.out; simp; omega
          intro p' w' own' grow' _
          go_wp2
          go_roundw
          case rel =>
            refine ⟨k + 1, q + 2, by omega, by go_num, by go_num, by omega, by omega, Lib.hid ?_, Lib.hid ⟨⟨?_, ?_⟩, ?_⟩⟩
            · rw [HS.out, sumC_snoc, hcol.out, ← hQ.out]
            · have hg := ((hI4.out.1.2.alloc hI4.out.1.2.size _).grown grow' (by have := hsz.out; simp; omega) (fun j hj => (hI4.out.2.lt j hj).1))
              exact HTW.out.below hg
            · exact ((hI4.out.1.2.alloc hI4.out.1.2.size _).grown grow' (by have := hsz.out; simp; omega) (fun j hj => (hI4.out.2.lt j hj).1))
            · rw [HS.out, List.length_append]; simpa [runeCs] using own'
          case measure => simp [intOf]; omega
      · obtain rfl : k = m1 := by omega
        have HE := Lib.hid (show keptK ls k = ls.filter shownB by unfold keptK; rw [List.take_of_length_le (by rw [hls.out]; exact Nat.le_refl _)])
        have hsA : A.size ≤ 240 := by
          have h1 := runesBytes_size_le (ls.filter shownB)
          have h2 := List.length_filter_le shownB ls
          rw [hls.out] at h2
          rw [HA.out]; omega
        have hsB : B.size ≤ 240 := by
          have h1 := runesBytes_size_le (ms.filter shownB)
          have h2 := List.length_filter_le shownB ms
          rw [HM.out.1] at h2
          rw [HBB.out]; omega
        have hq : q = sumC (ls.filter shownB) := by rw [hQ.out, HE.out]
        have T1 := fun (w : World) (h : Tabs w) => text_val A q (by rw [HA.out, tx_one HBl.out, hq]) (by omega) h
        have T2 := fun (w : World) (h : Tabs w) => text_val (A ++ B) (q + tx B) (by rw [HA.out, tx_app HBl.out, hq]) (by rw [ByteArray.size_append]; omega) h
        have T3 := fun (w : World) (h : Tabs w) => text_any B w h (by omega)
        have T4 := fun (w : World) (h : Tabs w) => text_val (A ++ gapB ++ B) (q + tx B) (by rw [HA.out, tx_gap HBl.out, hq]) (by rw [ByteArray.size_append, ByteArray.size_append]; show A.size + 6 + B.size ≤ _; omega) h
        have hAB : A ++ B = runesBytes ((ls ++ ms).filter shownB) := by rw [HA.out, HBB.out, bytes_app, List.filter_append]
        have HAB := Lib.hid hAB
        clear hAB hq
        have t0 : 0 ≤ tx B ∧ tx B ≤ 480 := by
          have h1 := txt_bd B.data.toList
          have h2 := size_eq B
          unfold tx
          omega
        generalize tx B = T at *
        have HK := Lib.hid (show runesBytes (keptK ls k) = A by rw [HE.out, ← HA.out])
        clear HE HA HBB HBl HBm hQ hls
        generalize keptK ls k = kp at *
        go_wp2_with fail
        refine (T1 _ hI.out.1.1).mono ?_
        rintro e x1 ⟨rfl, hb⟩
        have hI1 := Lib.hid (hI.out.on hb)
        clear hb hI
        have hcv := runes_of_own (P := Tryd.prog) (src := 32) (dst := 9) hI1.out.2 Tryd.underlying32 Tryd.underlying21 Tryd.underlying9
        rw [HK.out] at hcv
        go_wp2_with fail
        refine (T2 _ hI1.out.1.1).mono ?_
        rintro e x2 ⟨rfl, hb⟩
        have hI2 := Lib.hid (hI1.out.1.on hb)
        clear hb hI1 hcv HK
        go_wp2_with fail
        refine (T3 _ hI2.out.1).mono ?_
        rintro e x3 ⟨rfl, hb⟩
        have hI3 := Lib.hid (hI2.out.on hb)
        clear hb hI2
        have RL := Lib.hid (row_of_runes (HL.out.below hI3.out.2 (Nat.le_refl _)) Q1.out)
        have RM := Lib.hid (row_of_runes (HM.out.below hI3.out.2 (Nat.le_refl _)) Q2.out)
        have lL : (runeCs ls).length = k * 1 := by rw [List.length_map, HL.out.1]; omega
        have lM : (runeCs ms).length = m2 * 1 := by rw [List.length_map, HM.out.1]; omega
        have LL := Lib.hid lL
        have LM := Lib.hid lM
        have LSUM := Lib.hid (show (ls ++ ms).length = k + m2 by rw [List.length_append, HL.out.1, HM.out.1])
        clear lL lM HL HM Q1 Q2
        have hx3 := Lib.hid (World.ownsRow_lit (e := 21) (base := x3.heap.size) (size := 1) x3 #[] 0 (Nat.le_refl _) (Nat.zero_le _) rfl)
        go_wp2_with (at_builtin; refine wpList_append_row (by kernel_rfl) (.tmp 112) (.tmp 113) 32 rfl x3.heap.size 21 ib (.int .i32 0) 1 4 Tryd.underlying32 hi hz0 hz1 hz2 rfl (by decide) _ 0 [] rfl hx3.out k (runeCs ls) ?d1 LL.out ?d2 ?d3 ?d4 ?d5 ?_)
        case d1 => exact RL.out.on ((Below.refl x3.heap.size x3).alloc (Nat.le_refl _) _) (Nat.le_refl _)
        case d2 => simp [Value.oneCell']
        case d3 => unfold maxLen; omega
        case d4 => omega
        case d5 => simp
        intro v1 y1 own1 grow1
        have B1 := Lib.hid (((Below.refl x3.heap.size x3).alloc (Nat.le_refl _) _).grown grow1 (by simp) (fun j hj => (hx3.out.lt j hj).1))
        have O1 := Lib.hid (show y1.ownsRow x3.heap.size 21 1 v1 k (runeCs ls) by simpa using own1)
        clear own1 grow1 hx3 RL
        go_wp2_with (at_builtin; refine wpList_append_row (by kernel_rfl) (.tmp 114) (.tmp 115) 32 rfl x3.heap.size 21 ib (.int .i32 0) 1 4 Tryd.underlying32 hi hz0 hz1 hz2 rfl (by decide) v1 k (runeCs ls) rfl O1.out m2 (runeCs ms) ?f1 LM.out ?f2 ?f3 ?f4 ?f5 ?_)
        case f1 => exact RM.out.on B1.out (Nat.le_refl _)
        case f2 => simp [Value.oneCell']
        case f3 => unfold maxLen; omega
        case f4 => omega
        case f5 => exact B1.out.size
        intro v2 y2 own2 grow2
        have hB2 := B1.out.grown grow2 B1.out.size (fun j hj => (O1.out.lt j hj).1)
        have hI4 := Lib.hid (hI3.out.on hB2)
        obtain ⟨a3, cap3, rfl, R3⟩ := runes_of_row (ns := ls ++ ms) (show y2.ownsRow x3.heap.size 21 1 v2 (k + m2) (runeCs (ls ++ ms)) by simpa [runeCs] using own2)
        have HR3 := Lib.hid R3
        clear own2 grow2 hB2 R3 B1 O1 RM hI3
        have C5 := fun (w : World) (h : Tabs w) (r : RunesAt w a3 (k + m2) (ls ++ ms)) => shown_any a3 (k + m2) cap3 (ls ++ ms) w h r (by omega)
        rw [← HAB.out] at C5
        clear HAB
        go_wp2_with fail
        refine (C5 _ hI4.out.1 HR3.out).mono ?_
        rintro e x5 ⟨rfl, hb⟩
        have hI5 := Lib.hid (hI4.out.on hb)
        clear hb hI4 HR3 C5
        go_wp2_with fail
        refine (T4 _ hI5.out.1).mono ?_
        rintro e x6 ⟨rfl, hb⟩
        have hI6 := Lib.hid (hI5.out.on hb)
        clear hb hI5
        go_wp2_with fail
        refine (T3 _ hI6.out.1).mono ?_
        rintro e x7 ⟨rfl, hb⟩
        have hI7 := Lib.hid (hI6.out.on hb)
        clear hb hI6
        go_wp2
        go_ret
        exact ⟨rfl, hI7.out.2⟩
end Go.Proofs.YtegkoncpoghbfaaDoor.Lab
