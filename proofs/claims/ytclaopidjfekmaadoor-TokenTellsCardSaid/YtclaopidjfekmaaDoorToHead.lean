/- Right; a token's bytes: digits, joined, head, laid. -/
import Derived.Test.YtclaopidjfekmaaDoorToRightB
import Derived.Lib.AppendIntMem
namespace Go.Proofs.YtclaopidjfekmaaDoor.Lab
open Go Go.RowKit

/-- The table that strconv reads; nothing turns it. -/
def Pow (w : World) : Prop := Lib.TabBelow Tryd.prog w.heap.size w "internal/strconv.uint64pow10" .u64 Lib.pow10Tab
theorem Pow.on {w w' : World} (h : Pow w) (hb : Below w.heap.size w w') : Pow w' := fun _ h' => h _ (hb.trans (h'.mono hb.size))

def numS (x : Int) : ByteArray := ⟨(numT x).toArray⟩
def rowS (r : List Int) : ByteArray := ⟨(rowT r).toArray⟩
set_option maxHeartbeats 1000000 in
theorem digits_any (x : Int) (h0 : -1 ≤ x) (h1 : x ≤ 65535) (w : World) (hP : Pow w) : Calls Tryd.prog 70 #[.int .i64 x] w fun e w' => e = .returned (.string (numS x)) ∧ Below w.heap.size w w' := by
  have HP := Lib.hid hP
  clear hP
  by_cases h : x = -1
  · subst h
    go_enter Tryd.func70, Tryd.ntmps70
    go_wp2
    go_ret
    exact ⟨rfl, Below.refl _ _⟩
  · have e1 : (x == -1) = false := by simpa using h
    have HN := Lib.hid (show numS x = ⟨(Lib.itoa x).toArray⟩ by rw [numS, numT, if_neg (by omega)])
    rw [HN.out]
    clear h
    go_enter Tryd.func70, Tryd.ntmps70
    go_wp2_with fail
    refine (Tryd.strconv_Itoa x (by omega) (by omega) _ HP.out.here).mono ?_
    rintro e w' ⟨rfl, kk, os, rfl⟩
    have HB := Lib.hid (Lib.below_grow w.heap.size w (Nat.le_refl _) kk os)
    generalize Go.Sort.grow (w.drewN kk) os = w2 at HB ⊢
    go_wp2
    go_ret
    exact ⟨rfl, HB.out⟩

theorem infoStr : (Tryd.prog.info? 9).map (fun i => (i.zero, i.size, i.bytes)) = some (some (.string ⟨#[]⟩), 1, 16) := by kernel_rfl
theorem own_slice {w : World} {base : Nat} {e : TypeId} {size n : Nat} {v : Value} {xs : List Value} (h : w.ownsRow base e size v n xs) : ∃ a m c, v = .slice a m c := by
  rcases h.2 with ⟨rfl, _⟩ | ⟨g, cap, cur, rfl, _⟩
  · exact ⟨_, _, _, rfl⟩
  · exact ⟨_, _, _, rfl⟩
theorem new_cells (w : World) (l : List Value) (T : TypeId) (n : Nat) (hn : n = w.heap.size) : ∀ j u, l[j]? = some u → (w.alloc (.cells l.toArray T)).cell? ((⟨n, 0, none⟩ : Addr).add j) = some u := by
  intro j u hj
  have hp : (⟨n, 0, none⟩ : Addr).add j = ⟨n, 0 + j, none⟩ := by unfold Addr.add; split <;> simp_all
  rw [hp, Nat.zero_add, World.cell?_alloc_at _ _ _ _ hn, List.getElem?_toArray]
  exact hj
theorem join_eq {α : Type} (sep : UInt8) (f : α → List UInt8) : ∀ l : List α, Lib.join (l.map f) [sep] = joinT sep f l
  | [] => rfl
  | x :: t => by
    rw [List.map_cons, Lib.join_cons, joinT, Lib.joinTail, List.map_map, ← List.flatMap_def]
    rfl

set_option maxHeartbeats 4000000 in
set_option maxRecDepth 100000 in
theorem joined_int (v : Value) (l : List Int) (w : World) (hM : NumsAt w v l) (hn : l.length ≤ 8) (hl : ∀ x ∈ l, -1 ≤ x ∧ x ≤ 65535) (hP : Pow w) :
    Calls Tryd.prog 69 #[v, .string ⟨#[58]⟩, .func (.func 70) #[] #[]] w fun e w' => e = .returned (.string ⟨(joinT 58 numT l).toArray⟩) ∧ Below w.heap.size w w' := by
  obtain ⟨a, cp, rfl, _, hc⟩ := hM
  obtain ⟨n, hnn⟩ : ∃ n, l.length = n := ⟨_, rfl⟩
  rw [hnn] at hc hn ⊢
  have HC := Lib.hid hc
  have HN := Lib.hid hnn
  have HL := Lib.hid hl
  have HP := Lib.hid hP
  obtain ⟨ib, hi, hz0, hz1, hz2⟩ := info_parts infoStr
  clear hc hnn hl hP
  go_enter Tryd.func69, Tryd.ntmps69
  go_wp2
  go_loopw [7, 12] (fun vl i wr => ∃ k : Nat, k ≤ n ∧ i = .int .i64 k ∧ Hid (wr.ownsRow w.heap.size 9 1 vl k ((l.take k).map fun x => Value.string (numS x))) ∧ Hid (Below w.heap.size w wr)) (fun _ i _ => n - (intOf i).toNat)
  case atStart => exact ⟨0, Nat.zero_le _, rfl, Lib.hid (World.ownsRow_nil _ _ _ 1), Lib.hid (Below.refl _ _)⟩
  case round =>
    obtain ⟨wo, rfl⟩ : ∃ wo : World, wo = wr := ⟨_, rfl⟩
    obtain ⟨k, hk, rfl, HO, HB⟩ := hrel
    by_cases hlt : k < n
    · obtain ⟨g, o, ha, hcell⟩ := HC.out (by omega)
      have c1 := Keeps.of HB.out _ _ _ (hcell k hlt)
      have HX := Lib.hid (take_at' l 0 (k := k) (by rw [HN.out]; exact hlt))
      have HE := Lib.hid (HL.out _ (getD_mem' (l := l) 0 (k := k) (by rw [HN.out]; exact hlt)))
      have HPO := Lib.hid (HP.out.on HB.out)
      obtain ⟨x, hx⟩ : ∃ x, l.getD k 0 = x := ⟨_, rfl⟩
      rw [hx] at HX HE c1
      clear hcell hx
      subst ha
      go_wp2_with fail
      refine (digits_any x HE.out.1 HE.out.2 _ HPO.out).mono ?_
      rintro e w2 ⟨rfl, b2⟩
      have HB2 := Lib.hid (HB.out.trans (b2.mono HB.out.size))
      have ho := HO.out.kept (row := none) ⟨b2.os, b2.tape, b2.output, b2.size, fun j hj _ => b2.block j hj⟩ (by
        rcases HO.out.2 with ⟨rfl, _⟩ | ⟨g', cap, cur, rfl, _⟩
        · exact .inl rfl
        · exact .inr (by simp [Value.ownBlock]))
      clear b2
      go_wp2_with (at_builtin; refine wpList_append_own _ rfl (.tmp 16) (.tmp 20) 100 rfl w.heap.size 9 ib (.string ⟨#[]⟩) 1 16 Tryd.underlying100 hi hz0 hz1 hz2 rfl (by decide) _ k _ rfl (ho.alloc _) ⟨w2.heap.size, 0, none⟩ 1 1 [.string (numS x)] rfl rfl ?c1 ?c2 ?c3 ?c4 ?c5 ?_)
      case c1 => exact new_cells w2 [.string (numS x)] 9 _ rfl
      case c2 => simp [Value.oneCell']
      case c3 => unfold maxLen; omega
      case c4 => omega
      case c5 => have := HB2.out.size; simp; omega
      intro v' w3 own3 grow3 _
      have b3 : Below w.heap.size w w3 := (HB2.out.alloc HB2.out.size _).grown grow3 (by have := HB2.out.size; simp; omega) (fun j hj => (ho.lt j hj).1)
      have HB3 := Lib.hid b3
      have o3 : w3.ownsRow w.heap.size 9 1 v' (k + 1) ((l.take (k + 1)).map fun x => Value.string (numS x)) := by
        rw [HX.out, List.map_append, List.map_take]
        exact own3
      have HO3 := Lib.hid o3
      clear own3 grow3 b3 o3 ho
      go_wp2
      go_roundw
      case rel => exact ⟨k + 1, by omega, by go_num, HO3, HB3⟩
      case measure => simp [intOf]; omega
    · obtain rfl : k = n := by omega
      have HTK := Lib.hid (show l.take k = l from List.take_of_length_le (by rw [HN.out]; exact Nat.le_refl _))
      have ho := HO.out
      rw [HTK.out] at ho
      have HJ := Lib.hid (show Lib.join (l.map numT) [58] = joinT 58 numT l from join_eq 58 numT l)
      rcases ho.2 with ⟨rfl, h0⟩ | ⟨g, cap, cur, rfl, hg, _, hcap, _⟩
      · have h0' : l = [] := List.length_eq_zero_iff.1 (HN.out.trans h0)
        have HJ0 := Lib.hid (show joinT 58 numT l = [] by rw [h0']; rfl)
        clear ho h0'
        go_wp2_with fail
        refine (Tryd.strings_Join_none none 0 ⟨#[58]⟩ _).mono ?_
        rintro e w2 ⟨rfl, rfl⟩
        go_wp2
        go_ret
        exact ⟨by rw [HJ0.out]; rfl, HB.out⟩
      · have hlt := (ho.lt g rfl).2
        have hcells : ∀ (j : Nat) x, (l.map numS)[j]? = some x → wo.cell? ⟨g, 0 + j, none⟩ = some (.string x) := by
          intro j x hx
          have := ho.cells (g := g) rfl j (.string x) (by
            rw [List.getElem?_map] at hx ⊢
            cases hy : l[j]? with
            | none => rw [hy] at hx; simp at hx
            | some y => rw [hy] at hx; simp at hx; simp [hx])
          rwa [Addr.add_mid] at this
        have hmap : (l.map numS).map (·.data.toList) = l.map numT := by
          rw [List.map_map]
          rfl
        have hlen : (Lib.join ((l.map numS).map (·.data.toList)) [58]).length ≤ 140737488355328 := by
          rw [hmap, HJ.out]
          have := joinT_len 58 numT 5 l fun x hx => num_len (HL.out x hx).1 (HL.out x hx).2
          have h9 : l.length ≤ 8 := by rw [HN.out]; exact hn
          omega
        have C := Tryd.strings_Join g 0 cap (l.map numS) ⟨#[58]⟩ wo hcells hlt (by rw [List.length_map, HN.out]; omega) (by rw [List.length_map, HN.out]; exact hcap) hlen
        rw [show (⟨#[58]⟩ : ByteArray).data.toList = [58] from rfl, hmap, HJ.out, List.length_map, HN.out] at C
        have HCC := Lib.hid C
        clear C hcells hmap hlen ho hcap
        go_wp2_with fail
        refine HCC.out.mono ?_
        rintro e w2 ⟨rfl, b2⟩
        have HB2 := Lib.hid (HB.out.trans (b2.mono HB.out.size))
        clear b2
        go_wp2
        go_ret
        exact ⟨rfl, HB2.out⟩

set_option maxHeartbeats 1000000 in
theorem head1_any (v : Value) (r : List Int) (w : World) (hM : NumsAt w v r) (hr : okRow r) (hP : Pow w) : Calls Tryd.prog 68 #[v] w fun e w' => e = .returned (.string (rowS r)) ∧ Below w.heap.size w w' := by
  have HC := Lib.hid (joined_int v r w hM hr.2.1 hr.2.2 hP)
  clear hM hr hP
  go_enter Tryd.func68, Tryd.ntmps68
  go_wp2_with fail
  refine HC.out.mono ?_
  rintro e w2 ⟨rfl, b2⟩
  have HB2 := Lib.hid b2
  clear b2
  go_wp2
  go_ret
  exact ⟨rfl, HB2.out⟩

set_option maxHeartbeats 4000000 in
set_option maxRecDepth 100000 in
theorem joined_mat (v : Value) (l : List (List Int)) (w : World) (hM : MatAt w v l) (hn : l.length ≤ 32) (hl : ∀ x ∈ l, okRow x) (hP : Pow w) :
    Calls Tryd.prog 67 #[v, .string ⟨#[59]⟩, .func (.func 68) #[] #[]] w fun e w' => e = .returned (.string ⟨(joinT 59 rowT l).toArray⟩) ∧ Below w.heap.size w w' := by
  obtain ⟨a, cp, rfl, _, hc⟩ := hM
  obtain ⟨n, hnn⟩ : ∃ n, l.length = n := ⟨_, rfl⟩
  rw [hnn] at hc hn ⊢
  have HC := Lib.hid hc
  have HN := Lib.hid hnn
  have HL := Lib.hid hl
  have HP := Lib.hid hP
  obtain ⟨ib, hi, hz0, hz1, hz2⟩ := info_parts infoStr
  clear hc hnn hl hP
  go_enter Tryd.func67, Tryd.ntmps67
  go_wp2
  go_loopw [7, 12] (fun vl i wr => ∃ k : Nat, k ≤ n ∧ i = .int .i64 k ∧ Hid (wr.ownsRow w.heap.size 9 1 vl k ((l.take k).map fun x => Value.string (rowS x))) ∧ Hid (Below w.heap.size w wr)) (fun _ i _ => n - (intOf i).toNat)
  case atStart => exact ⟨0, Nat.zero_le _, rfl, Lib.hid (World.ownsRow_nil _ _ _ 1), Lib.hid (Below.refl _ _)⟩
  case round =>
    obtain ⟨wo, rfl⟩ : ∃ wo : World, wo = wr := ⟨_, rfl⟩
    obtain ⟨k, hk, rfl, HO, HB⟩ := hrel
    by_cases hlt : k < n
    · obtain ⟨g, o, ha, hcell⟩ := HC.out (by omega)
      obtain ⟨u, c0, hu0⟩ := hcell k hlt
      have c1 := Keeps.of HB.out _ _ _ c0
      have HU := Lib.hid (hu0.below HB.out)
      clear c0 hu0
      have HX := Lib.hid (take_at' l [] (k := k) (by rw [HN.out]; exact hlt))
      have HE := Lib.hid (HL.out _ (getD_mem' (l := l) [] (k := k) (by rw [HN.out]; exact hlt)))
      have HPO := Lib.hid (HP.out.on HB.out)
      obtain ⟨x, hx⟩ : ∃ x, l.getD k [] = x := ⟨_, rfl⟩
      rw [hx] at HX HE HU
      clear hcell hx
      subst ha
      go_wp2_with fail
      refine (head1_any u x _ HU.out HE.out HPO.out).mono ?_
      rintro e w2 ⟨rfl, b2⟩
      have HB2 := Lib.hid (HB.out.trans (b2.mono HB.out.size))
      have ho := HO.out.kept (row := none) ⟨b2.os, b2.tape, b2.output, b2.size, fun j hj _ => b2.block j hj⟩ (by
        rcases HO.out.2 with ⟨rfl, _⟩ | ⟨g', cap, cur, rfl, _⟩
        · exact .inl rfl
        · exact .inr (by simp [Value.ownBlock]))
      clear b2
      go_wp2_with (at_builtin; refine wpList_append_own _ rfl (.tmp 16) (.tmp 20) 100 rfl w.heap.size 9 ib (.string ⟨#[]⟩) 1 16 Tryd.underlying100 hi hz0 hz1 hz2 rfl (by decide) _ k _ rfl (ho.alloc _) ⟨w2.heap.size, 0, none⟩ 1 1 [.string (rowS x)] rfl rfl ?c1 ?c2 ?c3 ?c4 ?c5 ?_)
      case c1 => exact new_cells w2 [.string (rowS x)] 9 _ rfl
      case c2 => simp [Value.oneCell']
      case c3 => unfold maxLen; omega
      case c4 => omega
      case c5 => have := HB2.out.size; simp; omega
      intro v' w3 own3 grow3 _
      have b3 : Below w.heap.size w w3 := (HB2.out.alloc HB2.out.size _).grown grow3 (by have := HB2.out.size; simp; omega) (fun j hj => (ho.lt j hj).1)
      have HB3 := Lib.hid b3
      have o3 : w3.ownsRow w.heap.size 9 1 v' (k + 1) ((l.take (k + 1)).map fun x => Value.string (rowS x)) := by
        rw [HX.out, List.map_append, List.map_take]
        exact own3
      have HO3 := Lib.hid o3
      clear own3 grow3 b3 o3 ho
      go_wp2
      go_roundw
      case rel => exact ⟨k + 1, by omega, by go_num, HO3, HB3⟩
      case measure => simp [intOf]; omega
    · obtain rfl : k = n := by omega
      have HTK := Lib.hid (show l.take k = l from List.take_of_length_le (by rw [HN.out]; exact Nat.le_refl _))
      have ho := HO.out
      rw [HTK.out] at ho
      have HJ := Lib.hid (show Lib.join (l.map rowT) [59] = joinT 59 rowT l from join_eq 59 rowT l)
      rcases ho.2 with ⟨rfl, h0⟩ | ⟨g, cap, cur, rfl, hg, _, hcap, _⟩
      · have h0' : l = [] := List.length_eq_zero_iff.1 (HN.out.trans h0)
        have HJ0 := Lib.hid (show joinT 59 rowT l = [] by rw [h0']; rfl)
        clear ho h0'
        go_wp2_with fail
        refine (Tryd.strings_Join_none none 0 ⟨#[59]⟩ _).mono ?_
        rintro e w2 ⟨rfl, rfl⟩
        go_wp2
        go_ret
        exact ⟨by rw [HJ0.out]; rfl, HB.out⟩
      · have hlt := (ho.lt g rfl).2
        have hcells : ∀ (j : Nat) x, (l.map rowS)[j]? = some x → wo.cell? ⟨g, 0 + j, none⟩ = some (.string x) := by
          intro j x hx
          have := ho.cells (g := g) rfl j (.string x) (by
            rw [List.getElem?_map] at hx ⊢
            cases hy : l[j]? with
            | none => rw [hy] at hx; simp at hx
            | some y => rw [hy] at hx; simp at hx; simp [hx])
          rwa [Addr.add_mid] at this
        have hmap : (l.map rowS).map (·.data.toList) = l.map rowT := by
          rw [List.map_map]
          rfl
        have hlen : (Lib.join ((l.map rowS).map (·.data.toList)) [59]).length ≤ 140737488355328 := by
          rw [hmap, HJ.out]
          have := joinT_len 59 rowT 48 l fun x hx => row_len (HL.out x hx)
          have h9 : l.length ≤ 32 := by rw [HN.out]; exact hn
          omega
        have C := Tryd.strings_Join g 0 cap (l.map rowS) ⟨#[59]⟩ wo hcells hlt (by rw [List.length_map, HN.out]; omega) (by rw [List.length_map, HN.out]; exact hcap) hlen
        rw [show (⟨#[59]⟩ : ByteArray).data.toList = [59] from rfl, hmap, HJ.out, List.length_map, HN.out] at C
        have HCC := Lib.hid C
        clear C hcells hmap hlen ho hcap
        go_wp2_with fail
        refine HCC.out.mono ?_
        rintro e w2 ⟨rfl, b2⟩
        have HB2 := Lib.hid (HB.out.trans (b2.mono HB.out.size))
        clear b2
        go_wp2
        go_ret
        exact ⟨rfl, HB2.out⟩
end Go.Proofs.YtclaopidjfekmaaDoor.Lab
