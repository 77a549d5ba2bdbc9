/- What width.Shown answers of any runes. -/
import Derived.Test.YtegkoncpoghbfaaDoorWiWorks
import Derived.Laws.AppendOwn
import Derived.Laws.AppendOwnNone
namespace Go.Proofs.YtegkoncpoghbfaaDoor.Lab
open Go.RowKit Go.Lib

def shownB (r : Int) : Bool := decide (0 ≤ ofI r)
/-- What is shown of the first k runes. -/
def keptK (ns : List Int) (k : Nat) : List Int := (ns.take k).filter shownB
abbrev runeCs (ns : List Int) : List Value := ns.map (Value.int .i32)
theorem kept_snoc (ns : List Int) (k : Nat) (h : k < ns.length) : keptK ns (k + 1) = if shownB (ns.getD k 0) = true then keptK ns k ++ [ns.getD k 0] else keptK ns k := by
  unfold keptK
  rw [List.take_succ_eq_append_getElem h, List.filter_append]
  have e : ns.getD k 0 = ns[k] := by simp [List.getD, List.getElem?_eq_getElem h]
  rw [e]
  cases hs : shownB ns[k] <;> simp [List.filter, hs]
theorem kept_len (ns : List Int) (k : Nat) : (keptK ns k).length ≤ k := by
  unfold keptK
  have h1 := List.length_filter_le shownB (ns.take k)
  have h2 : (ns.take k).length ≤ k := List.length_take_le _ _
  omega

/-- A row of runes, or none, that can be read. -/
def RunesAt (w : World) (a : Option Addr) (n : Nat) (ns : List Int) : Prop :=
  ns.length = n ∧ (n = 0 ∨ ∃ b off, a = some ⟨b, off, none⟩ ∧ b < w.heap.size ∧ ∀ i, i < n → w.cell? ⟨b, off + i, none⟩ = some (.int .i32 (ns.getD i 0)))
theorem RunesAt.below {w w' : World} {a : Option Addr} {n : Nat} {ns : List Int} {m : Nat} (h : RunesAt w a n ns) (hb : Below m w w') (hm : w.heap.size ≤ m) : RunesAt w' a n ns := by
  obtain ⟨h0, h1⟩ := h
  refine ⟨h0, ?_⟩
  rcases h1 with h1 | ⟨b, off, h2, h3, h4⟩
  · exact .inl h1
  · exact .inr ⟨b, off, h2, Nat.lt_of_lt_of_le h3 hb.size, fun i hi => (hb.cell (p := ⟨b, off + i, none⟩) (by show b < m; omega)).trans (h4 i hi)⟩

theorem runes_of_own {P : Program} {w : World} {base : Nat} {T src dst : TypeId} {v : Value} {m : Nat} {ns : List Int} (h : w.ownsRow base T 1 v m (runeCs ns)) (hs : P.underlying src = some (.slice T)) (he : P.underlying T = some (.int .i32)) (hd : P.underlying dst = some .string) :
    (convert src dst v).run P w = .ok (.string (runesBytes ns)) w := by
  have hl : ns.length = m := by simpa using h.1
  rcases h.2 with ⟨rfl, rfl⟩ | ⟨g, cap, cur, rfl, hb, hg, hr⟩
  · have h0 : ns = [] := List.eq_nil_of_length_eq_zero hl
    subst h0
    rw [run_convert_runes_nil w src dst T _ _ hs he hd]
    rfl
  · rw [run_convert_runes w src dst T ⟨g, 0, none⟩ m cap ns (by omega) hs he hd, List.take_of_length_le (by omega)]
    intro j hj
    exact h.cells (g := g) rfl j _ (by simp [List.getD, List.getElem?_eq_getElem hj])

theorem own_below {w w' : World} {base : Nat} {T size n : Nat} {v : Value} {xs : List Value} (h : w.ownsRow base T size v n xs) (hb : Below w.heap.size w w') : w'.ownsRow base T size v n xs := by
  obtain ⟨h1, h2⟩ := h
  refine ⟨h1, ?_⟩
  rcases h2 with h2 | ⟨g, cap, cur, a, b, c, d⟩
  · exact .inl h2
  · have hlt : g < w.heap.size := (Array.getElem?_eq_some_iff.1 c).1
    exact .inr ⟨g, cap, cur, a, b, (hb.block g hlt).trans c, d⟩

set_option maxRecDepth 100000 in
set_option maxHeartbeats 4000000 in
theorem shown_any (a : Option Addr) (n cap : Nat) (ns : List Int) (w : World) (hT : Tabs w) (hR : RunesAt w a n ns) (hn : n ≤ 1000) :
    Calls Tryd.prog 13 #[.slice a n cap] w fun e w' => e = .returned (.string (runesBytes (ns.filter shownB))) ∧ Below w.heap.size w w' := by
  have H := Lib.hid hT
  have HN := Lib.hid hR
  clear hT hR
  obtain ⟨ib, hi⟩ := Option.isSome_iff_exists.1 (show (Tryd.prog.info? 21).isSome = true by kernel_rfl)
  have hz : (Tryd.prog.info? 21).map (fun i => (i.zero, i.size, i.bytes)) = some (some (.int .i32 0), 1, 4) := by kernel_rfl
  rw [hi] at hz
  simp only [Option.map_some, Option.some.injEq, Prod.mk.injEq] at hz
  obtain ⟨hz0, hz1, hz2⟩ := hz
  go_enter Tryd.func13, Tryd.ntmps13
  go_wp2
  have hls := Lib.hid HN.out.1
  go_loopw [3, 8] (fun vs vi wr => ∃ k : Nat, k ≤ n ∧ vi = .int .i64 k ∧ Hid (Below w.heap.size w wr) ∧ Hid (wr.ownsRow w.heap.size 21 1 vs (keptK ns k).length (runeCs (keptK ns k)))) (fun _ vi _ => n - (intOf vi).toNat)
  case atStart => exact ⟨0, Nat.zero_le _, rfl, Lib.hid (Below.refl _ _), Lib.hid (World.ownsRow_nil _ _ _ _)⟩
  case round =>
    obtain ⟨k, hk, rfl, hB, hO⟩ := hrel
    by_cases hlt : k < n
    · have HA := HN.out.below hB.out (Nat.le_refl _)
      obtain ⟨b, off, rfl, hb, hc⟩ : ∃ b off, a = some ⟨b, off, none⟩ ∧ b < wr.heap.size ∧ ∀ i, i < n → wr.cell? ⟨b, off + i, none⟩ = some (.int .i32 (ns.getD i 0)) := by
        rcases HA.2 with h0 | h
        · omega
        · exact h
      have hck := hc k hlt
      have HS := Lib.hid (kept_snoc ns k (by rw [hls.out]; exact hlt))
      have HKL := Lib.hid (kept_len ns k)
      have HSB := Lib.hid (show shownB (ns.getD k 0) = decide (0 ≤ ofI (ns.getD k 0)) from rfl)
      clear hc HA
      generalize ns.getD k 0 = r at *
      go_wp2_with fail
      refine (of_any r _ (H.out.below hB.out)).mono ?_
      rintro e w5 ⟨rfl, hb5⟩
      have HB5 := Lib.hid (hB.out.trans (hb5.mono hB.out.size))
      have HO5 := Lib.hid (own_below hO.out hb5)
      clear hb5
      have hsz := Lib.hid HB5.out.size
      by_cases hs : 0 ≤ ofI r
      · rw [HSB.out, decide_eq_true hs, if_pos rfl] at HS
        generalize ofI r = o at *
        go_wp2_with (at_builtin; refine wpList_append_own _ rfl (.tmp 15) (.tmp 17) 32 rfl w.heap.size 21 ib (.int .i32 0) 1 4 Tryd.underlying32 hi hz0 hz1 hz2 rfl (by decide) _ _ _ rfl (HO5.out.alloc _) ⟨w5.heap.size, 0, none⟩ 1 1 (runeCs [r]) rfl rfl ?c1 ?c2 ?c3 ?c4 ?c5 ?_)
        case c1 =>
          intro j u hj
          match j, hj with
          | 0, hj => simp at hj; subst hj; simp [Addr.add]
          | j + 1, hj => simp at hj
        case c2 => simp [Value.oneCell']
        case c3 => have := HKL.out; unfold maxLen; omega
        case c4 => have := HKL.out; omega
        case c5 => have := hsz.out; simp; omega
        intro p' w' own' grow' _
        go_wp2
        go_roundw
        case rel => exact ⟨k + 1, by omega, by go_num, Lib.hid ((HB5.out.alloc HB5.out.size _).grown grow' (by have := hsz.out; simp; omega) (fun j hj => (HO5.out.lt j hj).1)), Lib.hid (by rw [HS.out, List.length_append]; simpa [runeCs] using own')⟩
        case measure => simp [intOf]; omega
      · rw [HSB.out, decide_eq_false hs, if_neg (by simp)] at HS
        generalize ofI r = o at *
        go_wp2
        go_roundw
        case rel => exact ⟨k + 1, by omega, by go_num, HB5, Lib.hid (by rw [HS.out]; exact HO5.out)⟩
        case measure => simp [intOf]; omega
    · obtain rfl : k = n := by omega
      have hcv := runes_of_own (P := Tryd.prog) (src := 32) (dst := 9) hO.out Tryd.underlying32 Tryd.underlying21 Tryd.underlying9
      have HE := Lib.hid (show keptK ns k = ns.filter shownB by unfold keptK; rw [List.take_of_length_le (by rw [hls.out]; exact Nat.le_refl _)])
      generalize keptK ns k = kp at *
      go_wp2
      go_ret
      exact ⟨by rw [← HE.out]; rfl, hB.out⟩

theorem shown_nil {w : World} (hT : Tabs w) : Calls Tryd.prog 13 #[.slice none 0 0] w fun e w' => e = .returned (.string ⟨#[]⟩) ∧ Below w.heap.size w w' :=
  shown_any none 0 0 [] w hT ⟨rfl, .inl rfl⟩ (by omega)
end Go.Proofs.YtegkoncpoghbfaaDoor.Lab
