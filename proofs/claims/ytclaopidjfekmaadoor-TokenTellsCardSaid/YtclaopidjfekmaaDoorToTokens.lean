/- The reference's Tokens: the tokens of a row of drafts. -/
import Derived.Test.YtclaopidjfekmaaDoorToTRow
namespace Go.Proofs.YtclaopidjfekmaaDoor.Lab
open Go Go.RowKit

theorem infoT : (Tryd.prog.info? 27).map (fun i => (i.zero, i.size, i.bytes)) = some (some (.agg #[.int .i64 0, .int .i32 0, .int .u8 0, .slice none 0 0, .string ⟨#[]⟩, .int .u8 0, .string ⟨#[]⟩]), 7, 80) := by kernel_rfl
/-- The tokens of drafts. -/
def drToks (T : Nat → Dr) (n : Nat) : List Tok := (List.range n).map fun i => (T i).tok
theorem drToks_succ (T : Nat → Dr) (n : Nat) : drToks T (n + 1) = drToks T n ++ [(T n).tok] := by simp [drToks, List.range_succ]
theorem drToks_len (T : Nat → Dr) (n : Nat) : (drToks T n).length = n := by simp [drToks]
theorem Dr.right {W : World} {x : Dr} (h : x.Ok W) : Right x.tok ∧ x.tok.wf := by
  obtain ⟨_, _, _, _, _, _, hB⟩ := h
  obtain ⟨h1, h2⟩ := tokD_right x.K x.p x.r x.PP x.I x.f x.d hB
  exact ⟨h2, h1⟩
theorem drToks_right {W : World} {T : Nat → Dr} {n : Nat} (h : ∀ i, i < n → (T i).Ok W) : AllR (drToks T n) := by
  intro t ht
  obtain ⟨i, hi, rfl⟩ := List.mem_map.1 ht
  exact Dr.right (h i (List.mem_range.1 hi))

set_option maxHeartbeats 4000000 in
set_option maxRecDepth 100000 in
theorem tokens_any (a : Option Addr) (len cap : Nat) (T : Nat → Dr) (M : Nat) (x : Int) (hx : x = (M : Int)) (hM : M ≤ 100) (w : World) (hD : IsDrafts w a len cap T) :
    Calls Tryd.prog 7 #[.slice a len cap, .int .i64 x] w fun e w' => ∃ v L, e = .returned v ∧ TRow w' w.heap.size v L ∧ L.map Prod.fst = drToks T (min len M) ∧ Below w.heap.size w w' := by
  subst hx
  obtain ⟨hlc, hcm, hok, hcell⟩ := hD
  obtain ⟨n, hn⟩ : ∃ n, n = min len M := ⟨_, rfl⟩
  rw [← hn]
  have HN := Lib.hid hn
  have HOK := Lib.hid hok
  have HC := Lib.hid hcell
  have HL := Lib.hid (show len ≤ maxLen by omega)
  have hlm := HL.out
  unfold maxLen at hlm
  obtain ⟨ib, hi, hz0, hz1, hz2⟩ := info_parts infoT
  clear hn hok hcell hlc hcm
  go_enter Tryd.func7, Tryd.ntmps7
  go_wp2
  go_loopw [5, 6] (fun v i wr => ∃ k : Nat, ∃ L : TVs, k ≤ n ∧ i = .int .i64 k ∧ Hid (TRow wr w.heap.size v L) ∧ Hid (L.map Prod.fst = drToks T k) ∧ Hid (Below w.heap.size w wr)) (fun _ i _ => n - (intOf i).toNat)
  case atStart => exact ⟨0, [], Nat.zero_le _, rfl, Lib.hid (TRow.nil _ _), Lib.hid rfl, Lib.hid (Below.refl _ _)⟩
  case round =>
    obtain ⟨wo, rfl⟩ : ∃ wo : World, wo = wr := ⟨_, rfl⟩
    obtain ⟨k, L, hk, rfl, HR, HE, HB⟩ := hrel
    have HLK := Lib.hid (show L.length = k by have := congrArg List.length HE.out; rwa [List.length_map, drToks_len] at this)
    by_cases hlt : k < n
    · have hkl : k < len := by have := HN.out; omega
      have hkM : k < M := by have := HN.out; omega
      obtain ⟨g, o, ha, _, hdr⟩ := HC.out (by omega)
      obtain ⟨c0, c1, c2, c3, c4, c5, c6⟩ := hdr k hkl
      have KB := Keeps.of HB.out
      replace c0 := KB _ _ _ c0
      replace c1 := KB _ _ _ c1
      replace c2 := KB _ _ _ c2
      replace c3 := KB _ _ _ c3
      replace c4 := KB _ _ _ c4
      replace c5 := KB _ _ _ c5
      replace c6 := KB _ _ _ c6
      have HO := Lib.hid ((HOK.out k hkl).on KB)
      have HT := Lib.hid (drToks_succ T k)
      obtain ⟨x, hx⟩ : ∃ x, T k = x := ⟨_, rfl⟩
      rw [hx] at c0 c1 c2 c3 c4 c5 c6 HO HT
      clear hx hdr KB
      subst ha
      go_wp2_with fail
      refine (draft_own x.K x.p x.r x.pv x.iv x.PP x.I x.f x.d wo HO.out.1.1 HO.out.1.2 HO.out.2.1.1 HO.out.2.2.1.1 HO.out.2.2.1.2 HO.out.2.2.2.2.2.1 HO.out.2.2.2.2.1).mono ?_
      obtain ⟨t, ht⟩ : ∃ t, tokD x.K x.p x.r x.PP x.I x.f x.d = t := ⟨_, rfl⟩
      have HTT := Lib.hid (show drToks T (k + 1) = drToks T k ++ [t] by rw [← ht]; exact HT.out)
      rw [ht]
      clear ht HT
      rintro e w3 ⟨va, vn, vc, rfl, ⟨B3, hB3, hR3⟩, b3⟩
      have HB3 := Lib.hid (HB.out.trans (b3.mono HB.out.size))
      have HR3 := Lib.hid (hR3.lower (Nat.le_trans HB.out.size hB3))
      have HRO := Lib.hid (HR.out.below b3)
      clear b3 hB3 hR3 c0 c1 c2 c3 c4 c5 c6
      obtain ⟨w4, hw4⟩ : ∃ w4, w4 = w3.alloc (.cells #[.int .i64 t.kind, .int .i32 t.rune, .int .u8 t.priv, .slice va vn vc, .string t.inter, .int .u8 t.fin, .string t.data] 27) := ⟨_, rfl⟩
      have b4 : Below w3.heap.size w3 w4 := by rw [hw4]; exact (Below.refl _ _).alloc (Nat.le_refl _) _
      have HB4 := Lib.hid (HB3.out.trans (b4.mono HB3.out.size))
      have HR4 := Lib.hid (HR3.out.below b4)
      have HRO4 := Lib.hid (HRO.out.below b4)
      have ho4 := HRO4.out.1
      have hs4 := HB4.out.size
      rw [HLK.out] at ho4
      have HNC := Lib.hid (show ∀ j u, (cells7 t (.slice va vn vc))[j]? = some u → w4.cell? ((⟨w3.heap.size, 0, none⟩ : Addr).add j) = some u by
        rw [hw4]
        exact new_cells w3 (cells7 t (.slice va vn vc)) 27 _ (by simp))
      clear b4 HR3 HRO
      go_wp2_with (at_builtin; rw [← hw4]; clear hw4; refine wpList_append_own _ rfl (.tmp 18) (.tmp 24) 22 rfl w.heap.size 27 ib (.agg #[.int .i64 0, .int .i32 0, .int .u8 0, .slice none 0 0, .string ⟨#[]⟩, .int .u8 0, .string ⟨#[]⟩]) 7 80 Tryd.underlying22 hi hz0 hz1 hz2 rfl (by decide) _ k (flat7 L) rfl ho4 ⟨w3.heap.size, 0, none⟩ 1 1 (cells7 t (.slice va vn vc)) rfl rfl ?c1 ?c2 ?c3 ?c4 ?c5 ?_)
      case c1 => exact HNC.out
      case c2 => simp [cells7, Value.oneCell']
      case c3 => unfold maxLen; omega
      case c4 => omega
      case c5 => exact hs4
      intro v' w5 own5 grow5 _
      have HB5 := Lib.hid (HB4.out.grown grow5 hs4 (fun j hj => (ho4.lt j hj).1))
      have HR5 := Lib.hid (show TRow w5 w.heap.size v' (L ++ [(t, .slice va vn vc)]) from TRow.snoc HRO4.out HR4.out (by rw [HLK.out]; exact own5) grow5)
      have HE5 := Lib.hid (show (L ++ [(t, Value.slice va vn vc)]).map Prod.fst = drToks T (k + 1) by rw [List.map_append, HE.out, HTT.out]; rfl)
      clear own5 grow5 ho4 HNC
      go_wp2
      go_roundw
      case rel => exact ⟨k + 1, _, by omega, by go_num, HR5, HE5, HB5⟩
      case measure => simp [intOf]; omega
    · have hkn : k = n := by omega
      subst hkn
      have hc : ¬ (k < len ∧ k < M) := by have := HN.out; omega
      by_cases hkl : k < len
      · have hkM : ¬ k < M := fun h => hc ⟨hkl, h⟩
        go_wp2
        go_ret
        exact ⟨_, L, rfl, HR.out, HE.out, HB.out⟩
      · go_wp2
        go_ret
        exact ⟨_, L, rfl, HR.out, HE.out, HB.out⟩
end Go.Proofs.YtclaopidjfekmaaDoor.Lab
