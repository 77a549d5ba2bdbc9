/- The reference's Put: the bytes of a row of tokens. -/
import Derived.Test.YtclaopidjfekmaaDoorToOne
namespace Go.Proofs.YtclaopidjfekmaaDoor.Lab
open Go Go.RowKit

set_option maxHeartbeats 8000000 in
set_option maxRecDepth 100000 in
theorem rput_any (v : Value) (l : List Tok) (w : World) (hT : ToksAt w v l) (hok : ∀ t ∈ l, TokOk t) (hn : l.length ≤ 10000) :
    Calls Tryd.prog 10 #[v] w fun e w' => e = .returned (.tuple #[.string (putS l), .int .i64 (putE l)]) ∧ Below w.heap.size w w' := by
  obtain ⟨a, cp, rfl, _, hc⟩ := hT
  obtain ⟨n, hnn⟩ : ∃ n, l.length = n := ⟨_, rfl⟩
  rw [hnn] at hc hn ⊢
  have HC := Lib.hid hc
  have HN := Lib.hid hnn
  have HO := Lib.hid hok
  clear hc hnn hok
  go_enter Tryd.func10, Tryd.ntmps10
  go_wp2
  go_loopw [4, 5] (fun s i wr => ∃ (k : Nat) (X : ByteArray), k ≤ n ∧ i = .int .i64 k ∧ s = .string X ∧ Hid ((l.take k).all rightB = true) ∧ Hid (bl X = putL (l.take k)) ∧ Hid (Below w.heap.size w wr)) (fun _ i _ => n - (intOf i).toNat)
  case atStart => exact ⟨0, ⟨#[]⟩, Nat.zero_le _, rfl, rfl, Lib.hid rfl, Lib.hid rfl, Lib.hid (Below.refl _ _)⟩
  case round =>
    obtain ⟨wo, rfl⟩ : ∃ wo : World, wo = wr := ⟨_, rfl⟩
    obtain ⟨k, X, hk, rfl, rfl, HA, HX, HB⟩ := hrel
    by_cases hlt : k < n
    · obtain ⟨g, o, ha, hcell⟩ := HC.out (by omega)
      obtain ⟨va, vn, vc, ⟨c0, c1, c2, c3, c4, c5, c6⟩, hM⟩ := (hcell k hlt).on (Keeps.of HB.out)
      have HTK := Lib.hid (take_at' l default (k := k) (by rw [HN.out]; exact hlt))
      have HE := Lib.hid (HO.out _ (getD_mem' (l := l) default (k := k) (by rw [HN.out]; exact hlt)))
      obtain ⟨x, hx⟩ : ∃ x, l.getD k default = x := ⟨_, rfl⟩
      rw [hx] at HTK HE c0 c1 c2 c4 c5 c6 hM
      have HMM := Lib.hid hM
      have HCO := Lib.hid (And.intro c0 (And.intro c1 (And.intro c2 (And.intro c3 (And.intro c4 (And.intro c5 c6))))))
      have HLK := Lib.hid (show (putL (l.take k)).length ≤ 3000 * k by
        have h1 := putL_len (l.take k) (by
          intro t ht
          have hr := List.all_eq_true.1 HA.out t ht
          exact (right_iff (HO.out t (List.mem_of_mem_take ht)).1).1 hr)
        have h2 : (l.take k).length = k := by rw [List.length_take, HN.out]; omega
        rw [h2] at h1
        exact h1)
      clear hcell hx hM
      subst ha
      obtain ⟨q, hq⟩ : ∃ q, rightB x = q := ⟨_, rfl⟩
      have HQ := Lib.hid hq
      clear hq
      go_wp2_with fail
      refine (rright_any x.kind x.rune x.priv x.fin _ x.P x.inter x.data wo HMM.out HE.out.2.2.1 HE.out.2.2.2 ⟨HE.out.1.2.2.1, HE.out.1.2.2.2⟩).mono ?_
      rintro e w5 ⟨rfl, b5⟩
      rw [show rightB ⟨x.kind, x.rune, x.priv, x.P, x.inter, x.fin, x.data⟩ = q from HQ.out]
      have KB := Keeps.of b5
      have HM5 := Lib.hid (HMM.out.on KB)
      have HB5 := Lib.hid (HB.out.trans (b5.mono HB.out.size))
      clear c0 c1 c2 c3 c4 c5 c6
      obtain ⟨c0, c1, c2, c3, c4, c5, c6⟩ := HCO.out
      replace c0 := KB _ _ _ c0
      replace c1 := KB _ _ _ c1
      replace c2 := KB _ _ _ c2
      replace c3 := KB _ _ _ c3
      replace c4 := KB _ _ _ c4
      replace c5 := KB _ _ _ c5
      replace c6 := KB _ _ _ c6
      clear b5 KB HCO HMM
      cases q
      · have HF := Lib.hid (show l.all rightB = false by
          rw [List.all_eq_false]
          exact ⟨x, by have := HTK.out; rw [← List.take_append_drop (k + 1) l, this]; simp, by rw [HQ.out]; simp⟩)
        go_wp2
        go_ret2
        exact ⟨by rw [putS, putE, HF.out]; rfl, HB5.out⟩
      · have HR := Lib.hid ((right_iff HE.out.1).1 HQ.out)
        go_wp2_with fail
        refine (rone_any x va vn vc _ HM5.out HR.out HE.out.1).mono ?_
        rintro e w6 ⟨rfl, b6⟩
        have HB6 := Lib.hid (HB5.out.trans (b6.mono HB5.out.size))
        obtain ⟨Y, hY⟩ : ∃ Y, Y = strL (tokL x) := ⟨_, rfl⟩
        rw [← hY]
        have hsY : Y.size ≤ 3000 := by rw [hY, size_str]; exact (right_len HR.out).2
        have hsX : X.size ≤ 3000 * k := by rw [← bl_len, HX.out]; exact HLK.out
        have HX6 := Lib.hid (show bl (X ++ Y) = putL (l.take (k + 1)) by rw [bl_cat, HX.out, hY, bl_str, HTK.out, putL_snoc])
        have HA6 := Lib.hid (show (l.take (k + 1)).all rightB = true by rw [HTK.out, List.all_append, HA.out, List.all_cons, HQ.out]; rfl)
        have n1 : ¬ 9223372036854775807 < X.size + Y.size := by omega
        clear b6 hY hsY hsX c0 c1 c2 c3 c4 c5 c6
        go_wp2
        go_roundw
        case rel => exact ⟨k + 1, _, by omega, by go_num, rfl, HA6, HX6, HB6⟩
        case measure => simp [intOf]; omega
    · have HTK := Lib.hid (show l.take k = l from List.take_of_length_le (by rw [HN.out]; omega))
      have HF := HA.out
      rw [HTK.out] at HF
      have HF' := Lib.hid HF
      have HS := Lib.hid (show X = putS l by
        apply bl_inj
        rw [HX.out, HTK.out, putS, HF'.out]
        simp [bl])
      clear HF
      go_wp2
      go_ret2
      exact ⟨by rw [putE, HF'.out, HS.out]; rfl, HB.out⟩
end Go.Proofs.YtclaopidjfekmaaDoor.Lab
