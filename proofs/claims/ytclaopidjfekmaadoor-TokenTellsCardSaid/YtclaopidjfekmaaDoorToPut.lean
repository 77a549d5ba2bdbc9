/- Put: the bytes of a row of tokens. -/
import Derived.Test.YtclaopidjfekmaaDoorToBuild
import Derived.Deep.DeepCutAuto
import Derived.Deep.CutBlock
namespace Go.Proofs.YtclaopidjfekmaaDoor.Lab
open Go Go.RowKit

instance : Inhabited Tok := ⟨⟨0, 0, 0, [], none0, 0, none0⟩⟩
/-- What a token of Go's holds. -/
def TokOk (t : Tok) : Prop := t.wf ∧ i64 t.kind ∧ t.inter.size ≤ maxLen ∧ t.data.size ≤ maxLen
/-- A token's cells, one behind the other. -/
def TokAt (w : World) (g o : Nat) (t : Tok) : Prop :=
  ∃ va vn vc, (w.cell? ⟨g, o, none⟩ = some (.int .i64 t.kind) ∧ w.cell? ⟨g, o + 1, none⟩ = some (.int .i32 t.rune) ∧ w.cell? ⟨g, o + 2, none⟩ = some (.int .u8 t.priv) ∧ w.cell? ⟨g, o + 3, none⟩ = some (.slice va vn vc) ∧ w.cell? ⟨g, o + 4, none⟩ = some (.string t.inter) ∧ w.cell? ⟨g, o + 5, none⟩ = some (.int .u8 t.fin) ∧ w.cell? ⟨g, o + 6, none⟩ = some (.string t.data)) ∧ MatAt w (.slice va vn vc) t.P
theorem TokAt.on {w w' : World} {g o : Nat} {t : Tok} (h : TokAt w g o t) (k : Keeps w w') : TokAt w' g o t := by
  obtain ⟨va, vn, vc, ⟨h0, h1, h2, h3, h4, h5, h6⟩, hm⟩ := h
  exact ⟨va, vn, vc, ⟨k _ _ _ h0, k _ _ _ h1, k _ _ _ h2, k _ _ _ h3, k _ _ _ h4, k _ _ _ h5, k _ _ _ h6⟩, hm.on k⟩
/-- A row of tokens. -/
def ToksAt (w : World) (v : Value) (l : List Tok) : Prop :=
  ∃ a c, v = .slice a l.length c ∧ l.length ≤ maxLen ∧ (0 < l.length → ∃ g o, a = some ⟨g, o, none⟩ ∧ ∀ j, j < l.length → TokAt w g (o + j * 7) (l.getD j default))
theorem ToksAt.on {w w' : World} {v : Value} {l : List Tok} (h : ToksAt w v l) (k : Keeps w w') : ToksAt w' v l := by
  obtain ⟨a, c, e, hm, h⟩ := h
  refine ⟨a, c, e, hm, fun h0 => ?_⟩
  obtain ⟨g, o, ea, hc⟩ := h h0
  exact ⟨g, o, ea, fun j hj => (hc j hj).on k⟩
theorem ToksAt.below {w w' : World} {v : Value} {l : List Tok} (h : ToksAt w v l) (k : Below w.heap.size w w') : ToksAt w' v l := h.on (.of k)

/-- What Put answers. -/
def putL (l : List Tok) : List UInt8 := l.flatMap tokL
def putS (l : List Tok) : ByteArray := ⟨(if l.all rightB then putL l else []).toArray⟩
def putE (l : List Tok) : Int := if l.all rightB then 0 else 3
theorem putL_len : ∀ l : List Tok, (∀ t ∈ l, Right t) → (putL l).length ≤ 3000 * l.length
  | [], _ => by simp [putL]
  | t :: l, h => by
    have h1 := (right_len (h t (by simp))).2
    have h2 := putL_len l fun x hx => h x (by simp [hx])
    unfold putL at h2 ⊢
    rw [List.flatMap_cons, List.length_append, List.length_cons]
    omega
theorem tokS_size (t : Tok) : (tokS t).size = (tokL t).length := by
  show (tokL t).toArray.size = _
  simp
theorem putL_snoc (l : List Tok) (t : Tok) : putL (l ++ [t]) = putL l ++ tokL t := by simp [putL]

theorem holds_tok' (t : Tok) (va : Option Addr) (vn vc : Nat) (w : World) (B : Nat) (hm : w.heap[B]? = some (.map M6 6)) (hok : TokOk t) (hM : MatAt w (.slice va vn vc) t.P) :
    Calls Tryd.prog 22 #[.map (some B), tokV t (.slice va vn vc)] w fun e w' => e = .returned (.bool (rightB t)) ∧ Below w.heap.size w w' :=
  holds_any t va vn vc w B hm hok.2.1 hM hok.2.2.1 hok.2.2.2

set_option maxHeartbeats 4000000 in
set_option maxRecDepth 100000 in
theorem put_any (v : Value) (l : List Tok) (w : World) (hT : ToksAt w v l) (hok : ∀ t ∈ l, TokOk t) (hn : l.length ≤ 10000) (hP : Pow w) :
    Calls Tryd.prog 9 #[v] w fun e w' => e = .returned (.tuple #[.string (putS l), .int .i64 (putE l)]) ∧ Below w.heap.size w w' := by
  obtain ⟨a, cp, rfl, _, hc⟩ := hT
  obtain ⟨n, hnn⟩ : ∃ n, l.length = n := ⟨_, rfl⟩
  rw [hnn] at hc hn ⊢
  have HC := Lib.hid hc
  have HN := Lib.hid hnn
  have HO := Lib.hid hok
  have HP := Lib.hid hP
  clear hc hnn hok hP
  go_enter Tryd.func9, Tryd.ntmps9
  go_wp2_with fail
  refine (kinds_ex _).mono ?_
  rintro e w1 ⟨B, rfl, hm, b1⟩
  have HM := Lib.hid hm
  have HB1 := Lib.hid b1
  have hBl : B < w1.heap.size := (Array.getElem?_eq_some_iff.1 hm).1
  clear hm b1
  go_wp2
  obtain ⟨b, hb⟩ : ∃ b, b = w1.heap.size := ⟨_, rfl⟩
  have HI0 := Lib.hid (show IsB b [] (w1.alloc (.cells #[.pointer none, .slice none 0 0] 53)) by rw [hb]; exact isB_new w1)
  have HB2 := Lib.hid (show Below b w1 (w1.alloc (.cells #[.pointer none, .slice none 0 0] 53)) from (Below.refl _ _).alloc (by omega) _)
  have HBW := Lib.hid (show w.heap.size ≤ b by rw [hb]; exact HB1.out.size)
  have HBL := Lib.hid (show B < b by omega)
  rw [← hb]
  have HBE := Lib.hid hb
  clear hb hBl
  generalize w1.alloc (.cells #[.pointer none, .slice none 0 0] 53) = w0 at HI0 HB2 ⊢
  go_loopw [11] (fun i wr => ∃ k : Nat, k ≤ n ∧ i = .int .i64 k ∧ Hid ((l.take k).all rightB = true) ∧ Hid (IsB b (putL (l.take k)) wr) ∧ Hid (Below b w1 wr)) (fun i _ => n - (intOf i).toNat)
  case atStart => exact ⟨0, Nat.zero_le _, rfl, Lib.hid rfl, HI0, HB2⟩
  case round =>
    obtain ⟨wo, rfl⟩ : ∃ wo : World, wo = wr := ⟨_, rfl⟩
    obtain ⟨k, hk, rfl, HA, HI, HB⟩ := hrel
    by_cases hlt : k < n
    · obtain ⟨g, o, ha, hcell⟩ := HC.out (by omega)
      have HB3 := Lib.hid (HB1.out.trans (HB.out.mono HBW.out))
      obtain ⟨va, vn, vc, ⟨c0, c1, c2, c3, c4, c5, c6⟩, hM⟩ := (hcell k hlt).on (Keeps.of HB3.out)
      have HX := Lib.hid (take_at' l default (k := k) (by rw [HN.out]; exact hlt))
      have HE := Lib.hid (HO.out _ (getD_mem' (l := l) default (k := k) (by rw [HN.out]; exact hlt)))
      obtain ⟨x, hx⟩ : ∃ x, l.getD k default = x := ⟨_, rfl⟩
      rw [hx] at HX HE c0 c1 c2 c4 c5 c6 hM
      have HMM := Lib.hid hM
      have hbo : b < wo.heap.size := by
        rcases HI.out with h | h
        · exact h.lt
        · exact h.lt
      have HMP := Lib.hid (show wo.heap[B]? = some (.map M6 6) from (HB.out.block B HBL.out).trans HM.out)
      clear hcell hx hM
      subst ha
      have HA4 := Lib.hid (show Below wo.heap.size wo (wo.alloc (.cells #[.int .i64 x.kind, .int .i32 x.rune, .int .u8 x.priv, .slice va vn vc, .string x.inter, .int .u8 x.fin, .string x.data] 27)) from (Below.refl _ _).alloc (Nat.le_refl _) _)
      have HT4 := Lib.hid (T7.newAt wo wo.heap.size rfl (.int .i64 x.kind) (.int .i32 x.rune) (.int .u8 x.priv) (.slice va vn vc) (.string x.inter) (.int .u8 x.fin) (.string x.data) 27)
      have HMP4 := Lib.hid (show (wo.alloc (.cells #[.int .i64 x.kind, .int .i32 x.rune, .int .u8 x.priv, .slice va vn vc, .string x.inter, .int .u8 x.fin, .string x.data] 27)).heap[B]? = some (.map M6 6) from (HA4.out.block B (by have := HBL.out; omega)).trans HMP.out)
      obtain ⟨q, hq⟩ : ∃ q, rightB x = q := ⟨_, rfl⟩
      have HQ := Lib.hid hq
      clear hq
      go_wp2_with fail
      refine (holds_tok' x va vn vc _ B HMP4.out HE.out (HMM.out.below HA4.out)).mono ?_
      rintro e w5 ⟨rfl, b5⟩
      rw [HQ.out]
      have HB5 := Lib.hid (HA4.out.trans (b5.mono HA4.out.size))
      obtain ⟨hlt5, ⟨d0, d1, d2, d3, d4, d5, d6⟩, _⟩ := HT4.out.below b5
      clear b5 HA4 HT4 HMP4 c0 c1 c2 c3 c4 c5 c6
      cases q
      · have HF := Lib.hid (show l.all rightB = false by
          rw [List.all_eq_false]
          exact ⟨x, by have := HX.out; rw [← List.take_append_drop (k + 1) l, this]; simp, by rw [HQ.out]; simp⟩)
        go_wp2
        go_ret2
        exact ⟨by rw [putS, putE, HF.out]; rfl, HB3.out.trans (HB5.out.mono HB3.out.size)⟩
      · have HR := Lib.hid ((right_iff HE.out.1).1 HQ.out)
        have HB6 := Lib.hid (HB3.out.trans (HB5.out.mono HB3.out.size))
        have HI5 := Lib.hid (isB_below HI.out HB5.out)
        go_wp2_with fail
        refine (laid_any x va vn vc _ HR.out HE.out.1 (HMM.out.below HB5.out) (HP.out.on HB6.out)).mono ?_
        rintro e w6 ⟨rfl, b6⟩
        have HI6 := Lib.hid (isB_below HI5.out b6)
        have HB7 := Lib.hid (HB.out.trans ((HB5.out.trans (b6.mono HB5.out.size)).mono (by omega)))
        have HLK := Lib.hid (show (putL (l.take k)).length ≤ 3000 * k by
          have h1 := putL_len (l.take k) (by
            intro t ht
            have hr := List.all_eq_true.1 HA.out t ht
            exact (right_iff (HO.out t (List.mem_of_mem_take ht)).1).1 hr)
          have h2 : (l.take k).length = k := by rw [List.length_take, HN.out]; omega
          rw [h2] at h1
          exact h1)
        have hlen : (putL (l.take k)).length + (tokS x).size ≤ 1000000000 := by
          have h1 := HLK.out
          have h2 := (right_len HR.out).2
          have h3 := tokS_size x
          omega
        have HW := Lib.hid (write_any b _ (tokS x) _ HI6.out hlen)
        clear b6 hlen HI5 d0 d1 d2 d3 d4 d5 d6
        go_wp2_with fail
        refine HW.out.mono ?_
        rintro e w7 ⟨rfl, I7, b7⟩
        have HI7 := Lib.hid (show IsB b (putL (l.take (k + 1))) w7 by rw [HX.out, putL_snoc]; exact I7)
        have HB8 := Lib.hid (HB7.out.trans b7)
        have HA8 := Lib.hid (show (l.take (k + 1)).all rightB = true by rw [HX.out, List.all_append, HA.out, List.all_cons, HQ.out]; rfl)
        clear I7 b7
        go_wp2
        go_roundw
        case rel => exact ⟨k + 1, by omega, by go_num, HA8, HI7, HB8⟩
        case measure => simp [intOf]; omega
    · have HTK := Lib.hid (show l.take k = l from List.take_of_length_le (by rw [HN.out]; omega))
      have HF := HA.out
      rw [HTK.out] at HF
      have HF' := Lib.hid HF
      have HS := Lib.hid (Tryd.Builder_String_any b b (putL (l.take k)) wo HI.out (by
        rcases HI.out with h | h
        · exact Nat.le_of_lt h.lt
        · exact Nat.le_of_lt h.lt))
      clear HF
      go_wp2_with fail
      refine HS.out.mono ?_
      rintro e w7 ⟨rfl, b7⟩
      have HB8 := Lib.hid (HB1.out.trans ((HB.out.trans b7).mono HBW.out))
      clear b7
      go_wp2
      go_ret2
      exact ⟨by rw [putS, putE, HF'.out, HTK.out]; rfl, HB8.out⟩
end Go.Proofs.YtclaopidjfekmaaDoor.Lab
