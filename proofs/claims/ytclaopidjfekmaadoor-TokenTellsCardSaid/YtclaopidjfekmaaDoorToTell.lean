/- The Go law TokenTells. -/
import Derived.Test.YtclaopidjfekmaaDoorToRPut
import Derived.Test.YtclaopidjfekmaaDoorToCopyB
import Derived.Test.YtclaopidjfekmaaDoorToFew
import Derived.Test.YtclaopidjfekmaaDoorToRaw
namespace Go.Proofs.YtclaopidjfekmaaDoor.Lab
open Go Go.RowKit

/-- What the law knows of a token in its row. -/
def QT (w : World) (p : Tok × Value) : Prop := FMat w (· < w.heap.size) p.2 p.1.P ∧ TokOk p.1 ∧ p.1.P.length ≤ 35
theorem QT.mat {w w' : World} {p : Tok × Value} (h : QT w p) (hb : Below w.heap.size w w') : MatAt w' p.2 p.1.P := (h.1.below hb fun _ hg => hg).mat
theorem QT.zx {w w' : World} {p : Tok × Value} (h : QT w p) (hb : Below w.heap.size w w') : ZX w' p.2 p.1.P := (h.1.below hb fun _ hg => hg).2.1
theorem Fine.qt {w : World} {lo : Nat} {p : Tok × Value} (h : Fine w lo p) (h1 : TokOk p.1) (h2 : p.1.P.length ≤ 35) : QT w p := by
  obtain ⟨S, h3, h4⟩ := h
  exact ⟨h3.mono fun g hg => (h4 g hg).1, h1, h2⟩
theorem FRow.at {w : World} {lo g c n : Nat} {L : TVs} (h : FRow w lo (.slice (some ⟨g, 0, none⟩) n c) L) {k : Nat} {p : Tok × Value} (hp : L[k]? = some p) : RawAt w g (k * 7) p := by
  have key : ∀ i u, i < 7 → (cells7 p.1 p.2)[i]? = some u → w.cell? ⟨g, k * 7 + i, none⟩ = some u := fun i u hi hu => by
    have := h.1.cells (g := g) rfl (k * 7 + i) u (by rw [flat7_get L k i p hp hi]; exact hu)
    rw [Addr.add_mid] at this
    rw [show k * 7 + i = 0 + (k * 7 + i) by omega]
    exact this
  exact ⟨by have := key 0 _ (by omega) rfl; simpa using this, key 1 _ (by omega) rfl, key 2 _ (by omega) rfl, key 3 _ (by omega) rfl, key 4 _ (by omega) rfl, key 5 _ (by omega) rfl, key 6 _ (by omega) rfl⟩
theorem RawAt.on {W W' : World} {b o : Nat} {p : Tok × Value} (h : RawAt W b o p) (k : Keeps W W') : RawAt W' b o p := by
  obtain ⟨q1, q2, q3, q4, q5, q6, q7⟩ := h
  exact ⟨k _ _ _ q1, k _ _ _ q2, k _ _ _ q3, k _ _ _ q4, k _ _ _ q5, k _ _ _ q6, k _ _ _ q7⟩
theorem row_form {w : World} {base n size : Nat} {e : TypeId} {v : Value} {xs : List Value} (h : w.ownsRow base e size v n xs) : ∃ a c, v = .slice a n c := by
  rcases h.2 with ⟨rfl, rfl⟩ | ⟨g, cap, cur, rfl, _⟩
  · exact ⟨none, 0, rfl⟩
  · exact ⟨_, cap, rfl⟩
theorem row_pos {w : World} {base n size c : Nat} {e : TypeId} {a : Option Addr} {xs : List Value} (h : w.ownsRow base e size (.slice a n c) n xs) (h0 : 0 < n) : ∃ g, a = some ⟨g, 0, none⟩ := by
  rcases h.2 with ⟨_, h1⟩ | ⟨g, cap, cur, e, _⟩
  · omega
  · injection e with e1
    exact ⟨g, e1⟩
theorem idx_agg (cs : Array Value) (k : Nat) (hk : k < 3) (i : Int) (hi : i = k) (w : World) :
    (Instr.index 29 (.agg cs) (.int .i64 i)).run Tryd.prog w = .ok (.agg (cs.extract (k * 7) (k * 7 + 7))) w := by
  subst hi
  have h : 0 ≤ (k : Int) ∧ (k : Int) < 3 := by omega
  simp [Instr.index, run_underlying Tryd.underlying29, asIntOf, part, Tryd.isAgg27, Tryd.sizeOf27, hk, go_sem]

set_option maxHeartbeats 16000000 in
set_option maxRecDepth 100000 in
theorem tells_law (a : Option Addr) (len cap : Nat) (T : Nat → Tok × Value) (a' : Option Addr) (len' cap' : Nat) (D : Nat → Dr) (w : World) (hT : IsToks w a len cap T) (hD : IsDrafts w a' len' cap' D) (hP : Pow w) :
    Calls Tryd.prog 3 #[.slice a len cap, .slice a' len' cap'] w fun e w' => e = .returned (.bool true) ∧ Below w.heap.size w w' := by
  have HP := Lib.hid hP
  have HD := Lib.hid hD
  obtain ⟨hlc, hcm, hok, hcell⟩ := hT
  have HOK := Lib.hid hok
  have HC := Lib.hid hcell
  have hlm : len ≤ maxLen := by omega
  unfold maxLen at hlm
  obtain ⟨ib, hi, hz0, hz1, hz2⟩ := info_parts infoT
  clear hP hD hok hcell hlc hcm
  go_enter Tryd.func3, Tryd.ntmps3
  go_wp2_with fail
  refine (tokens_any a' len' cap' D 8 8 rfl (by decide) _ HD.out).mono ?_
  rintro e w1 ⟨v, L0, rfl, hTR, hmap, b1⟩
  obtain ⟨n0, hn0⟩ : ∃ n, n = min len' 8 := ⟨_, rfl⟩
  rw [← hn0] at hmap
  have hRT : ∀ p ∈ L0, Right p.1 ∧ p.1.wf := fun p hp => drToks_right (W := w) (T := D) (n := n0) (fun i hi => HD.out.2.2.1 i (by omega)) p.1 (by rw [← hmap]; exact List.mem_map_of_mem hp)
  have HFR := Lib.hid (FRow.of_own hTR fun p hp => (hRT p hp).1)
  have HQ0 := Lib.hid (show ∀ p ∈ L0, TokOk p.1 ∧ p.1.P.length ≤ 35 from fun p hp => ⟨tokOk_of (hRT p hp).2 (hRT p hp).1, right_rowsL (hRT p hp).1⟩)
  have HL0 := Lib.hid (show L0.length = n0 by rw [← drToks_len D n0, ← hmap, List.length_map])
  have hn8 : n0 ≤ 8 := by omega
  have HB1 := Lib.hid b1
  clear hn0 hmap hRT hTR b1 HD
  go_upto_block 0 with (fail)
  go_cut [5, 6] (fun v _ wc => ∃ L : TVs, Hid (FRow wc w.heap.size v L) ∧ Hid (∀ p ∈ L, TokOk p.1 ∧ p.1.P.length ≤ 35) ∧ L.length ≤ 16 ∧ Hid (Below w.heap.size w wc))
  case first =>
    go_wp2_with fail
    go_loopw [5, 6] (fun v i wr => ∃ (k : Nat) (L : TVs), k ≤ len ∧ k ≤ 8 ∧ i = .int .i64 k ∧ Hid (FRow wr w.heap.size v L) ∧ Hid (∀ p ∈ L, TokOk p.1 ∧ p.1.P.length ≤ 35) ∧ Hid (L.length = n0 + k) ∧ Hid (Below w.heap.size w wr)) (fun _ i _ => len - (intOf i).toNat)
    case atStart => exact ⟨0, L0, Nat.zero_le _, Nat.zero_le _, rfl, HFR, HQ0, HL0, HB1⟩
    case round =>
      obtain ⟨wo, rfl⟩ : ∃ wo : World, wo = wr := ⟨_, rfl⟩
      obtain ⟨k, L, hk, hk8, rfl, HR, HQ, HLN, HB⟩ := hrel
      by_cases hlt : k < len
      · by_cases hlt8 : k < 8
        · obtain ⟨n1, hn1⟩ : ∃ n1, n1 = n0 + k := ⟨_, rfl⟩
          have hn16 : n1 ≤ 15 := by omega
          have HN1 := Lib.hid hn1
          rw [← hn1] at HLN
          clear hn1
          obtain ⟨g, o, ha, _, hat⟩ := HC.out (by omega)
          have hraw := hat k hlt
          have HRAW := Lib.hid (HOK.out k hlt)
          obtain ⟨⟨x, mx⟩, hx⟩ : ∃ p, T k = p := ⟨_, rfl⟩
          rw [hx] at hraw HRAW
          obtain ⟨va, vc, hmx, hPc, hcm⟩ := HRAW.out.2.2
          simp only at hmx hPc
          subst hmx
          obtain ⟨c0, c1, c2, c3, c4, c5, c6⟩ := hraw.on (Keeps.of HB.out)
          simp only at c0 c1 c2 c3 c4 c5 c6
          obtain ⟨vn, hvn⟩ : ∃ vn, x.P.length = vn := ⟨_, rfl⟩
          rw [hvn] at c3 hPc
          have HVN := Lib.hid hvn
          clear hx hraw hat hvn
          subst ha
          go_wp2_with fail
          refine (few_any x.kind x.rune x.priv x.fin va vn vc x.inter x.data wo hPc).mono ?_
          rintro e w3 ⟨i', d', rfl, hi5, hd60, b3⟩
          have hmm : min vn 35 ≤ x.P.length := by rw [HVN.out]; omega
          obtain ⟨m, hm⟩ : ∃ m, min vn 35 = m := ⟨_, rfl⟩
          rw [hm] at hmm ⊢
          have hm35 : m ≤ 35 := by omega
          obtain ⟨y, hy⟩ : ∃ y : Tok, y = ⟨x.kind, x.rune, x.priv, x.P.take m, i', x.fin, d'⟩ := ⟨_, rfl⟩
          have HYK := Lib.hid (show TokOk y ∧ y.P.length ≤ 35 by
            rw [hy]
            refine ⟨⟨HRAW.out.1.1, HRAW.out.1.2.1, by show i'.size ≤ _; unfold maxLen; omega, by show d'.size ≤ _; unfold maxLen; omega⟩, ?_⟩
            show (x.P.take m).length ≤ 35
            rw [List.length_take]
            omega)
          have HFI := Lib.hid (show Fine w3 w.heap.size (y, .slice va m vc) from ⟨(· < w.heap.size), by
            rw [hy]
            have h := HRAW.out.2.1
            simp only [HVN.out] at h
            exact (h.below (HB.out.trans (b3.mono HB.out.size)) fun _ hg => hg).take hmm, fun g hg => ⟨by have := HB.out.size; have := b3.size; omega, .inl hg⟩⟩)
          have e1 : x.kind = y.kind := by rw [hy]
          have e2 : x.rune = y.rune := by rw [hy]
          have e3 : x.priv = y.priv := by rw [hy]
          have e4 : i' = y.inter := by rw [hy]
          have e5 : x.fin = y.fin := by rw [hy]
          have e6 : d' = y.data := by rw [hy]
          rw [e1, e2, e3, e4, e5, e6]
          have HB3 := Lib.hid (HB.out.trans (b3.mono HB.out.size))
          have HRO := Lib.hid (HR.out.below b3)
          clear b3 hy e1 e2 e3 e4 e5 e6 hm hmm hi5 hd60 c0 c1 c2 c3 c4 c5 c6 HRAW HVN hPc hcm
          obtain ⟨w4, hw4⟩ : ∃ w4, w4 = w3.alloc (.cells #[.int .i64 y.kind, .int .i32 y.rune, .int .u8 y.priv, .slice va m vc, .string y.inter, .int .u8 y.fin, .string y.data] 27) := ⟨_, rfl⟩
          have b4 : Below w3.heap.size w3 w4 := by rw [hw4]; exact (Below.refl _ _).alloc (Nat.le_refl _) _
          have HB4 := Lib.hid (HB3.out.trans (b4.mono HB3.out.size))
          have HFI4 := Lib.hid (HFI.out.below b4)
          have HRO4 := Lib.hid (HRO.out.below b4)
          have ho4 := HRO4.out.1
          have hs4 := HB4.out.size
          rw [HLN.out] at ho4
          have HNC := Lib.hid (show ∀ j u, (cells7 y (.slice va m vc))[j]? = some u → w4.cell? ((⟨w3.heap.size, 0, none⟩ : Addr).add j) = some u by
            rw [hw4]
            exact new_cells w3 (cells7 y (.slice va m vc)) 27 _ (by simp))
          clear b4 HFI HRO
          go_wp2_with (at_builtin; rw [← hw4]; clear hw4; refine wpList_append_own _ rfl (.tmp 33) (.tmp 39) 22 rfl w.heap.size 27 ib (.agg #[.int .i64 0, .int .i32 0, .int .u8 0, .slice none 0 0, .string ⟨#[]⟩, .int .u8 0, .string ⟨#[]⟩]) 7 80 Tryd.underlying22 hi hz0 hz1 hz2 rfl (by decide) _ n1 (flat7 L) rfl ho4 ⟨w3.heap.size, 0, none⟩ 1 1 (cells7 y (.slice va m vc)) rfl rfl ?c1 ?c2 ?c3 ?c4 ?c5 ?_)
          case c1 => exact HNC.out
          case c2 => simp [cells7, Value.oneCell']
          case c3 => unfold maxLen; omega
          case c4 => omega
          case c5 => exact hs4
          intro v' w5 own5 grow5 _
          have HB5 := Lib.hid (HB4.out.grown grow5 hs4 (fun j hj => (ho4.lt j hj).1))
          have HR5 := Lib.hid (show FRow w5 w.heap.size v' (L ++ [(y, .slice va m vc)]) from FRow.snoc HRO4.out HFI4.out (by rw [HLN.out]; exact own5) grow5)
          have HQ5 := Lib.hid (show ∀ p ∈ L ++ [(y, Value.slice va m vc)], TokOk p.1 ∧ p.1.P.length ≤ 35 from fun p hp => by
            rcases List.mem_append.1 hp with hp | hp
            · exact HQ.out p hp
            · rw [List.mem_singleton.1 hp]; exact HYK.out)
          have HL5 := Lib.hid (show (L ++ [(y, Value.slice va m vc)]).length = n0 + (k + 1) by rw [List.length_append, HLN.out, HN1.out]; simp; omega)
          clear own5 grow5 ho4 HNC
          go_wp2
          go_roundw
          case rel => exact ⟨k + 1, _, by omega, by omega, by go_num, HR5, HQ5, HL5, HB5⟩
          case measure => simp [intOf]; omega
        · have hle : L.length ≤ 16 := by rw [HLN.out]; omega
          go_wp2
          go_meet
          case rel => exact ⟨L, HR, HQ, hle, HB⟩
      · have hle : L.length ≤ 16 := by rw [HLN.out]; omega
        go_wp2
        go_meet
        case rel => exact ⟨L, HR, HQ, hle, HB⟩
  case rest =>
    obtain ⟨L, HR, HQ, hL16, HB⟩ := hcut
    obtain ⟨w2, hw2⟩ : ∃ w2 : World, w2 = wc := ⟨_, rfl⟩
    rw [← hw2] at HR HB ⊢
    clear hw2 HFR HQ0 HL0 HB1 HC HOK hn8 hlm
    obtain ⟨N, hN⟩ : ∃ N, L.length = N := ⟨_, rfl⟩
    have HN := Lib.hid hN
    rw [hN] at hL16
    have ho := HR.out.1
    rw [hN] at ho
    obtain ⟨aa, ca, rfl⟩ := row_form ho
    have HQT := Lib.hid (show ∀ p ∈ L, QT w2 p from fun p hp => (HR.out.2 p hp).qt (HQ.out p hp).1 (HQ.out p hp).2)
    have HOP := Lib.hid (fun h0 : 0 < N => row_pos ho h0)
    have HPW := Lib.hid (HP.out.on HB.out)
    clear hN ho HQ
    go_upto_block 2 with (fail)
    go_cut [7] (fun _ wc => Hid (Below w2.heap.size w2 wc))
    case first =>
      go_wp2_with fail
      go_loopw [7] (fun i wr => ∃ k : Nat, k ≤ N ∧ i = .int .i64 k ∧ Hid (Below w2.heap.size w2 wr)) (fun i _ => N - (intOf i).toNat)
      case atStart => exact ⟨0, Nat.zero_le _, rfl, Lib.hid (Below.refl _ _)⟩
      case round =>
        obtain ⟨wo, rfl⟩ : ∃ wo : World, wo = wr := ⟨_, rfl⟩
        obtain ⟨k, hk, rfl, HBO⟩ := hrel
        by_cases hlt : k < N
        · obtain ⟨g, hg⟩ := HOP.out (by omega)
          subst hg
          -- the token at i, and the one at (i*3+1) % N
          obtain ⟨⟨x, mx⟩, hx⟩ : ∃ p, L[k]? = some p := ⟨L[k]'(by rw [HN.out]; exact hlt), List.getElem?_eq_getElem _⟩
          obtain ⟨j, hj⟩ : ∃ j, (k * 3 + 1) % N = j := ⟨_, rfl⟩
          have hjN : j < N := by rw [← hj]; exact Nat.mod_lt _ (by omega)
          obtain ⟨⟨y, my⟩, hy⟩ : ∃ p, L[j]? = some p := ⟨L[j]'(by rw [HN.out]; exact hjN), List.getElem?_eq_getElem _⟩
          have HX := Lib.hid (HQT.out _ (List.mem_of_getElem? hx))
          have HY := Lib.hid (HQT.out _ (List.mem_of_getElem? hy))
          have HCX := Lib.hid (HR.out.at hx)
          have HCY := Lib.hid (HR.out.at hy)
          obtain ⟨xa, xc, hmx⟩ := HX.out.1.1.slice
          obtain ⟨ya, yc, hmy⟩ := HY.out.1.1.slice
          simp only at hmx hmy
          subst hmx hmy
          obtain ⟨xn, hxn⟩ : ∃ xn, x.P.length = xn := ⟨_, rfl⟩
          obtain ⟨yn, hyn⟩ : ∃ yn, y.P.length = yn := ⟨_, rfl⟩
          rw [hxn] at HX HCX
          rw [hyn] at HY HCY
          have t1 : IntKind.i64.wrap ((k : Int) * 3) = (k : Int) * 3 := by rw [IntKind.wrap_i64]; omega
          have t2 : IntKind.i64.wrap ((k : Int) * 3 + 1) = (k : Int) * 3 + 1 := by rw [IntKind.wrap_i64]; omega
          have t3 : Int.tmod ((k : Int) * 3 + 1) (N : Int) = (j : Int) := by rw [← hj]; rfl
          have t4 : ((k : Int) * 3 + 1) % (N : Int) = (j : Int) := by rw [← hj]; push_cast; rfl
          have hne : (N : Int) ≠ 0 := by omega
          clear hx hy hxn hyn hj
          go_upto_region 9 with (fail)
          go_cut [8] (fun b wc => ∃ b8, b = .pointer (some ⟨b8, 0, none⟩) ∧ w2.heap.size ≤ b8 ∧ Hid (T7 wc b8 (.int .i64 x.kind) (.int .i32 x.rune) (.int .u8 x.priv) (.slice xa xn xc) (.string x.inter) (.int .u8 x.fin) (.string x.data)) ∧ Hid (Below w2.heap.size w2 wc))
          case first =>
            obtain ⟨c0, c1, c2, c3, c4, c5, c6⟩ := HCX.out.on (Keeps.of HBO.out)
            simp only at c0 c1 c2 c3 c4 c5 c6
            have HT8 := Lib.hid (T7.newAt wo wo.heap.size rfl (.int .i64 x.kind) (.int .i32 x.rune) (.int .u8 x.priv) (.slice xa xn xc) (.string x.inter) (.int .u8 x.fin) (.string x.data) 27)
            have HB8 := Lib.hid (HBO.out.alloc HBO.out.size (.cells #[.int .i64 x.kind, .int .i32 x.rune, .int .u8 x.priv, .slice xa xn xc, .string x.inter, .int .u8 x.fin, .string x.data] 27))
            have hsz := HBO.out.size
            go_wp2
            go_meet
            case rel => exact ⟨_, rfl, hsz, HT8, HB8⟩
          case rest =>
          obtain ⟨b8, rfl, hb8, HT8, HB8⟩ := hcut
          obtain ⟨w3, hw3⟩ : ∃ w3 : World, w3 = wc := ⟨_, rfl⟩
          rw [← hw3] at HT8 HB8 ⊢
          clear hw3 HCX HBO
          go_upto_region 10 with (fail)
          go_cut [9] (fun b wc => ∃ b9, b = .pointer (some ⟨b9, 0, none⟩) ∧ w2.heap.size ≤ b9 ∧ Hid (T7 wc b9 (.int .i64 y.kind) (.int .i32 y.rune) (.int .u8 y.priv) (.slice ya yn yc) (.string y.inter) (.int .u8 y.fin) (.string y.data)) ∧ Hid (T7 wc b8 (.int .i64 x.kind) (.int .i32 x.rune) (.int .u8 x.priv) (.slice xa xn xc) (.string x.inter) (.int .u8 x.fin) (.string x.data)) ∧ Hid (Below w2.heap.size w2 wc))
          case first =>
            obtain ⟨c0, c1, c2, c3, c4, c5, c6⟩ := HCY.out.on (Keeps.of HB8.out)
            simp only at c0 c1 c2 c3 c4 c5 c6
            have HT9 := Lib.hid (T7.newAt w3 w3.heap.size rfl (.int .i64 y.kind) (.int .i32 y.rune) (.int .u8 y.priv) (.slice ya yn yc) (.string y.inter) (.int .u8 y.fin) (.string y.data) 27)
            have HB9 := Lib.hid (HB8.out.alloc HB8.out.size (.cells #[.int .i64 y.kind, .int .i32 y.rune, .int .u8 y.priv, .slice ya yn yc, .string y.inter, .int .u8 y.fin, .string y.data] 27))
            have hl8 := HT8.out.1
            have HX9 := Lib.hid (HT8.out.past (.cells #[.int .i64 y.kind, .int .i32 y.rune, .int .u8 y.priv, .slice ya yn yc, .string y.inter, .int .u8 y.fin, .string y.data] 27))
            have hsz := HB8.out.size
            go_wp2
            go_meet
            case rel => exact ⟨_, rfl, hsz, HT9, HX9, HB9⟩
          case rest =>
          obtain ⟨b9, rfl, hb9, HT9, HX9, HB9⟩ := hcut
          obtain ⟨w4, hw4⟩ : ∃ w4 : World, w4 = wc := ⟨_, rfl⟩
          rw [← hw4] at HT9 HX9 HB9 ⊢
          clear hw4 HCY HT8 HB8
          go_upto_region 11 with (fail)
          go_cut [10] (fun b wc => ∃ b10, b = .pointer (some ⟨b10, 0, none⟩) ∧ w2.heap.size ≤ b10 ∧ b8 ≠ b10 ∧ b9 ≠ b10 ∧ Hid (T7 wc b10 (.int .i64 x.kind) (.int .i32 x.rune) (.int .u8 x.priv) (.slice xa xn xc) (.string x.inter) (.int .u8 x.fin) (.string x.data)) ∧ Hid (T7 wc b9 (.int .i64 y.kind) (.int .i32 y.rune) (.int .u8 y.priv) (.slice ya yn yc) (.string y.inter) (.int .u8 y.fin) (.string y.data)) ∧ Hid (T7 wc b8 (.int .i64 x.kind) (.int .i32 x.rune) (.int .u8 x.priv) (.slice xa xn xc) (.string x.inter) (.int .u8 x.fin) (.string x.data)) ∧ Hid (Below w2.heap.size w2 wc))
          case first =>
            obtain ⟨_, ⟨c0, c1, c2, c3, c4, c5, c6⟩, _⟩ := HX9.out
            have HT10 := Lib.hid (T7.newAt w4 w4.heap.size rfl (.int .i64 x.kind) (.int .i32 x.rune) (.int .u8 x.priv) (.slice xa xn xc) (.string x.inter) (.int .u8 x.fin) (.string x.data) 27)
            have HB10 := Lib.hid (HB9.out.alloc HB9.out.size (.cells #[.int .i64 x.kind, .int .i32 x.rune, .int .u8 x.priv, .slice xa xn xc, .string x.inter, .int .u8 x.fin, .string x.data] 27))
            have hl8 := HX9.out.1
            have hl9 := HT9.out.1
            have HX10 := Lib.hid (HX9.out.past (.cells #[.int .i64 x.kind, .int .i32 x.rune, .int .u8 x.priv, .slice xa xn xc, .string x.inter, .int .u8 x.fin, .string x.data] 27))
            have HY10 := Lib.hid (HT9.out.past (.cells #[.int .i64 x.kind, .int .i32 x.rune, .int .u8 x.priv, .slice xa xn xc, .string x.inter, .int .u8 x.fin, .string x.data] 27))
            have hsz := HB9.out.size
            go_wp2
            go_meet
            case rel => exact ⟨_, rfl, hsz, by omega, by omega, HT10, HY10, HX10, HB10⟩
          case rest =>
          obtain ⟨b10, rfl, hb10, hn8, hn9, HT10, HY10, HX10, HB10⟩ := hcut
          obtain ⟨w5, hw5⟩ : ∃ w5 : World, w5 = wc := ⟨_, rfl⟩
          rw [← hw5] at HT10 HY10 HX10 HB10 ⊢
          clear hw5 HT9 HX9 HB9
          obtain ⟨s, hs⟩ : ∃ s, k % 7 = s := ⟨_, rfl⟩
          have hs7 : s < 7 := by omega
          have s1 : Int.tmod (k : Int) 7 = (s : Int) := by rw [← hs]; rfl
          have s2 : (k : Int) % 7 = (s : Int) := by omega
          clear hs
          go_upto_block 4 with (fail)
          go_cut [] (fun wc => ∃ (z : Tok) (za : Option Addr) (zn zc : Nat), Hid (QT w2 (z, .slice za zn zc)) ∧ Hid (T7 wc b10 (.int .i64 z.kind) (.int .i32 z.rune) (.int .u8 z.priv) (.slice za zn zc) (.string z.inter) (.int .u8 z.fin) (.string z.data)) ∧ Hid (T7 wc b9 (.int .i64 y.kind) (.int .i32 y.rune) (.int .u8 y.priv) (.slice ya yn yc) (.string y.inter) (.int .u8 y.fin) (.string y.data)) ∧ Hid (T7 wc b8 (.int .i64 x.kind) (.int .i32 x.rune) (.int .u8 x.priv) (.slice xa xn xc) (.string x.inter) (.int .u8 x.fin) (.string x.data)) ∧ Hid (Below w2.heap.size w2 wc))
          case first =>
            obtain ⟨_, ⟨c0, c1, c2, c3, c4, c5, c6⟩, cf⟩ := HT10.out
            obtain ⟨_, ⟨z0, z1, z2, z3, z4, z5, z6⟩, _⟩ := HY10.out
            obtain rfl | rfl | rfl | rfl | rfl | rfl | rfl : s = 0 ∨ s = 1 ∨ s = 2 ∨ s = 3 ∨ s = 4 ∨ s = 5 ∨ s = 6 := by omega
            · have HQZ := Lib.hid (show QT w2 ((⟨x.kind, y.rune, x.priv, x.P, x.inter, x.fin, x.data⟩ : Tok), .slice xa xn xc) from ⟨HX.out.1, ⟨⟨HX.out.2.1.1.1, HX.out.2.1.1.2.1, HX.out.2.1.1.2.2.1, HX.out.2.1.1.2.2.2⟩, HX.out.2.1.2.1, HX.out.2.1.2.2.1, HX.out.2.1.2.2.2⟩, HX.out.2.2⟩)
              have HZ := Lib.hid (HT10.out.set1 (.int .i32 y.rune))
              have HYZ := Lib.hid (HY10.out.set_no (b' := b10) 1 (.int .i32 y.rune) hn9)
              have HXZ := Lib.hid (HX10.out.set_no (b' := b10) 1 (.int .i32 y.rune) hn8)
              have HBZ := Lib.hid (HB10.out.setCell (p := ⟨b10, 1, none⟩) hb10 (.int .i32 y.rune))
              have xf := cf 1
              go_wp2
              go_meet
              case rel => exact ⟨_, _, _, _, HQZ, HZ, HYZ, HXZ, HBZ⟩
            · have HQZ := Lib.hid (show QT w2 ((⟨x.kind, x.rune, y.priv, x.P, x.inter, x.fin, x.data⟩ : Tok), .slice xa xn xc) from ⟨HX.out.1, ⟨⟨HY.out.2.1.1.1, HY.out.2.1.1.2.1, HX.out.2.1.1.2.2.1, HX.out.2.1.1.2.2.2⟩, HX.out.2.1.2.1, HX.out.2.1.2.2.1, HX.out.2.1.2.2.2⟩, HX.out.2.2⟩)
              have HZ := Lib.hid (HT10.out.set2 (.int .u8 y.priv))
              have HYZ := Lib.hid (HY10.out.set_no (b' := b10) 2 (.int .u8 y.priv) hn9)
              have HXZ := Lib.hid (HX10.out.set_no (b' := b10) 2 (.int .u8 y.priv) hn8)
              have HBZ := Lib.hid (HB10.out.setCell (p := ⟨b10, 2, none⟩) hb10 (.int .u8 y.priv))
              have xf := cf 2
              go_wp2
              go_meet
              case rel => exact ⟨_, _, _, _, HQZ, HZ, HYZ, HXZ, HBZ⟩
            · have HQZ := Lib.hid (show QT w2 ((⟨x.kind, x.rune, x.priv, y.P, x.inter, x.fin, x.data⟩ : Tok), .slice ya yn yc) from ⟨HY.out.1, ⟨⟨HX.out.2.1.1.1, HX.out.2.1.1.2.1, HX.out.2.1.1.2.2.1, HX.out.2.1.1.2.2.2⟩, HX.out.2.1.2.1, HX.out.2.1.2.2.1, HX.out.2.1.2.2.2⟩, HY.out.2.2⟩)
              have HZ := Lib.hid (HT10.out.set3 (.slice ya yn yc))
              have HYZ := Lib.hid (HY10.out.set_no (b' := b10) 3 (.slice ya yn yc) hn9)
              have HXZ := Lib.hid (HX10.out.set_no (b' := b10) 3 (.slice ya yn yc) hn8)
              have HBZ := Lib.hid (HB10.out.setCell (p := ⟨b10, 3, none⟩) hb10 (.slice ya yn yc))
              have xf := cf 3
              go_wp2
              go_meet
              case rel => exact ⟨_, _, _, _, HQZ, HZ, HYZ, HXZ, HBZ⟩
            · have HQZ := Lib.hid (show QT w2 ((⟨x.kind, x.rune, x.priv, x.P, y.inter, x.fin, x.data⟩ : Tok), .slice xa xn xc) from ⟨HX.out.1, ⟨⟨HX.out.2.1.1.1, HX.out.2.1.1.2.1, HX.out.2.1.1.2.2.1, HX.out.2.1.1.2.2.2⟩, HX.out.2.1.2.1, HY.out.2.1.2.2.1, HX.out.2.1.2.2.2⟩, HX.out.2.2⟩)
              have HZ := Lib.hid (HT10.out.set4 (.string y.inter))
              have HYZ := Lib.hid (HY10.out.set_no (b' := b10) 4 (.string y.inter) hn9)
              have HXZ := Lib.hid (HX10.out.set_no (b' := b10) 4 (.string y.inter) hn8)
              have HBZ := Lib.hid (HB10.out.setCell (p := ⟨b10, 4, none⟩) hb10 (.string y.inter))
              have xf := cf 4
              go_wp2
              go_meet
              case rel => exact ⟨_, _, _, _, HQZ, HZ, HYZ, HXZ, HBZ⟩
            · have HQZ := Lib.hid (show QT w2 ((⟨x.kind, x.rune, x.priv, x.P, x.inter, y.fin, x.data⟩ : Tok), .slice xa xn xc) from ⟨HX.out.1, ⟨⟨HX.out.2.1.1.1, HX.out.2.1.1.2.1, HY.out.2.1.1.2.2.1, HY.out.2.1.1.2.2.2⟩, HX.out.2.1.2.1, HX.out.2.1.2.2.1, HX.out.2.1.2.2.2⟩, HX.out.2.2⟩)
              have HZ := Lib.hid (HT10.out.set5 (.int .u8 y.fin))
              have HYZ := Lib.hid (HY10.out.set_no (b' := b10) 5 (.int .u8 y.fin) hn9)
              have HXZ := Lib.hid (HX10.out.set_no (b' := b10) 5 (.int .u8 y.fin) hn8)
              have HBZ := Lib.hid (HB10.out.setCell (p := ⟨b10, 5, none⟩) hb10 (.int .u8 y.fin))
              have xf := cf 5
              go_wp2
              go_meet
              case rel => exact ⟨_, _, _, _, HQZ, HZ, HYZ, HXZ, HBZ⟩
            · have HQZ := Lib.hid (show QT w2 ((⟨x.kind, x.rune, x.priv, x.P, x.inter, x.fin, y.data⟩ : Tok), .slice xa xn xc) from ⟨HX.out.1, ⟨⟨HX.out.2.1.1.1, HX.out.2.1.1.2.1, HX.out.2.1.1.2.2.1, HX.out.2.1.1.2.2.2⟩, HX.out.2.1.2.1, HX.out.2.1.2.2.1, HY.out.2.1.2.2.2⟩, HX.out.2.2⟩)
              have HZ := Lib.hid (HT10.out.set6 (.string y.data))
              have HYZ := Lib.hid (HY10.out.set_no (b' := b10) 6 (.string y.data) hn9)
              have HXZ := Lib.hid (HX10.out.set_no (b' := b10) 6 (.string y.data) hn8)
              have HBZ := Lib.hid (HB10.out.setCell (p := ⟨b10, 6, none⟩) hb10 (.string y.data))
              have xf := cf 6
              go_wp2
              go_meet
              case rel => exact ⟨_, _, _, _, HQZ, HZ, HYZ, HXZ, HBZ⟩
            · have HQZ := Lib.hid (show QT w2 ((⟨y.kind, x.rune, x.priv, x.P, x.inter, x.fin, x.data⟩ : Tok), .slice xa xn xc) from ⟨HX.out.1, ⟨⟨HX.out.2.1.1.1, HX.out.2.1.1.2.1, HX.out.2.1.1.2.2.1, HX.out.2.1.1.2.2.2⟩, HY.out.2.1.2.1, HX.out.2.1.2.2.1, HX.out.2.1.2.2.2⟩, HX.out.2.2⟩)
              have HZ := Lib.hid (HT10.out.set0 (.int .i64 y.kind))
              have HYZ := Lib.hid (HY10.out.set_no (b' := b10) 0 (.int .i64 y.kind) hn9)
              have HXZ := Lib.hid (HX10.out.set_no (b' := b10) 0 (.int .i64 y.kind) hn8)
              have HBZ := Lib.hid (HB10.out.setCell (p := ⟨b10, 0, none⟩) hb10 (.int .i64 y.kind))
              have xf := cf 0
              go_wp2
              go_meet
              case rel => exact ⟨_, _, _, _, HQZ, HZ, HYZ, HXZ, HBZ⟩
          case rest =>
          obtain ⟨z, za, zn, zc, HZ, HT11, HY11, HX11, HB11⟩ := hcut
          obtain ⟨w6, hw6⟩ : ∃ w6 : World, w6 = wc := ⟨_, rfl⟩
          rw [← hw6] at HT11 HY11 HX11 HB11 ⊢
          clear hw6 HT10 HY10 HX10 HB10 s1 s2 hs7 hn8 hn9
          obtain ⟨G, hG⟩ : ∃ G : Array Value, G = #[.int .i64 x.kind, .int .i32 x.rune, .int .u8 x.priv, .slice xa xn xc, .string x.inter, .int .u8 x.fin, .string x.data, .int .i64 y.kind, .int .i32 y.rune, .int .u8 y.priv, .slice ya yn yc, .string y.inter, .int .u8 y.fin, .string y.data, .int .i64 z.kind, .int .i32 z.rune, .int .u8 z.priv, .slice za zn zc, .string z.inter, .int .u8 z.fin, .string z.data] := ⟨_, rfl⟩
          have HIX := Lib.hid (show ∀ q : Nat, q < 3 → ∃ (u : Tok) (ua : Option Addr) (un uc : Nat), QT w2 (u, .slice ua un uc) ∧ ∀ W, (Instr.index 29 (.agg G) (.int .i64 (q : Int))).run Tryd.prog W = .ok (tokV u (.slice ua un uc)) W from fun q hq => by
            obtain rfl | rfl | rfl : q = 0 ∨ q = 1 ∨ q = 2 := by omega
            · refine ⟨x, xa, xn, xc, HX.out, fun W => ?_⟩
              rw [idx_agg G 0 (by decide) _ rfl, hG]
              rfl
            · refine ⟨y, ya, yn, yc, HY.out, fun W => ?_⟩
              rw [idx_agg G 1 (by decide) _ rfl, hG]
              rfl
            · refine ⟨z, za, zn, zc, HZ.out, fun W => ?_⟩
              rw [idx_agg G 2 (by decide) _ rfl, hG]
              rfl)
          go_upto_region 27 with (fail)
          go_cut [101, 102] (fun c d wc => wc = w6 ∧ c = .agg G ∧ d = .int .i64 0)
          case first =>
            obtain ⟨_, ⟨c0, c1, c2, c3, c4, c5, c6⟩, _⟩ := HX11.out
            obtain ⟨_, ⟨z0, z1, z2, z3, z4, z5, z6⟩, _⟩ := HT11.out
            obtain ⟨_, ⟨y0, y1, y2, y3, y4, y5, y6⟩, _⟩ := HY11.out
            have HGG := Lib.hid hG
            clear hG
            go_wp2
            go_meet
            case rel => exact ⟨rfl, by rw [HGG.out], rfl⟩
          case rest =>
          obtain ⟨hwc, rfl, rfl⟩ := hcut
          have hwc2 := hwc.symm
          clear hwc hG
          subst hwc2
          go_upto_block 5 with (fail)
          · go_wp2_with fail
            go_loopw [102] (fun d wr => ∃ q : Nat, q ≤ 3 ∧ d = .int .i64 q ∧ Hid (Below w6.heap.size w6 wr)) (fun d _ => 3 - (intOf d).toNat)
            case atStart => exact ⟨0, by omega, rfl, Lib.hid (Below.refl _ _)⟩
            case round =>
              obtain ⟨wi, rfl⟩ : ∃ wi : World, wi = wr := ⟨_, rfl⟩
              obtain ⟨q, hq, rfl, HBI⟩ := hrel
              have HBW := Lib.hid (HB11.out.trans (HBI.out.mono HB11.out.size))
              by_cases hq3 : q < 3
              · obtain ⟨u, ua, un, uc, hU, hidx⟩ := HIX.out q hq3
                have HU := Lib.hid hU
                have HID := Lib.hid hidx
                clear hU hidx
                go_upto_region 29 with (fail)
                go_cut [12] (fun b wc' => ∃ b12, b = .pointer (some ⟨b12, 0, none⟩) ∧ Hid (T7 wc' b12 (.int .i64 u.kind) (.int .i32 u.rune) (.int .u8 u.priv) (.slice ua un uc) (.string u.inter) (.int .u8 u.fin) (.string u.data)) ∧ Hid (T7 wc' b8 (.int .i64 x.kind) (.int .i32 x.rune) (.int .u8 x.priv) (.slice xa xn xc) (.string x.inter) (.int .u8 x.fin) (.string x.data)) ∧ Hid (Below w2.heap.size w2 wc') ∧ Hid (Below w6.heap.size w6 wc'))
                case first =>
                  have hidx := HID.out
                  have HT12 := Lib.hid (T7.newAt wi wi.heap.size rfl (.int .i64 u.kind) (.int .i32 u.rune) (.int .u8 u.priv) (.slice ua un uc) (.string u.inter) (.int .u8 u.fin) (.string u.data) 27)
                  have HB12 := Lib.hid (HBW.out.alloc HBW.out.size (.cells #[.int .i64 u.kind, .int .i32 u.rune, .int .u8 u.priv, .slice ua un uc, .string u.inter, .int .u8 u.fin, .string u.data] 27))
                  have HI12 := Lib.hid (HBI.out.alloc HBI.out.size (.cells #[.int .i64 u.kind, .int .i32 u.rune, .int .u8 u.priv, .slice ua un uc, .string u.inter, .int .u8 u.fin, .string u.data] 27))
                  have HX12 := Lib.hid ((HX11.out.below HBI.out).past (.cells #[.int .i64 u.kind, .int .i32 u.rune, .int .u8 u.priv, .slice ua un uc, .string u.inter, .int .u8 u.fin, .string u.data] 27))
                  have hl8 := (HX11.out.below HBI.out).1
                  go_wp2
                  go_meet
                  case rel => exact ⟨_, rfl, HT12, HX12, HB12, HI12⟩
                case rest =>
                obtain ⟨b12, rfl, HT12, HX12, HB12, HI12⟩ := hcut
                obtain ⟨w7, hw7⟩ : ∃ w7 : World, w7 = wc := ⟨_, rfl⟩
                rw [← hw7] at HT12 HX12 HB12 HI12 ⊢
                clear hw7 HBI HBW HID
                have HM := Lib.hid (show ∀ W, Below w2.heap.size w2 W → MatAt W (.slice ua un uc) u.P from fun W hb => HU.out.mat hb)
                have HMX := Lib.hid (show ∀ W, Below w2.heap.size w2 W → MatAt W (.slice xa xn xc) x.P from fun W hb => HX.out.mat hb)
                have HOK := Lib.hid (show TokOk ⟨u.kind, u.rune, u.priv, u.P, u.inter, u.fin, u.data⟩ from HU.out.2.1)
                -- Put, by the program and by the document
                obtain ⟨_, ⟨c0, c1, c2, c3, c4, c5, c6⟩, _⟩ := HT12.out
                go_wp2_with fail
                refine (put_tok w7 w7.heap.size rfl u.kind u.rune u.priv u.fin ua un uc u.P u.inter u.data (HM.out _ HB12.out) HOK.out (HPW.out.on HB12.out)).mono ?_
                obtain ⟨ps, hps⟩ : ∃ ps, putS [⟨u.kind, u.rune, u.priv, u.P, u.inter, u.fin, u.data⟩] = ps := ⟨_, rfl⟩
                obtain ⟨pe, hpe⟩ : ∃ pe, putE [⟨u.kind, u.rune, u.priv, u.P, u.inter, u.fin, u.data⟩] = pe := ⟨_, rfl⟩
                rw [hps, hpe]
                rintro e w8 ⟨rfl, b8'⟩
                have HB13 := Lib.hid (HB12.out.trans (b8'.mono HB12.out.size))
                have HI13 := Lib.hid (HI12.out.trans (b8'.mono HI12.out.size))
                have HT13 := Lib.hid (HT12.out.below b8')
                have HX13 := Lib.hid (HX12.out.below b8')
                have HPS := Lib.hid hps
                have HPE := Lib.hid hpe
                clear b8' hps hpe HT12 HX12 HB12 HI12 c0 c1 c2 c3 c4 c5 c6
                obtain ⟨_, ⟨c0, c1, c2, c3, c4, c5, c6⟩, _⟩ := HT13.out
                go_wp2_with fail
                have b9' : Below w8.heap.size w8 (w8.alloc (.cells #[.int .i64 u.kind, .int .i32 u.rune, .int .u8 u.priv, .slice ua un uc, .string u.inter, .int .u8 u.fin, .string u.data] 27)) := (Below.refl _ _).alloc (Nat.le_refl _) _
                refine (rput_any _ [⟨u.kind, u.rune, u.priv, u.P, u.inter, u.fin, u.data⟩] _ (toks_one w8 w8.heap.size rfl ⟨u.kind, u.rune, u.priv, u.P, u.inter, u.fin, u.data⟩ ua un uc (HM.out _ HB13.out) _) (by intro t ht; rw [List.mem_singleton.1 ht]; exact HOK.out) (by simp)).mono ?_
                rw [HPS.out, HPE.out]
                rintro e w9 ⟨rfl, b10'⟩
                have b11' := b9'.trans (b10'.mono b9'.size)
                have HB14 := Lib.hid (HB13.out.trans (b11'.mono HB13.out.size))
                have HI14 := Lib.hid (HI13.out.trans (b11'.mono HI13.out.size))
                have HT14 := Lib.hid (HT13.out.below b11')
                have HX14 := Lib.hid (HX13.out.below b11')
                clear b9' b10' b11' HT13 HX13 HB13 HI13 c0 c1 c2 c3 c4 c5 c6 HPS HPE
                go_upto_region 32 with (fail)
                obtain ⟨rb, hrb⟩ : ∃ rb, rightB ⟨u.kind, u.rune, u.priv, u.P, u.inter, u.fin, u.data⟩ = rb := ⟨_, rfl⟩
                obtain ⟨sb, hsb⟩ : ∃ sb, sameB ⟨u.kind, u.rune, u.priv, u.P, u.inter, u.fin, u.data⟩ ⟨x.kind, x.rune, x.priv, x.P, x.inter, x.fin, x.data⟩ = sb := ⟨_, rfl⟩
                have C1 := Lib.hid (show ∀ W, Below w2.heap.size w2 W → Calls Tryd.prog 11 #[tokV u (.slice ua un uc)] W fun e w' => e = .returned (.bool rb) ∧ Below W.heap.size W w' from fun W hb => by
                  rw [← hrb]
                  exact right_any u.kind u.rune u.priv u.fin ua un uc u.P u.inter u.data W HOK.out.2.1 (HM.out W hb) HOK.out.2.2.1 HOK.out.2.2.2)
                have C2 := Lib.hid (show ∀ W, Below w2.heap.size w2 W → Calls Tryd.prog 12 #[tokV u (.slice ua un uc)] W fun e w' => e = .returned (.bool rb) ∧ Below W.heap.size W w' from fun W hb => by
                  rw [← hrb]
                  exact rright_any u.kind u.rune u.priv u.fin _ u.P u.inter u.data W (HM.out W hb) HOK.out.2.2.1 HOK.out.2.2.2 ⟨HOK.out.1.2.2.1, HOK.out.1.2.2.2⟩)
                have C3 := Lib.hid (show ∀ W, Below w2.heap.size w2 W → Calls Tryd.prog 13 #[tokV u (.slice ua un uc), tokV x (.slice xa xn xc)] W fun e w' => e = .returned (.bool sb) ∧ Below W.heap.size W w' from fun W hb => by
                  rw [← hsb]
                  exact same_any _ _ _ _ _ _ _ _ _ _ _ _ _ _ u.P x.P _ _ _ _ W (HM.out W hb) (HMX.out W hb))
                have C4 := Lib.hid (show ∀ W, Below w2.heap.size w2 W → Calls Tryd.prog 14 #[tokV u (.slice ua un uc), tokV x (.slice xa xn xc)] W fun e w' => e = .returned (.bool sb) ∧ Below W.heap.size W w' from fun W hb => by
                  rw [← hsb]
                  exact rsame_any _ _ _ _ _ _ _ _ _ _ _ _ _ _ u.P x.P _ _ _ _ W (HM.out W hb) (HMX.out W hb))
                have C5 := Lib.hid (show ∀ W, Below w2.heap.size w2 W → Calls Tryd.prog 15 #[tokV u (.slice ua un uc)] W fun e w' => ∃ pa pn pc, e = .returned (tokV u (.slice pa pn pc)) ∧ MatAt w' (.slice pa pn pc) u.P ∧ Below W.heap.size W w' from fun W hb => by
                  refine (copy_all u.kind u.rune u.priv u.fin ua un uc u.P u.inter u.data W (HM.out W hb) (HU.out.zx hb) (by have := HU.out.2.2; simp only at this; omega) HU.out.1.2.2).mono ?_
                  rintro e w' ⟨pa, pn, pc, B, rfl, _, hr, bb⟩
                  exact ⟨pa, pn, pc, rfl, hr.mat, bb⟩)
                have C6 := Lib.hid (show ∀ W pa pn pc, Below w2.heap.size w2 W → MatAt W (.slice pa pn pc) u.P → Calls Tryd.prog 14 #[tokV u (.slice pa pn pc), tokV u (.slice ua un uc)] W fun e w' => e = .returned (.bool true) ∧ Below W.heap.size W w' from fun W pa pn pc hb hm => by
                  rw [← (same_iff (s := u) (t := u)).2 rfl]
                  exact rsame_any _ _ _ _ _ _ _ _ _ _ _ _ _ _ u.P u.P _ _ _ _ W hm (HM.out W hb))
                clear hrb hsb HMX
                have BB : Below w9.heap.size w9 w9.drew := ⟨rfl, rfl, rfl, Nat.le_refl _, fun _ _ => rfl⟩
                refine wp_region_held_drew (S := fun w' => (w'.cell? ⟨b12, 0, none⟩ = some (.int .i64 u.kind) ∧ w'.cell? ⟨b12, 1, none⟩ = some (.int .i32 u.rune) ∧ w'.cell? ⟨b12, 2, none⟩ = some (.int .u8 u.priv) ∧ w'.cell? ⟨b12, 3, none⟩ = some (.slice ua un uc) ∧ w'.cell? ⟨b12, 4, none⟩ = some (.string u.inter) ∧ w'.cell? ⟨b12, 5, none⟩ = some (.int .u8 u.fin) ∧ w'.cell? ⟨b12, 6, none⟩ = some (.string u.data)) ∧ (w'.cell? ⟨b8, 0, none⟩ = some (.int .i64 x.kind) ∧ w'.cell? ⟨b8, 1, none⟩ = some (.int .i32 x.rune) ∧ w'.cell? ⟨b8, 2, none⟩ = some (.int .u8 x.priv) ∧ w'.cell? ⟨b8, 3, none⟩ = some (.slice xa xn xc) ∧ w'.cell? ⟨b8, 4, none⟩ = some (.string x.inter) ∧ w'.cell? ⟨b8, 5, none⟩ = some (.int .u8 x.fin) ∧ w'.cell? ⟨b8, 6, none⟩ = some (.string x.data))) (by kernel_rfl) ?_ (fun hHeld => ?_)
                · exact ⟨(HT14.out.below (Below.refl _ _)).2.1, (HX14.out.below (Below.refl _ _)).2.1⟩
                obtain ⟨u0, hu0⟩ : ∃ u0, u0 = w9.drew := ⟨_, rfl⟩
                rw [← hu0] at BB hHeld ⊢
                clear hu0
                refine take_at (i := 0) (v := ?_) rfl (by kernel_rfl) (by kernel_rfl) (by kernel_rfl) (fun _ _ _ h => h) (by kernel_rfl) (by assumption) ?_ ?_
                rotate_left
                · (intro w hSw; (try dsimp only at hSw); go_simp; try with_reducible rfl)
                simp only [Act.put, List.setIfInBounds_toArray, List.set_cons_zero, List.set_cons_succ]
                refine take_at (i := 2) (v := ?_) rfl (by kernel_rfl) (by kernel_rfl) (by kernel_rfl) (fun _ _ _ h => h) (by kernel_rfl) (by assumption) ?_ ?_
                rotate_left
                · (intro w hSw; (try dsimp only at hSw); go_simp; try with_reducible rfl)
                simp only [Act.put, List.setIfInBounds_toArray, List.set_cons_zero, List.set_cons_succ]
                refine do_at (i := 1) rfl (by kernel_rfl) (by kernel_rfl) (fun K hK => ?_)
                go_simp
                refine (C1.out _ (HB14.out.trans (BB.mono HB14.out.size))).mono ?_
                rintro e y0 ⟨rfl, bb⟩
                replace BB := BB.trans (bb.mono BB.size)
                clear bb hHeld
                go_wp2_with fail
                refine hK.out _ _ ?_ (fun hHeld => ?_)
                · exact ⟨(HT14.out.below BB).2.1, (HX14.out.below BB).2.1⟩
                clear hK K
                try simp only [Act.put, List.setIfInBounds_toArray, List.set_cons_zero, List.set_cons_succ]
                refine do_at (i := 3) rfl (by kernel_rfl) (by kernel_rfl) (fun K hK => ?_)
                go_simp
                refine (C2.out _ (HB14.out.trans (BB.mono HB14.out.size))).mono ?_
                rintro e y1 ⟨rfl, bb⟩
                replace BB := BB.trans (bb.mono BB.size)
                clear bb hHeld
                go_wp2_with fail
                refine hK.out _ _ ?_ (fun hHeld => ?_)
                · exact ⟨(HT14.out.below BB).2.1, (HX14.out.below BB).2.1⟩
                clear hK K
                try simp only [Act.put, List.setIfInBounds_toArray, List.set_cons_zero, List.set_cons_succ]
                refine take_at (i := 4) (v := ?_) rfl (by kernel_rfl) (by kernel_rfl) (by kernel_rfl) (fun _ _ _ h => h) (by kernel_rfl) (by assumption) ?_ ?_
                rotate_left
                · (intro w hSw; (try dsimp only at hSw); go_simp; try with_reducible rfl)
                simp only [Act.put, List.setIfInBounds_toArray, List.set_cons_zero, List.set_cons_succ]
                refine take_at (i := 5) (v := ?_) rfl (by kernel_rfl) (by kernel_rfl) (by kernel_rfl) (fun _ _ _ h => h) (by kernel_rfl) (by assumption) ?_ ?_
                rotate_left
                · (intro w hSw; (try dsimp only at hSw); go_simp; try with_reducible rfl)
                simp only [Act.put, List.setIfInBounds_toArray, List.set_cons_zero, List.set_cons_succ]
                refine take_at (i := 6) (v := ?_) rfl (by kernel_rfl) (by kernel_rfl) (by kernel_rfl) (fun _ _ _ h => h) (by kernel_rfl) (by assumption) ?_ ?_
                rotate_left
                · (intro w hSw; (try dsimp only at hSw); go_simp; try with_reducible rfl)
                simp only [Act.put, List.setIfInBounds_toArray, List.set_cons_zero, List.set_cons_succ]
                refine take_at (i := 7) (v := ?_) rfl (by kernel_rfl) (by kernel_rfl) (by kernel_rfl) (fun _ _ _ h => h) (by kernel_rfl) (by assumption) ?_ ?_
                rotate_left
                · (intro w hSw; (try dsimp only at hSw); go_simp; try with_reducible rfl)
                simp only [Act.put, List.setIfInBounds_toArray, List.set_cons_zero, List.set_cons_succ]
                refine take_at (i := 8) (v := ?_) rfl (by kernel_rfl) (by kernel_rfl) (by kernel_rfl) (fun _ _ _ h => h) (by kernel_rfl) (by assumption) ?_ ?_
                rotate_left
                · (intro w hSw; (try dsimp only at hSw); go_simp; try with_reducible rfl)
                simp only [Act.put, List.setIfInBounds_toArray, List.set_cons_zero, List.set_cons_succ]
                refine take_at (i := 9) (v := ?_) rfl (by kernel_rfl) (by kernel_rfl) (by kernel_rfl) (fun _ _ _ h => h) (by kernel_rfl) (by assumption) ?_ ?_
                rotate_left
                · (intro w hSw; (try dsimp only at hSw); go_simp; try with_reducible rfl)
                simp only [Act.put, List.setIfInBounds_toArray, List.set_cons_zero, List.set_cons_succ]
                refine take_at (i := 10) (v := ?_) rfl (by kernel_rfl) (by kernel_rfl) (by kernel_rfl) (fun _ _ _ h => h) (by kernel_rfl) (by assumption) ?_ ?_
                rotate_left
                · (intro w hSw; (try dsimp only at hSw); go_simp; try with_reducible rfl)
                simp only [Act.put, List.setIfInBounds_toArray, List.set_cons_zero, List.set_cons_succ]
                refine take_at (i := 11) (v := ?_) rfl (by kernel_rfl) (by kernel_rfl) (by kernel_rfl) (fun _ _ _ h => h) (by kernel_rfl) (by assumption) ?_ ?_
                rotate_left
                · (intro w hSw; (try dsimp only at hSw); go_simp; try with_reducible rfl)
                simp only [Act.put, List.setIfInBounds_toArray, List.set_cons_zero, List.set_cons_succ]
                refine take_at (i := 12) (v := ?_) rfl (by kernel_rfl) (by kernel_rfl) (by kernel_rfl) (fun _ _ _ h => h) (by kernel_rfl) (by assumption) ?_ ?_
                rotate_left
                · (intro w hSw; (try dsimp only at hSw); go_simp; try with_reducible rfl)
                simp only [Act.put, List.setIfInBounds_toArray, List.set_cons_zero, List.set_cons_succ]
                refine take_at (i := 13) (v := ?_) rfl (by kernel_rfl) (by kernel_rfl) (by kernel_rfl) (fun _ _ _ h => h) (by kernel_rfl) (by assumption) ?_ ?_
                rotate_left
                · (intro w hSw; (try dsimp only at hSw); go_simp; try with_reducible rfl)
                simp only [Act.put, List.setIfInBounds_toArray, List.set_cons_zero, List.set_cons_succ]
                refine take_at (i := 14) (v := ?_) rfl (by kernel_rfl) (by kernel_rfl) (by kernel_rfl) (fun _ _ _ h => h) (by kernel_rfl) (by assumption) ?_ ?_
                rotate_left
                · (intro w hSw; (try dsimp only at hSw); go_simp; try with_reducible rfl)
                simp only [Act.put, List.setIfInBounds_toArray, List.set_cons_zero, List.set_cons_succ]
                refine take_at (i := 15) (v := ?_) rfl (by kernel_rfl) (by kernel_rfl) (by kernel_rfl) (fun _ _ _ h => h) (by kernel_rfl) (by assumption) ?_ ?_
                rotate_left
                · (intro w hSw; (try dsimp only at hSw); go_simp; try with_reducible rfl)
                simp only [Act.put, List.setIfInBounds_toArray, List.set_cons_zero, List.set_cons_succ]
                refine take_at (i := 16) (v := ?_) rfl (by kernel_rfl) (by kernel_rfl) (by kernel_rfl) (fun _ _ _ h => h) (by kernel_rfl) (by assumption) ?_ ?_
                rotate_left
                · (intro w hSw; (try dsimp only at hSw); go_simp; try with_reducible rfl)
                simp only [Act.put, List.setIfInBounds_toArray, List.set_cons_zero, List.set_cons_succ]
                refine take_at (i := 17) (v := ?_) rfl (by kernel_rfl) (by kernel_rfl) (by kernel_rfl) (fun _ _ _ h => h) (by kernel_rfl) (by assumption) ?_ ?_
                rotate_left
                · (intro w hSw; (try dsimp only at hSw); go_simp; try with_reducible rfl)
                simp only [Act.put, List.setIfInBounds_toArray, List.set_cons_zero, List.set_cons_succ]
                refine take_at (i := 19) (v := ?_) rfl (by kernel_rfl) (by kernel_rfl) (by kernel_rfl) (fun _ _ _ h => h) (by kernel_rfl) (by assumption) ?_ ?_
                rotate_left
                · (intro w hSw; (try dsimp only at hSw); go_simp; try with_reducible rfl)
                simp only [Act.put, List.setIfInBounds_toArray, List.set_cons_zero, List.set_cons_succ]
                refine take_at (i := 20) (v := ?_) rfl (by kernel_rfl) (by kernel_rfl) (by kernel_rfl) (fun _ _ _ h => h) (by kernel_rfl) (by assumption) ?_ ?_
                rotate_left
                · (intro w hSw; (try dsimp only at hSw); go_simp; try with_reducible rfl)
                simp only [Act.put, List.setIfInBounds_toArray, List.set_cons_zero, List.set_cons_succ]
                refine do_at (i := 18) rfl (by kernel_rfl) (by kernel_rfl) (fun K hK => ?_)
                go_simp
                refine (C3.out _ (HB14.out.trans (BB.mono HB14.out.size))).mono ?_
                rintro e y2 ⟨rfl, bb⟩
                replace BB := BB.trans (bb.mono BB.size)
                clear bb hHeld
                go_wp2_with fail
                refine hK.out _ _ ?_ (fun hHeld => ?_)
                · exact ⟨(HT14.out.below BB).2.1, (HX14.out.below BB).2.1⟩
                clear hK K
                try simp only [Act.put, List.setIfInBounds_toArray, List.set_cons_zero, List.set_cons_succ]
                refine do_at (i := 21) rfl (by kernel_rfl) (by kernel_rfl) (fun K hK => ?_)
                go_simp
                refine (C4.out _ (HB14.out.trans (BB.mono HB14.out.size))).mono ?_
                rintro e y3 ⟨rfl, bb⟩
                replace BB := BB.trans (bb.mono BB.size)
                clear bb hHeld
                go_wp2_with fail
                refine hK.out _ _ ?_ (fun hHeld => ?_)
                · exact ⟨(HT14.out.below BB).2.1, (HX14.out.below BB).2.1⟩
                clear hK K
                try simp only [Act.put, List.setIfInBounds_toArray, List.set_cons_zero, List.set_cons_succ]
                refine take_at (i := 22) (v := ?_) rfl (by kernel_rfl) (by kernel_rfl) (by kernel_rfl) (fun _ _ _ h => h) (by kernel_rfl) (by assumption) ?_ ?_
                rotate_left
                · (intro w hSw; (try dsimp only at hSw); go_simp; try with_reducible rfl)
                simp only [Act.put, List.setIfInBounds_toArray, List.set_cons_zero, List.set_cons_succ]
                refine take_at (i := 23) (v := ?_) rfl (by kernel_rfl) (by kernel_rfl) (by kernel_rfl) (fun _ _ _ h => h) (by kernel_rfl) (by assumption) ?_ ?_
                rotate_left
                · (intro w hSw; (try dsimp only at hSw); go_simp; try with_reducible rfl)
                simp only [Act.put, List.setIfInBounds_toArray, List.set_cons_zero, List.set_cons_succ]
                refine take_at (i := 24) (v := ?_) rfl (by kernel_rfl) (by kernel_rfl) (by kernel_rfl) (fun _ _ _ h => h) (by kernel_rfl) (by assumption) ?_ ?_
                rotate_left
                · (intro w hSw; (try dsimp only at hSw); go_simp; try with_reducible rfl)
                simp only [Act.put, List.setIfInBounds_toArray, List.set_cons_zero, List.set_cons_succ]
                refine take_at (i := 25) (v := ?_) rfl (by kernel_rfl) (by kernel_rfl) (by kernel_rfl) (fun _ _ _ h => h) (by kernel_rfl) (by assumption) ?_ ?_
                rotate_left
                · (intro w hSw; (try dsimp only at hSw); go_simp; try with_reducible rfl)
                simp only [Act.put, List.setIfInBounds_toArray, List.set_cons_zero, List.set_cons_succ]
                refine take_at (i := 27) (v := ?_) rfl (by kernel_rfl) (by kernel_rfl) (by kernel_rfl) (fun _ _ _ h => h) (by kernel_rfl) (by assumption) ?_ ?_
                rotate_left
                · (intro w hSw; (try dsimp only at hSw); go_simp; try with_reducible rfl)
                simp only [Act.put, List.setIfInBounds_toArray, List.set_cons_zero, List.set_cons_succ]
                refine do_at (i := 26) rfl (by kernel_rfl) (by kernel_rfl) (fun K hK => ?_)
                go_simp
                refine (C5.out _ (HB14.out.trans (BB.mono HB14.out.size))).mono ?_
                rintro e y4 ⟨pa, pn, pc, rfl, hpm, bb⟩
                replace BB := BB.trans (bb.mono BB.size)
                have HPM := Lib.hid hpm
                clear hpm
                clear bb hHeld
                go_wp2_with fail
                refine hK.out _ _ ?_ (fun hHeld => ?_)
                · exact ⟨(HT14.out.below BB).2.1, (HX14.out.below BB).2.1⟩
                clear hK K
                try simp only [Act.put, List.setIfInBounds_toArray, List.set_cons_zero, List.set_cons_succ]
                refine do_at (i := 28) rfl (by kernel_rfl) (by kernel_rfl) (fun K hK => ?_)
                go_simp
                refine (C6.out _ pa pn pc (HB14.out.trans (BB.mono HB14.out.size)) HPM.out).mono ?_
                rintro e y5 ⟨rfl, bb⟩
                replace BB := BB.trans (bb.mono BB.size)
                clear bb hHeld
                go_wp2_with fail
                refine hK.out _ _ ?_ (fun hHeld => ?_)
                · exact ⟨(HT14.out.below BB).2.1, (HX14.out.below BB).2.1⟩
                clear hK K
                try simp only [Act.put, List.setIfInBounds_toArray, List.set_cons_zero, List.set_cons_succ]
                refine take_at (i := 29) (v := ?_) rfl (by kernel_rfl) (by kernel_rfl) (by kernel_rfl) (fun _ _ _ h => h) (by kernel_rfl) (by assumption) ?_ ?_
                rotate_left
                · (intro w hSw; (try dsimp only at hSw); go_simp; try with_reducible rfl)
                simp only [Act.put, List.setIfInBounds_toArray, List.set_cons_zero, List.set_cons_succ]
                refine take_at (i := 30) (v := ?_) rfl (by kernel_rfl) (by kernel_rfl) (by kernel_rfl) (fun _ _ _ h => h) (by kernel_rfl) (by assumption) ?_ ?_
                rotate_left
                · (intro w hSw; (try dsimp only at hSw); go_simp; try with_reducible rfl)
                simp only [Act.put, List.setIfInBounds_toArray, List.set_cons_zero, List.set_cons_succ]
                refine wpAnyH_done (by kernel_rfl) ?_ _
                have HIF := Lib.hid (HI14.out.trans (BB.mono HI14.out.size))
                clear BB hHeld HPM
                go_wp2
                go_roundw
                case rel => exact ⟨q + 1, by omega, by go_num, HIF⟩
                case measure => simp [intOf]; omega
              · go_wp2
                go_roundw
                case rel => exact ⟨k + 1, by omega, by go_num, HBW⟩
                case measure => simp [intOf]; omega
        · go_wp2
          go_meet
          case rel => exact HBO
    case rest =>
      obtain ⟨w3, hw3⟩ : ∃ w3 : World, w3 = wc := ⟨_, rfl⟩
      rw [← hw3] at hcut ⊢
      clear hw3
      have HB3 := hcut
      clear hcut
      have HTK := Lib.hid (show ToksAt w3 (.slice aa N ca) (L.map Prod.fst) from HR.out.toks.on (Keeps.of HB3.out))
      have HOK := Lib.hid (show ∀ t ∈ L.map Prod.fst, TokOk t from fun t ht => by
        obtain ⟨p, hp, rfl⟩ := List.mem_map.1 ht
        exact (HQT.out p hp).2.1)
      have hll : (L.map Prod.fst).length ≤ 10000 := by rw [List.length_map, HN.out]; omega
      have HW3 := Lib.hid (HPW.out.on HB3.out)
      go_wp2_with fail
      refine (put_any _ (L.map Prod.fst) _ HTK.out HOK.out hll HW3.out).mono ?_
      obtain ⟨ps, hps⟩ : ∃ ps, putS (L.map Prod.fst) = ps := ⟨_, rfl⟩
      obtain ⟨pe, hpe⟩ : ∃ pe, putE (L.map Prod.fst) = pe := ⟨_, rfl⟩
      rw [hps, hpe]
      rintro e w4 ⟨rfl, b4⟩
      have HTK4 := Lib.hid (HTK.out.below b4)
      have HW4 := Lib.hid (HW3.out.on b4)
      have HB4 := Lib.hid (HB3.out.trans (b4.mono HB3.out.size))
      have HPS := Lib.hid hps
      have HPE := Lib.hid hpe
      clear b4 hps hpe HTK HW3 HB3
      go_wp2_with fail
      refine (rput_any _ (L.map Prod.fst) _ HTK4.out HOK.out hll).mono ?_
      rw [HPS.out, HPE.out]
      rintro e w5 ⟨rfl, b5⟩
      have HW5 := Lib.hid (HW4.out.on b5)
      have HB5 := Lib.hid (HB4.out.trans (b5.mono HB4.out.size))
      clear b5 HTK4 HW4 HB4
      go_wp2_with fail
      refine (works_any _ HW5.out).mono ?_
      rintro e w6 ⟨rfl, b6⟩
      have HB6 := Lib.hid (HB.out.trans ((HB5.out.trans (b6.mono HB5.out.size)).mono HB.out.size))
      clear b6
      go_wp2
      go_ret
      exact ⟨rfl, HB6.out⟩
end Go.Proofs.YtclaopidjfekmaaDoor.Lab
