/- The Go law TokenApart. -/
import Derived.Test.YtclaopidjfekmaaDoorToTokens
namespace Go.Proofs.YtclaopidjfekmaaDoor.Lab
open Go Go.RowKit

theorem own_form {w : World} {base n size : Nat} {e : TypeId} {v : Value} {xs : List Value} (h : w.ownsRow base e size v n xs) : ∃ a c, v = .slice a n c := by
  rcases h.2 with ⟨rfl, rfl⟩ | ⟨g, cap, cur, rfl, _⟩
  · exact ⟨none, 0, rfl⟩
  · exact ⟨_, cap, rfl⟩
theorem own_pos {w : World} {base n size c : Nat} {e : TypeId} {a : Option Addr} {xs : List Value} (h : w.ownsRow base e size (.slice a n c) n xs) (h0 : 0 < n) : ∃ g, a = some ⟨g, 0, none⟩ := by
  rcases h.2 with ⟨_, h1⟩ | ⟨g, cap, cur, e, _⟩
  · omega
  · injection e with e1
    exact ⟨g, e1⟩
theorem bytes_of {s : ByteArray} {l : List UInt8} (h : bl s = l) : s.size = l.length := by rw [← h]; simp [bl]
theorem bl_cat2 (s t : ByteArray) : bl (s ++ t) = bl s ++ bl t := by simp [bl]

set_option maxHeartbeats 16000000 in
set_option maxRecDepth 100000 in
theorem apart_law (a : Option Addr) (len cap : Nat) (T : Nat → Dr) (q : Int) (v' : Value) (K p r f : Int) (PP : Rws) (I : List Int) (d : ByteArray) (w : World) (hD : IsDrafts w a len cap T) (hq : 0 ≤ q ∧ q ≤ 255) (hX : DraftAt w v' K p r f PP I d) (hP : Pow w) :
    Calls Tryd.prog 4 #[.slice a len cap, .int .u8 q, v'] w fun e w' => e = .returned (.bool true) ∧ Below w.heap.size w w' := by
  obtain ⟨pv, iv, rfl, ⟨hK0, hK1⟩, ⟨hp0, hp1⟩, ⟨hf0, hf1⟩, hd, hS, hI, hB⟩ := hX
  obtain ⟨hw, hR⟩ := tokD_right K p r PP I f d hB
  have HXR := Lib.hid (And.intro hR hw)
  have HP := Lib.hid hP
  have HDOK := Lib.hid hD.2.2.1
  obtain ⟨qn, rfl⟩ : ∃ qn : Nat, q = qn := ⟨q.toNat, by omega⟩
  obtain ⟨w1, hw1⟩ : ∃ w1, w1 = w.alloc (.cells #[.int .u8 K, .int .u8 p, .int .i32 r, pv, iv, .int .u8 f, .string d] 41) := ⟨_, rfl⟩
  have b1 : Below w.heap.size w w1 := by rw [hw1]; exact (Below.refl _ _).alloc (Nat.le_refl _) _
  have HB1 := Lib.hid b1
  have HS := Lib.hid (hS.on (Keeps.of b1))
  have HI := Lib.hid (hI.on (Keeps.of b1))
  have HD := Lib.hid (hD.below b1)
  have HT := Lib.hid (show T7 w1 w.heap.size (.int .u8 K) (.int .u8 p) (.int .i32 r) pv iv (.int .u8 f) (.string d) by rw [hw1]; exact T7.newAt w w.heap.size rfl _ _ _ _ _ _ _ _)
  clear hS hI hB hd hw hR hP b1 hD
  go_enter Tryd.func4, Tryd.ntmps4
  go_wp2_with fail
  rw [← hw1]
  clear hw1
  refine (works_any _ (HP.out.on HB1.out)).mono ?_
  rintro e w2 ⟨rfl, b2⟩
  have HT2 := Lib.hid (HT.out.below b2)
  have HB2 := Lib.hid (HB1.out.trans (b2.mono HB1.out.size))
  have HS2 := Lib.hid (HS.out.on (Keeps.of b2))
  have HI2 := Lib.hid (HI.out.on (Keeps.of b2))
  have HD2 := Lib.hid (HD.out.below b2)
  clear b2 HB1 HS HI HT HD
  go_wp2_with fail
  refine (tokens_any a len cap T 10 10 rfl (by decide) _ HD2.out).mono ?_
  rintro e w3 ⟨v, L, rfl, hTR, hmap, b3⟩
  obtain ⟨n, hn⟩ : ∃ n, n = min len 10 := ⟨_, rfl⟩
  rw [← hn] at hmap
  obtain ⟨l, hl⟩ : ∃ l, l = drToks T n := ⟨_, rfl⟩
  rw [← hl] at hmap
  have HAL := Lib.hid (show AllR l by rw [hl]; exact drToks_right (W := w) fun i hi => HDOK.out i (by omega))
  have hln : l.length = n := by rw [hl]; exact drToks_len T n
  have hLn : L.length = n := by rw [← hln, ← hmap, List.length_map]
  have hn10 : n ≤ 10 := by omega
  have HMAP := Lib.hid hmap
  have HLN := Lib.hid hln
  have HLLN := Lib.hid hLn
  have HT3 := Lib.hid (HT2.out.below b3)
  have HB3 := Lib.hid (HB2.out.trans (b3.mono HB2.out.size))
  have HS3 := Lib.hid (HS2.out.on (Keeps.of b3))
  have HI3 := Lib.hid (HI2.out.on (Keeps.of b3))
  have HTR := Lib.hid hTR
  have ho3 : w3.ownsRow w2.heap.size 27 7 v n (flat7 L) := by rw [← hLn]; exact hTR.1
  obtain ⟨aa, ca, rfl⟩ := own_form ho3
  have HO3 := Lib.hid ho3
  clear hn hl hmap hln hLn hTR b3 HB2 HS2 HI2 HT2 HD2 HDOK ho3
  have HTA := Lib.hid (show ToksAt w3 (.slice aa n ca) l by rw [← HMAP.out]; exact HTR.out.toks)
  obtain ⟨ib, hi, hz0, hz1, hz2⟩ := info_parts infoT
  obtain ⟨w4, hw4⟩ : ∃ w4, w4 = w3.alloc (.cells #[] 27) := ⟨_, rfl⟩
  have b4 : Below w3.heap.size w3 w4 := by rw [hw4]; exact (Below.refl _ _).alloc (Nat.le_refl _) _
  have h04 : w4.ownsRow w3.heap.size 27 7 (.slice (some ⟨w3.heap.size, 0, none⟩) 0 0) 0 [] := by rw [hw4]; exact World.ownsRow_made w3 #[] 0 (Nat.le_refl _) (by simp [maxLen]) rfl
  have hs4 := b4.size
  have ha4 := row_below HO3.out b4
  have h1c : ∀ u ∈ flat7 L, u.oneCell' = true := fun u hu => flat7_one L u hu fun p hp => mat_one (HTR.out.2 p hp).mat
  have H1C := Lib.hid h1c
  go_wp2_with (at_builtin; rw [← hw4]; clear hw4; refine wpList_append_row rfl (.tmp 23) (.tmp 24) 22 rfl w3.heap.size 27 ib (.agg #[.int .i64 0, .int .i32 0, .int .u8 0, .slice none 0 0, .string ⟨#[]⟩, .int .u8 0, .string ⟨#[]⟩]) 7 80 Tryd.underlying22 hi hz0 hz1 hz2 rfl (by decide) _ 0 [] rfl h04 w2.heap.size n (.slice aa n ca) (flat7 L) rfl ha4 h1c ?c3 ?c4 hs4 ?_)
  case c3 => unfold maxLen; omega
  case c4 => omega
  intro vb w5 own5 grow5
  have ho5 : w5.ownsRow w3.heap.size 27 7 vb n (flat7 L) := by simpa using own5
  have HB35 := Lib.hid (b4.grown grow5 hs4 (fun j hj => (h04.lt j hj).1))
  obtain ⟨ab, cb, rfl⟩ := own_form ho5
  have HO5 := Lib.hid ho5
  clear own5 grow5 ho5 h04 ha4 b4 hs4 h1c
  obtain ⟨x, hx⟩ : ∃ x, tokD K p r PP I f d = x := ⟨_, rfl⟩
  have C1 := Lib.hid (show ∀ W, Below w3.heap.size w3 W → Calls Tryd.prog 17 #[drf K p r pv iv f d] W fun e w' => ∃ va vn vc S, e = .returned (tokV x (.slice va vn vc)) ∧ Made W w' S ∧ MatIn w' S (.slice va vn vc) x.P ∧ Below W.heap.size W w' from fun W hb => by
    subst hx
    exact draft_in K p r pv iv PP I f d W hK0 hK1 hp0 hf0 hf1 (HI3.out.on (Keeps.of hb)) (HS3.out.on (Keeps.of hb)))
  rw [hx] at HXR
  clear hx HI3 HS3
  go_upto_if 28 with (fail)
  go_cut [] (fun wc => ∃ l', Hid (ToksAt wc (.slice ab n cb) l') ∧ Hid (AllR l') ∧ Hid (((putS l).toList == (putS l').toList) = rowsB l l') ∧ Hid (l'.length = n) ∧ Hid (Below w3.heap.size w3 wc))
  case first =>
    by_cases h0 : n = 0
    · subst h0
      have hLe : L = [] := List.length_eq_zero_iff.1 HLLN.out
      have HTB := Lib.hid (show ToksAt w5 (.slice ab 0 cb) l by
        have h := toks_of (L := L) (by rw [HLLN.out]; exact HO5.out) (fun p hp => by rw [hLe] at hp; simp at hp)
        rw [HMAP.out] at h
        exact h)
      clear hLe
      go_wp2
      go_meet
      case rel => exact ⟨l, HTB, HAL, Lib.hid put_self, HLN, HB35⟩
    · obtain ⟨g, hg⟩ := own_pos HO5.out (by omega)
      subst hg
      have HSM := Lib.hid (show ∀ p ∈ L, MatIn w5 (fun g => (w2.heap.size ≤ g ∧ g < w3.heap.size) ∧ ∀ i, w3.frozen? ⟨g, i, none⟩ = false) p.2 p.1.P from fun p hp => (HTR.out.2 p hp).inn.below HB35.out (fun g hg => hg.1.2))
      have HTB := Lib.hid (show TB w5 g (fun g => (w2.heap.size ≤ g ∧ g < w3.heap.size) ∧ ∀ i, w3.frozen? ⟨g, i, none⟩ = false) L from TB.of (base := w3.heap.size) (c := cb) (by rw [HLLN.out]; exact HO5.out) HSM.out (fun q hq => hq.1.2) HB35.out.size)
      have hgl := HO5.out.lt g rfl
      clear HSM
      obtain ⟨k, hk⟩ : ∃ k, qn % n = k := ⟨_, rfl⟩
      have hkn : k < n := by rw [← hk]; exact Nat.mod_lt _ (by omega)
      have t1 : Int.tmod (qn : Int) (n : Int) = (k : Int) := by rw [← hk]; rfl
      have t2 : (qn : Int) % (n : Int) = (k : Int) := by rw [← hk]; exact (Int.natCast_emod qn n).symm
      have hne : (n : Int) ≠ 0 := by omega
      have hwr : IntKind.i64.wrap (qn : Int) = (qn : Int) := by rw [IntKind.wrap_i64]; omega
      clear hk
      go_upto_region 6 with (fail)
      have BB : Below w5.heap.size w5 w5.drew := ⟨rfl, rfl, rfl, Nat.le_refl _, fun _ _ => rfl⟩
      refine wp_region_held_drew (S := fun w' => w'.cell? ⟨w.heap.size, 0, none⟩ = some (.int .u8 K) ∧ w'.cell? ⟨w.heap.size, 1, none⟩ = some (.int .u8 p) ∧ w'.cell? ⟨w.heap.size, 2, none⟩ = some (.int .i32 r) ∧ w'.cell? ⟨w.heap.size, 3, none⟩ = some (pv) ∧ w'.cell? ⟨w.heap.size, 4, none⟩ = some (iv) ∧ w'.cell? ⟨w.heap.size, 5, none⟩ = some (.int .u8 f) ∧ w'.cell? ⟨w.heap.size, 6, none⟩ = some (.string d)) (by kernel_rfl) ?_ (fun hHeld => ?_)
      · exact (HT3.out.below (HB35.out)).2.1
      obtain ⟨u0, hu0⟩ : ∃ u0, u0 = w5.drew := ⟨_, rfl⟩
      have BW : Below w3.heap.size w3 u0 := by rw [hu0]; exact HB35.out.trans (BB.mono HB35.out.size)
      rw [← hu0] at BB hHeld ⊢
      clear hu0
      refine take_at (i := 0) (v := ?_) rfl (by kernel_rfl) (by kernel_rfl) (by kernel_rfl) (fun _ _ _ h => h) (by kernel_rfl) (by assumption) ?_ ?_
      rotate_left
      · (intro w hSw; (try dsimp only at hSw); go_simp; try with_reducible rfl)
      simp only [Act.put, List.setIfInBounds_toArray, List.set_cons_zero, List.set_cons_succ]
      refine take_at (i := 1) (v := ?_) rfl (by kernel_rfl) (by kernel_rfl) (by kernel_rfl) (fun _ _ _ h => h) (by kernel_rfl) (by assumption) ?_ ?_
      rotate_left
      · (intro w hSw; (try dsimp only at hSw); go_simp; try with_reducible rfl)
      simp only [Act.put, List.setIfInBounds_toArray, List.set_cons_zero, List.set_cons_succ]
      refine take_at (i := 2) (v := ?_) rfl (by kernel_rfl) (by kernel_rfl) (by kernel_rfl) (fun _ _ _ h => h) (by kernel_rfl) (by assumption) ?_ ?_
      rotate_left
      · (intro w hSw; (try dsimp only at hSw); go_simp; try with_reducible rfl)
      simp only [Act.put, List.setIfInBounds_toArray, List.set_cons_zero, List.set_cons_succ]
      refine take_at (i := 3) (v := ?_) rfl (by kernel_rfl) (by kernel_rfl) (by kernel_rfl) (fun _ _ _ h => h) (by kernel_rfl) (by assumption) ?_ ?_
      rotate_left
      · (intro w hSw; (try dsimp only at hSw); go_simp; try with_reducible rfl)
      simp only [Act.put, List.setIfInBounds_toArray, List.set_cons_zero, List.set_cons_succ]
      refine take_at (i := 4) (v := ?_) rfl (by kernel_rfl) (by kernel_rfl) (by kernel_rfl) (fun _ _ _ h => h) (by kernel_rfl) (by assumption) ?_ ?_
      rotate_left
      · (intro w hSw; (try dsimp only at hSw); go_simp; try with_reducible rfl)
      simp only [Act.put, List.setIfInBounds_toArray, List.set_cons_zero, List.set_cons_succ]
      refine take_at (i := 5) (v := ?_) rfl (by kernel_rfl) (by kernel_rfl) (by kernel_rfl) (fun _ _ _ h => h) (by kernel_rfl) (by assumption) ?_ ?_
      rotate_left
      · (intro w hSw; (try dsimp only at hSw); go_simp; try with_reducible rfl)
      simp only [Act.put, List.setIfInBounds_toArray, List.set_cons_zero, List.set_cons_succ]
      refine take_at (i := 6) (v := ?_) rfl (by kernel_rfl) (by kernel_rfl) (by kernel_rfl) (fun _ _ _ h => h) (by kernel_rfl) (by assumption) ?_ ?_
      rotate_left
      · (intro w hSw; (try dsimp only at hSw); go_simp; try with_reducible rfl)
      simp only [Act.put, List.setIfInBounds_toArray, List.set_cons_zero, List.set_cons_succ]
      refine do_at (i := 7) rfl (by kernel_rfl) (by kernel_rfl) (fun K hK => ?_)
      go_simp
      refine (C1.out _ BW).mono ?_
      rintro e y0 ⟨va, vn, vc, S9, rfl, md, M9, bb⟩
      go_wp2_with fail
      have TB6 := (HTB.out.below BB).below bb
      have hs0 := BB.size
      have hs1 := bb.size
      replace BW := BW.trans (bb.mono BW.size)
      clear bb hHeld
      refine hK.out _ _ ?_ (fun hHeld => ?_)
      · exact (HT3.out.below BW).2.1
      clear hK K
      try simp only [Act.put, List.setIfInBounds_toArray, List.set_cons_zero, List.set_cons_succ]
      refine take_at (i := 8) (v := ?_) rfl (by kernel_rfl) (by kernel_rfl) (by kernel_rfl) (fun _ _ _ h => h) (by kernel_rfl) (by assumption) ?_ ?_
      rotate_left
      · (intro w hSw; (try dsimp only at hSw); go_simp; try with_reducible rfl)
      simp only [Act.put, List.setIfInBounds_toArray, List.set_cons_zero, List.set_cons_succ]
      refine do_at (i := 9) rfl (by kernel_rfl) (by kernel_rfl) (fun K hK => ?_)
      have HTM := Lib.hid ((TB6.more (T := S9) (fun q hq => by have := md q hq; omega)).put (k := k) (t := x) (m := .slice va vn vc) (by rw [HLLN.out]; exact hkn) (M9.mono (fun _ => .inr)))
      have HP7 := Lib.hid (put7o_below BW (b := g) (o := k * 7) hgl.1 (.int .i64 x.kind) (.int .i32 x.rune) (.int .u8 x.priv) (.slice va vn vc) (.string x.inter) (.int .u8 x.fin) (.string x.data))
      obtain ⟨pk, hpk⟩ : ∃ pk, L[k]? = some pk := ⟨L[k]'(by rw [HLLN.out]; exact hkn), List.getElem?_eq_getElem _⟩
      have z0 := TB6.2.2.1 k pk 0 _ hpk (by omega) rfl
      rw [Nat.add_zero] at z0
      have z1 := TB6.2.2.1 k pk 1 _ hpk (by omega) rfl
      have z2 := TB6.2.2.1 k pk 2 _ hpk (by omega) rfl
      have z3 := TB6.2.2.1 k pk 3 _ hpk (by omega) rfl
      have z4 := TB6.2.2.1 k pk 4 _ hpk (by omega) rfl
      have z5 := TB6.2.2.1 k pk 5 _ hpk (by omega) rfl
      have z6 := TB6.2.2.1 k pk 6 _ hpk (by omega) rfl
      have x0 := TB6.2.1 (k * 7)
      have x1 := TB6.2.1 (k * 7 + 1)
      have x2 := TB6.2.1 (k * 7 + 2)
      have x3 := TB6.2.1 (k * 7 + 3)
      have x4 := TB6.2.1 (k * 7 + 4)
      have x5 := TB6.2.1 (k * 7 + 5)
      have x6 := TB6.2.1 (k * 7 + 6)
      go_simp
      change K _ (put7o y0 g (k * 7) (.int .i64 x.kind) (.int .i32 x.rune) (.int .u8 x.priv) (.slice va vn vc) (.string x.inter) (.int .u8 x.fin) (.string x.data))
      generalize put7o y0 g (k * 7) (.int .i64 x.kind) (.int .i32 x.rune) (.int .u8 x.priv) (.slice va vn vc) (.string x.inter) (.int .u8 x.fin) (.string x.data) = y1 at HTM HP7 ⊢
      clear z0 z1 z2 z3 z4 z5 z6 x0 x1 x2 x3 x4 x5 x6 hHeld
      refine hK.out _ _ ?_ (fun hHeld => ?_)
      · exact (HT3.out.below HP7.out).2.1
      clear hK K
      try simp only [Act.put, List.setIfInBounds_toArray, List.set_cons_zero, List.set_cons_succ]
      refine wpAnyH_done (by kernel_rfl) ?_ _
      have HFT := Lib.hid (show ToksAt y1 (.slice (some ⟨g, 0, none⟩) n cb) (l.set k x) by
        have h := HTM.out.toks cb (by rw [List.length_set, HLLN.out]; unfold maxLen; omega)
        rw [List.length_set, HLLN.out, List.map_set, HMAP.out] at h
        exact h)
      have HFR := Lib.hid (HAL.out.set HXR.out k)
      have HFS := Lib.hid (put_same HAL.out (k := k) (by rw [HLN.out]; exact hkn) HXR.out)
      have HFL := Lib.hid (show (l.set k x).length = n by rw [List.length_set]; exact HLN.out)
      clear TB6 BB BW hs0 hs1 md M9 hHeld HTB HTM hpk
      go_wp2_with fail
      go_meet
      case rel => exact ⟨_, HFT, HFR, HFS, HFL, HP7⟩
  case rest =>
    obtain ⟨l', HTB, HAL', HSQ, HLN', HB36⟩ := hcut
    obtain ⟨w6, hw6⟩ : ∃ w6 : World, w6 = wc := ⟨_, rfl⟩
    rw [← hw6] at HTB HB36 ⊢
    clear hw6 HB35 HO5
    have HB6 := Lib.hid (HB3.out.trans (HB36.out.mono HB3.out.size))
    go_wp2_with fail
    refine (put_any _ l _ (HTA.out.on (Keeps.of HB36.out)) HAL.out.ok (by rw [HLN.out]; omega) (HP.out.on HB6.out)).mono ?_
    rintro e w7 ⟨rfl, b7⟩
    rw [putE_ok HAL.out]
    have HTB7 := Lib.hid (HTB.out.below b7)
    have HB37 := Lib.hid (HB36.out.trans (b7.mono HB36.out.size))
    have HB7 := Lib.hid (HB6.out.trans (b7.mono HB6.out.size))
    clear b7 HTB HB36 HB6
    go_wp2_with fail
    refine (put_any _ l' _ HTB7.out HAL'.out.ok (by rw [HLN'.out]; omega) (HP.out.on HB7.out)).mono ?_
    rintro e w8 ⟨rfl, b8⟩
    rw [putE_ok HAL'.out]
    have HTB8 := Lib.hid (HTB7.out.below b8)
    have HB38 := Lib.hid (HB37.out.trans (b8.mono HB37.out.size))
    have HB8 := Lib.hid (HB7.out.trans (b8.mono HB7.out.size))
    have HSL := Lib.hid (bl_putS HAL.out)
    have HMORE := Lib.hid (put_more HAL.out HXR.out)
    obtain ⟨s, hs⟩ : ∃ s, putS l = s := ⟨_, rfl⟩
    obtain ⟨s', hs'⟩ : ∃ s, putS l' = s := ⟨_, rfl⟩
    obtain ⟨qb, hqb⟩ : ∃ qb, rowsB l l' = qb := ⟨_, rfl⟩
    have hsq := HSQ.out
    rw [hs, hs', hqb] at hsq
    rw [hs] at HSL HMORE ⊢
    rw [hs']
    clear b8 HTB7 HB37 HB7 HSQ hs hs'
    go_wp2_with fail
    refine (rows_any _ _ l l' _ (HTA.out.on (Keeps.of HB38.out)) HTB8.out).mono ?_
    rw [hqb]
    rintro e w9 ⟨rfl, b9⟩
    have HB39 := Lib.hid (HB38.out.trans (b9.mono HB38.out.size))
    have HB9 := Lib.hid (HB8.out.trans (b9.mono HB8.out.size))
    clear b9 HTB8 HB38 HB8 hqb HAL' HLN'
    go_wp2_with fail
    go_loopw [13, 14, 15, 16] (fun pv i _ _ wr => ∃ (k : Nat) (P : ByteArray), k ≤ n ∧ i = .int .i64 k ∧ pv = .string P ∧ Hid (bl P = putL (l.take k)) ∧ Hid (Below w3.heap.size w3 wr)) (fun _ i _ _ _ => n - (intOf i).toNat)
    case atStart => exact ⟨0, ⟨#[]⟩, Nat.zero_le _, rfl, rfl, Lib.hid rfl, HB39⟩
    case round =>
      obtain ⟨wo, rfl⟩ : ∃ wo : World, wo = wr := ⟨_, rfl⟩
      obtain ⟨k, P, hk, rfl, rfl, HBP, HB⟩ := hrel
      have HBO := Lib.hid (HB3.out.trans (HB.out.mono HB3.out.size))
      by_cases hlt : k < n
      · obtain ⟨a1, cc, he, hmx, hall⟩ := HTA.out
        obtain ⟨g, o, ha, hcell⟩ := hall (by rw [HLN.out]; omega)
        injection he with he1 he2 he3
        rw [← he1] at ha
        obtain ⟨va, vn, vc, ⟨c0, c1, c2, c3, c4, c5, c6⟩, hM⟩ := (hcell k (by rw [HLN.out]; exact hlt)).on (Keeps.of HB.out)
        have HTK := Lib.hid (take_at' l default (k := k) (by rw [HLN.out]; exact hlt))
        have HYR := Lib.hid (HAL.out _ (getD_mem' (l := l) default (k := k) (by rw [HLN.out]; exact hlt)))
        have HPL := Lib.hid (show (putL (l.take k)).length ≤ 30000 by
          have h1 := putL_len (l.take k) (fun t ht => (HAL.out t (List.mem_of_mem_take ht)).1)
          have h2 : (l.take k).length ≤ n := by rw [List.length_take, HLN.out]; omega
          omega)
        obtain ⟨y, hy⟩ : ∃ y, l.getD k default = y := ⟨_, rfl⟩
        rw [hy] at HTK HYR c0 c1 c2 c4 c5 c6 hM
        have HM := Lib.hid hM
        have HCO := Lib.hid (And.intro c0 (And.intro c1 (And.intro c2 (And.intro c3 (And.intro c4 (And.intro c5 c6))))))
        clear hcell hall hmx he2 he3 he1 hy hM
        subst ha
        have HOK := Lib.hid (tokOk_of HYR.out.2 HYR.out.1)
        have HRB := Lib.hid (right_of HYR.out.2 HYR.out.1)
        go_wp2_with fail
        have HC := put_tok wo wo.heap.size rfl y.kind y.rune y.priv y.fin va vn vc y.P y.inter y.data HM.out HOK.out (HP.out.on HBO.out)
        rw [show putS [⟨y.kind, y.rune, y.priv, y.P, y.inter, y.fin, y.data⟩] = tokS y from putS_one HRB.out, show putE [⟨y.kind, y.rune, y.priv, y.P, y.inter, y.fin, y.data⟩] = 0 from putE_one HRB.out] at HC
        refine HC.mono ?_
        rintro e w10 ⟨rfl, b10⟩
        have KB := Keeps.of b10
        have HM10 := Lib.hid (HM.out.on KB)
        have HB10 := Lib.hid (HB.out.trans (b10.mono HB.out.size))
        clear HC c0 c1 c2 c3 c4 c5 c6
        obtain ⟨c0, c1, c2, c3, c4, c5, c6⟩ := HCO.out
        replace c0 := KB _ _ _ c0
        replace c1 := KB _ _ _ c1
        replace c2 := KB _ _ _ c2
        replace c3 := KB _ _ _ c3
        replace c4 := KB _ _ _ c4
        replace c5 := KB _ _ _ c5
        replace c6 := KB _ _ _ c6
        have hrl := right_len HYR.out.1
        obtain ⟨ys, hys⟩ : ∃ ys, tokS y = ys := ⟨_, rfl⟩
        have hbl : bl ys = tokL y := by rw [← hys]; rfl
        have hsz := bytes_of hbl
        have hszP := bytes_of HBP.out
        have hPL := HPL.out
        have hne : ys.toList.isEmpty = false := by
          rw [← Bool.not_eq_true, List.isEmpty_iff, ByteArray.toList_eq]
          intro h
          have h2 : (bl ys).length = 0 := by rw [show bl ys = [] from h]; rfl
          rw [hbl] at h2
          omega
        rw [hys]
        have n1 : ¬ 9223372036854775807 < P.size + ys.size := by omega
        have HBP2 := Lib.hid (show bl (P ++ ys) = putL (l.take (k + 1)) by rw [bl_cat2, HBP.out, hbl, HTK.out, putL_snoc])
        clear hbl hsz hszP hPL hrl hys HPL HCO HM KB b10
        go_wp2_with fail
        refine (right_any y.kind y.rune y.priv y.fin va vn vc y.P y.inter y.data _ HOK.out.2.1 HM10.out HOK.out.2.2.1 HOK.out.2.2.2).mono ?_
        rintro e w11 ⟨rfl, b11⟩
        rw [show rightB ⟨y.kind, y.rune, y.priv, y.P, y.inter, y.fin, y.data⟩ = true from HRB.out]
        have HB11 := Lib.hid (HB10.out.trans (b11.mono HB10.out.size))
        clear b11 c0 c1 c2 c3 c4 c5 c6
        go_wp2
        go_roundw
        case rel => exact ⟨k + 1, _, by omega, by go_num, rfl, HBP2, HB11⟩
        case measure => simp [intOf]; omega
      · obtain rfl : k = n := by omega
        obtain rfl : P = s := bl_inj (by rw [HBP.out, HSL.out, List.take_of_length_le (by rw [HLN.out]; exact Nat.le_refl _)])
        go_upto_region 19 with (fail)
        have BB : Below wo.heap.size wo wo.drew := ⟨rfl, rfl, rfl, Nat.le_refl _, fun _ _ => rfl⟩
        refine wp_region_held_drew (S := fun w' => w'.cell? ⟨w.heap.size, 0, none⟩ = some (.int .u8 K) ∧ w'.cell? ⟨w.heap.size, 1, none⟩ = some (.int .u8 p) ∧ w'.cell? ⟨w.heap.size, 2, none⟩ = some (.int .i32 r) ∧ w'.cell? ⟨w.heap.size, 3, none⟩ = some (pv) ∧ w'.cell? ⟨w.heap.size, 4, none⟩ = some (iv) ∧ w'.cell? ⟨w.heap.size, 5, none⟩ = some (.int .u8 f) ∧ w'.cell? ⟨w.heap.size, 6, none⟩ = some (.string d)) (by kernel_rfl) ?_ (fun hHeld => ?_)
        · exact (HT3.out.below (HB.out)).2.1
        obtain ⟨u0, hu0⟩ : ∃ u0, u0 = wo.drew := ⟨_, rfl⟩
        have BW : Below w3.heap.size w3 u0 := by rw [hu0]; exact HB.out.trans (BB.mono HB.out.size)
        rw [← hu0] at BB hHeld ⊢
        have BB0 := BW
        clear hu0
        refine take_at (i := 1) (v := ?_) rfl (by kernel_rfl) (by kernel_rfl) (by kernel_rfl) (fun _ _ _ h => h) (by kernel_rfl) (by assumption) ?_ ?_
        rotate_left
        · (intro w hSw; (try dsimp only at hSw); go_simp; try with_reducible rfl)
        simp only [Act.put, List.setIfInBounds_toArray, List.set_cons_zero, List.set_cons_succ]
        refine take_at (i := 3) (v := ?_) rfl (by kernel_rfl) (by kernel_rfl) (by kernel_rfl) (fun _ _ _ h => h) (by kernel_rfl) (by assumption) ?_ ?_
        rotate_left
        · (intro w hSw; (try dsimp only at hSw); go_simp; try with_reducible rfl)
        simp only [Act.put, List.setIfInBounds_toArray, List.set_cons_zero, List.set_cons_succ]
        refine do_at (i := 0) rfl (by kernel_rfl) (by kernel_rfl) (fun K hK => ?_)
        go_simp
        obtain ⟨y0, hy0⟩ : ∃ y, y = u0.alloc (.cells #[] 27) := ⟨_, rfl⟩
        have bb : Below u0.heap.size u0 y0 := by rw [hy0]; exact (Below.refl _ _).alloc (Nat.le_refl _) _
        have h00 : y0.ownsRow u0.heap.size 27 7 (.slice (some ⟨u0.heap.size, 0, none⟩) 0 0) 0 [] := by rw [hy0]; exact World.ownsRow_made u0 #[] 0 (Nat.le_refl _) (by simp [maxLen]) rfl
        rw [← hy0]
        clear hy0
        replace BW := BW.trans (bb.mono BW.size)
        have BU := bb
        clear bb hHeld
        refine hK.out _ _ ?_ (fun hHeld => ?_)
        · exact (HT3.out.below BW).2.1
        clear hK K
        try simp only [Act.put, List.setIfInBounds_toArray, List.set_cons_zero, List.set_cons_succ]
        refine do_at (i := 2) rfl (by kernel_rfl) (by kernel_rfl) (fun K hK => ?_)
        refine wp_append_row (.tmp 96) (.tmp 97) 22 rfl u0.heap.size 27 ib (.agg #[.int .i64 0, .int .i32 0, .int .u8 0, .slice none 0 0, .string ⟨#[]⟩, .int .u8 0, .string ⟨#[]⟩]) 7 80 Tryd.underlying22 hi hz0 hz1 hz2 rfl (by decide) _ 0 [] rfl h00 w2.heap.size k (.slice aa k ca) (flat7 L) rfl (row_below HO3.out (BW)) H1C.out (by unfold maxLen; omega) (by omega) BU.size ?_
        intro v1 y1 own1 grow1
        have ho1 : y1.ownsRow u0.heap.size 27 7 v1 k (flat7 L) := by simpa using own1
        replace BU := BU.grown grow1 BU.size (fun j hj => (h00.lt j hj).1)
        replace BW := BB0.trans (BU.mono BB0.size)
        clear own1 grow1 h00 hHeld
        refine hK.out _ _ ?_ (fun hHeld => ?_)
        · exact (HT3.out.below BW).2.1
        clear hK K
        try simp only [Act.put, List.setIfInBounds_toArray, List.set_cons_zero, List.set_cons_succ]
        refine do_at (i := 4) rfl (by kernel_rfl) (by kernel_rfl) (fun K hK => ?_)
        go_simp
        refine (C1.out _ BW).mono ?_
        rintro e y2 ⟨va, vn, vc, S9, rfl, md, M9, bb⟩
        go_wp2_with fail
        have hv1 : ∀ g, v1.ownBlock = some g → g < y1.heap.size := fun g hg => (ho1.lt g hg).2
        have ho2 := row_below ho1 bb
        replace BU := BU.trans (bb.mono BU.size)
        replace BW := BB0.trans (BU.mono BB0.size)
        clear bb hHeld ho1
        refine hK.out _ _ ?_ (fun hHeld => ?_)
        · exact (HT3.out.below BW).2.1
        clear hK K
        try simp only [Act.put, List.setIfInBounds_toArray, List.set_cons_zero, List.set_cons_succ]
        refine do_at (i := 5) rfl (by kernel_rfl) (by kernel_rfl) (fun K hK => ?_)
        go_simp
        obtain ⟨y3, hy3⟩ : ∃ y, y = y2.alloc (.cells #[.int .i64 x.kind, .int .i32 x.rune, .int .u8 x.priv, .slice va vn vc, .string x.inter, .int .u8 x.fin, .string x.data] 27) := ⟨_, rfl⟩
        have bb : Below y2.heap.size y2 y3 := by rw [hy3]; exact (Below.refl _ _).alloc (Nat.le_refl _) _
        have HNC := Lib.hid (show ∀ j u, (cells7 x (.slice va vn vc))[j]? = some u → y3.cell? ((⟨y2.heap.size, 0, none⟩ : Addr).add j) = some u by
          rw [hy3]
          exact new_cells y2 (cells7 x (.slice va vn vc)) 27 _ (by simp))
        rw [← hy3]
        clear hy3
        have hs23 := bb.size
        have M10 := M9.below bb (fun g hg => (md g hg).2)
        have ho3' := row_below ho2 bb
        replace BU := BU.trans (bb.mono BU.size)
        replace BW := BB0.trans (BU.mono BB0.size)
        clear bb hHeld ho2 M9
        refine hK.out _ _ ?_ (fun hHeld => ?_)
        · exact (HT3.out.below BW).2.1
        clear hK K
        try simp only [Act.put, List.setIfInBounds_toArray, List.set_cons_zero, List.set_cons_succ]
        refine do_at (i := 6) rfl (by kernel_rfl) (by kernel_rfl) (fun K hK => ?_)
        refine wp_append_own _ (.tmp 98) (.tmp 101) 22 rfl u0.heap.size 27 ib (.agg #[.int .i64 0, .int .i32 0, .int .u8 0, .slice none 0 0, .string ⟨#[]⟩, .int .u8 0, .string ⟨#[]⟩]) 7 80 Tryd.underlying22 hi hz0 hz1 hz2 rfl (by decide) v1 k (flat7 L) rfl ho3' ⟨y2.heap.size, 0, none⟩ 1 1 (cells7 x (.slice va vn vc)) rfl rfl HNC.out (by simp [cells7, Value.oneCell']) (by unfold maxLen; omega) (by omega) BU.size ?_
        intro v2 y4 own4 grow4 _
        have b34 := BU.grown grow4 BU.size (fun j hj => (ho3'.lt j hj).1)
        have HTM := Lib.hid (show ToksAt y4 v2 (l ++ [x]) by
          have h := toks_of (L := L ++ [(x, .slice va vn vc)]) (by rw [flat7_snoc, List.length_append, HLLN.out]; exact own4) (fun p hp => by
            rcases List.mem_append.1 hp with hp | hp
            · exact ((HTR.out.2 p hp).mat).on (Keeps.of (BB0.trans (b34.mono BB0.size)))
            · rw [List.mem_singleton.1 hp]
              exact (M10.keep (fun g hg => grow4.block g (by have := md g hg; omega) (fun e => by have := hv1 g e.symm; have := md g hg; omega))).mat)
          rw [List.map_append, HMAP.out] at h
          exact h)
        replace BU := b34
        replace BW := BB0.trans (BU.mono BB0.size)
        clear own4 grow4 b34 hHeld ho3' HNC M10
        refine hK.out _ _ ?_ (fun hHeld => ?_)
        · exact (HT3.out.below BW).2.1
        clear hK K
        try simp only [Act.put, List.setIfInBounds_toArray, List.set_cons_zero, List.set_cons_succ]
        refine do_at (i := 7) rfl (by kernel_rfl) (by kernel_rfl) (fun K hK => ?_)
        go_simp
        refine (put_any _ (l ++ [x]) _ HTM.out (HAL.out.snoc HXR.out).ok (by rw [List.length_append, HLN.out]; simp; omega) (HP.out.on (HB3.out.trans (BW.mono HB3.out.size)))).mono ?_
        rintro e y5 ⟨rfl, bb⟩
        rw [putE_ok (HAL.out.snoc HXR.out)]
        replace BW := BW.trans (bb.mono BW.size)
        clear bb hHeld
        go_wp2_with fail
        refine hK.out _ _ ?_ (fun hHeld => ?_)
        · exact (HT3.out.below BW).2.1
        clear hK K
        try simp only [Act.put, List.setIfInBounds_toArray, List.set_cons_zero, List.set_cons_succ]
        refine take_at (i := 8) (v := ?_) rfl (by kernel_rfl) (by kernel_rfl) (by kernel_rfl) (fun _ _ _ h => h) (by kernel_rfl) (by assumption) ?_ ?_
        rotate_left
        · (intro w hSw; (try dsimp only at hSw); go_simp; try with_reducible rfl)
        simp only [Act.put, List.setIfInBounds_toArray, List.set_cons_zero, List.set_cons_succ]
        refine take_at (i := 9) (v := ?_) rfl (by kernel_rfl) (by kernel_rfl) (by kernel_rfl) (fun _ _ _ h => h) (by kernel_rfl) (by assumption) ?_ ?_
        rotate_left
        · (intro w hSw; (try dsimp only at hSw); go_simp; try with_reducible rfl)
        simp only [Act.put, List.setIfInBounds_toArray, List.set_cons_zero, List.set_cons_succ]
        refine take_at (i := 10) (v := ?_) rfl (by kernel_rfl) (by kernel_rfl) (by kernel_rfl) (fun _ _ _ h => h) (by kernel_rfl) (by assumption) ?_ ?_
        rotate_left
        · (intro w hSw; (try dsimp only at hSw); go_simp; try with_reducible rfl)
        simp only [Act.put, List.setIfInBounds_toArray, List.set_cons_zero, List.set_cons_succ]
        refine take_at (i := 11) (v := ?_) rfl (by kernel_rfl) (by kernel_rfl) (by kernel_rfl) (fun _ _ _ h => h) (by kernel_rfl) (by assumption) ?_ ?_
        rotate_left
        · (intro w hSw; (try dsimp only at hSw); go_simp; try with_reducible rfl)
        simp only [Act.put, List.setIfInBounds_toArray, List.set_cons_zero, List.set_cons_succ]
        refine take_at (i := 12) (v := ?_) rfl (by kernel_rfl) (by kernel_rfl) (by kernel_rfl) (fun _ _ _ h => h) (by kernel_rfl) (by assumption) ?_ ?_
        rotate_left
        · (intro w hSw; (try dsimp only at hSw); go_simp; try with_reducible rfl)
        simp only [Act.put, List.setIfInBounds_toArray, List.set_cons_zero, List.set_cons_succ]
        refine wpAnyH_done (by kernel_rfl) ?_ _
        have HBF := Lib.hid (HB3.out.trans (BW.mono HB3.out.size))
        clear BB BB0 BW BU hHeld HTM
        obtain ⟨m, hm⟩ : ∃ m, putS (l ++ [x]) = m := ⟨_, rfl⟩
        have hmore := HMORE.out
        rw [hm] at hmore ⊢
        have HPF := Lib.hid (show Lib.hasPrefix m.data.toList P.data.toList = true by
          have h : m.data.toList = P.data.toList ++ tokL x := hmore.1
          rw [h, Lib.hasPrefix, List.isPrefixOf_iff_prefix]
          exact List.prefix_append _ _)
        have e1 : (m.toList == P.toList) = false := by
          rw [← Bool.not_eq_true, beq_iff_eq, ByteArray.toList_eq, ByteArray.toList_eq]
          intro h
          have h2 : (bl m).length = (bl P).length := by rw [show bl m = bl P from h]
          rw [hmore.1, List.length_append] at h2
          omega
        have e2 : (m.toList != P.toList) = true := by rw [bne, e1]; rfl
        clear hmore hm
        go_wp2_with fail
        refine (Tryd.strings_HasPrefix m P _).mono ?_
        rintro e yz ⟨rfl, rfl⟩
        rw [HPF.out]
        go_wp2
        go_ret
        exact ⟨rfl, HBF.out⟩
end Go.Proofs.YtclaopidjfekmaaDoor.Lab
