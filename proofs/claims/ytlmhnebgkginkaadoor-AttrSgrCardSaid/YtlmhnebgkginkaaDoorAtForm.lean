/- Format; what parameters, as bytes, make of the attribute without anything; colours by their calls. -/
import Derived.Test.YtlmhnebgkginkaaDoorAtPar
import Derived.Test.YtlmhnebgkginkaaDoorAtSgr
import Derived.Test.YtlmhnebgkginkaaDoorAtBackM
import Derived.Lib.ItoaMem
namespace Go.Proofs.YtlmhnebgkginkaaDoor.Lab
open Go Go.RowKit

theorem IntsAt.nums {w : World} {lo : Nat} {v : Value} {r : List Int} (h : IntsAt w lo v r) : NumsAt w (fun _ => True) v r := by
  obtain ⟨g, c, cur, rfl, _, hg, hc, _, k1, _⟩ := h.open
  have hm : r.length ≤ maxLen := by
    rcases h.1.2 with ⟨h, _⟩ | ⟨_, cap, _, e, _, _, h1, h2, _⟩
    · simp at h
    · simp at e
      omega
  exact ⟨_, c, rfl, hc, hm, fun _ => ⟨g, 0, rfl, trivial, hg, fun j hj => by rw [Nat.zero_add]; exact k1 j hj⟩⟩
theorem RowsAt.mat {w : World} {lo : Nat} {v : Value} {R : Rws} (h : RowsAt w lo v R) : MatAt w (fun _ => True) v R := by
  obtain ⟨us, h0, _⟩ := id h
  rcases h.open with ⟨rfl, e⟩ | ⟨g, c, rfl, _, hg, hc, _, k1⟩
  · subst e
    exact MatAt.nil _ _ _ _
  · have hm : R.length ≤ maxLen := by
      rcases h0.2 with ⟨h, _⟩ | ⟨_, cap, _, e, _, _, h1, h2, _⟩
      · simp at h
      · simp at e
        omega
    refine ⟨_, c, rfl, hc, hm, fun _ => ⟨g, 0, rfl, trivial, hg, fun j hj => ?_⟩⟩
    obtain ⟨u, hu, I⟩ := k1 j hj
    exact ⟨u, by rw [Nat.zero_add]; exact hu, I.nums⟩
theorem okRow.i64 {r : List Int} (h : okRow r) : ∀ x ∈ r, -9223372036854775808 ≤ x ∧ x ≤ 9223372036854775807 := fun x hx => by
  have := h.2.2 x hx
  omega
theorem flagK_bd (f k : Nat) : ∀ x ∈ flagK f k, 0 ≤ x ∧ x ≤ 255 := by
  intro x hx
  unfold flagK at hx
  obtain ⟨p, hp, rfl⟩ := List.mem_map.1 hx
  have hp2 := List.mem_of_mem_take (List.mem_filter.1 hp).1
  have key : ∀ p ∈ bitN, 0 ≤ p.2 ∧ p.2 ≤ 255 := by decide
  exact key p hp2
theorem tellM_bd {c : Cl} (hc : c.ok) {more : Int} (h0 : 0 ≤ more) (h1 : more ≤ 100) : ∀ x ∈ tellM c more, 0 ≤ x ∧ x ≤ 255 := by
  obtain ⟨⟨hk0, hk1⟩, ⟨hr0, hr1⟩, ⟨hg0, hg1⟩, ⟨hb0, hb1⟩⟩ := hc
  intro x hx
  unfold tellM at hx
  split at hx
  · simp at hx
    omega
  · split at hx
    · split at hx
      · simp at hx
        omega
      · split at hx
        · simp at hx
          omega
        · simp at hx
          omega
    · simp at hx
theorem numsM_bd {a : At} (ha : a.ok) : ∀ x ∈ numsM a, 0 ≤ x ∧ x ≤ 255 := by
  intro x hx
  unfold numsM at hx
  rcases List.mem_cons.1 hx with rfl | hx
  · decide
  rcases List.mem_append.1 hx with hx | hx
  · rcases List.mem_append.1 hx with hx | hx
    · exact flagK_bd _ _ x hx
    · exact tellM_bd ha.1 (by decide) (by decide) x hx
  · exact tellM_bd ha.2.1 (by decide) (by decide) x hx
theorem numsM_len (a : At) : (numsM a).length ≤ 20 := by
  unfold numsM
  have h1 := flagK_len a.fl 9
  have h2 := tellM_len a.fg 0
  have h3 := tellM_len a.bg 10
  simp only [List.length_cons, List.length_append]
  omega
theorem paramsM_ok {a : At} (ha : a.ok) : (paramsM a).length ≤ 32 ∧ ∀ r ∈ paramsM a, okRow r := by
  refine ⟨by have := numsM_len a; unfold paramsM; rw [List.length_map]; omega, fun r hr => ?_⟩
  obtain ⟨x, hx, rfl⟩ := List.mem_map.1 hr
  have := numsM_bd ha x hx
  refine ⟨by simp, by simp, fun y hy => ?_⟩
  simp at hy
  omega
theorem okRows_of {R : Rws} (h : R.length ≤ 32 ∧ ∀ r ∈ R, okRow r) : okRows R := ⟨h.1, fun r hr => ⟨(h.2 r hr).2.1, (h.2 r hr).2.2⟩⟩
theorem RowsI.of {R : Rws} (h : ∀ r ∈ R, okRow r) : RowsI R := fun r hr => (h r hr).i64
set_option maxHeartbeats 1000000 in
theorem format_any (w : World) (a : At) (ha : a.ok) (hP : Pow w) : Calls Tryd.prog 21 #[attV a] w fun e w' => e = .returned (.string ⟨(allT (paramsM a)).toArray⟩) ∧ Below w.heap.size w w' := by
  obtain ⟨w0, hw0⟩ : ∃ w0, w0 = w.alloc (.cells #[.int .u8 a.fg.k, .int .u8 a.fg.r, .int .u8 a.fg.g, .int .u8 a.fg.b, .int .u8 a.bg.k, .int .u8 a.bg.r, .int .u8 a.bg.g, .int .u8 a.bg.b, .int .u16 (a.fl : Nat)] 26) := ⟨_, rfl⟩
  have b0 : Below w.heap.size w w0 := by rw [hw0]; exact (Below.refl _ _).alloc (Nat.le_refl _) _
  have HA := Lib.hid (show AtAt w0 w.heap.size a by rw [hw0]; exact AtAt.newAt w _ rfl a _)
  have HB := Lib.hid b0
  have HP := Lib.hid (hP.on b0)
  have HOK := Lib.hid ha
  clear b0 hP ha
  obtain ⟨y0, ⟨y1, y2, y3, y4, y5, y6, y7, y8, y9⟩, yf⟩ := HA.out
  go_enter Tryd.func21, Tryd.ntmps21
  go_wp2_with fail
  rw [← hw0]
  clear hw0
  refine (params_any w0 a HOK.out).mono ?_
  rintro e w1 ⟨v, rfl, R1, b1⟩
  have HR := Lib.hid R1
  have HB1 := Lib.hid (HB.out.trans (b1.mono HB.out.size))
  have HP1 := Lib.hid (HP.out.on b1)
  clear y0 y1 y2 y3 y4 y5 y6 y7 y8 y9 yf R1 b1
  go_wp2_with fail
  refine (write_any w1 _ v (paramsM a) HR.out (okRows_of (paramsM_ok HOK.out)) HP1.out).mono ?_
  rintro e w2 ⟨rfl, b2⟩
  have HB2 := Lib.hid (HB1.out.trans (b2.mono HB1.out.size))
  clear b2
  go_wp2
  go_ret
  exact ⟨rfl, HB2.out⟩
set_option maxHeartbeats 1000000 in
theorem sgr_text (s : ByteArray) (hs : s.size ≤ maxLen) (hg : AllGood s) (w : World) : Calls Tryd.prog 27 #[.string s] w fun e w' => e = .returned (attV (sgrM At.zero (parsed s.data.toList))) ∧ Below w.heap.size w w' := by
  have HPB := Lib.hid (parsed_back s.data.toList ((AllGood.iff s).1 hg))
  obtain ⟨w0, hw0⟩ : ∃ w0, w0 = w.alloc (.cells #[.int .u8 0, .int .u8 0, .int .u8 0, .int .u8 0, .int .u8 0, .int .u8 0, .int .u8 0, .int .u8 0, .int .u16 0] 26) := ⟨_, rfl⟩
  have b0 : Below w.heap.size w w0 := by rw [hw0]; exact (Below.refl _ _).alloc (Nat.le_refl _) _
  have HZ := Lib.hid (show AtAt w0 w.heap.size At.zero by rw [hw0]; exact AtAt.newAt w _ rfl At.zero _)
  have HB := Lib.hid b0
  have C := Lib.hid (parse_ok s hs hg w0)
  obtain ⟨R, hR⟩ : ∃ R, R = parsed s.data.toList := ⟨_, rfl⟩
  rw [← hR] at C HPB ⊢
  clear b0 hg hR
  go_enter Tryd.func27, Tryd.ntmps27
  go_wp2_with fail
  rw [← hw0]
  clear hw0
  refine C.out.mono ?_
  rintro e w1 ⟨v, rfl, R1, b1⟩
  have HM := Lib.hid R1.mat
  have HZ1 := Lib.hid (HZ.out.below b1)
  have HB1 := Lib.hid (HB.out.trans (b1.mono HB.out.size))
  clear R1 b1 C HZ HB
  go_wp2_with fail
  refine (sgr_any w1 _ v R At.zero At.zero_ok (RowsI.of HPB.out.2.1) HM.out).mono ?_
  rintro e w2 ⟨rfl, b2⟩
  obtain ⟨q, hq⟩ : ∃ q, q = sgrM At.zero R := ⟨_, rfl⟩
  have HQ := Lib.hid hq
  rw [← hq]
  clear hq
  have HZ2 := Lib.hid (HZ1.out.below b2)
  have HB2 := Lib.hid (HB1.out.trans (b2.mono HB1.out.size))
  have Z := Lib.hid (HZ2.out.putA q)
  have HB3 := Lib.hid (HB2.out.trans ((putA_but w2 w.heap.size q).below (C := w.heap.size) (Nat.le_refl _) HB2.out.size))
  obtain ⟨y0, ⟨y1, y2, y3, y4, y5, y6, y7, y8, y9⟩, yf⟩ := HZ2.out
  dsimp only at y1 y2 y3 y4 y5 y6 y7 y8 y9
  clear b2 HM
  go_wp2
  have ZZ := Z.out
  have HB4 := HB3.out
  simp only [putA, putC, Nat.zero_add, Nat.reduceAdd] at ZZ HB4
  obtain ⟨c0, ⟨k1, k2, k3, k4, k5, k6, k7, k8, k9⟩, kf⟩ := ZZ
  exact bodyPost_ret (v := attV q) (by simp [results, Tryd.results27, go_sem, k1, k2, k3, k4, k5, k6, k7, k8, k9]) rfl ⟨by rw [← HQ.out], HB4⟩
set_option maxHeartbeats 1000000 in
theorem index_any (n : Int) (w : World) : Calls Tryd.prog 25 #[.int .u8 n] w fun e w' => e = .returned (colV ⟨1, n, 0, 0⟩) ∧ Below w.heap.size w w' := by
  have HB := Lib.hid (show Below w.heap.size w (w.alloc (.cells #[.int .u8 1, .int .u8 n, .int .u8 0, .int .u8 0] 23)) from (Below.refl _ _).alloc (Nat.le_refl _) _)
  go_enter Tryd.func25, Tryd.ntmps25
  go_wp2
  exact bodyPost_ret (v := colV ⟨1, n, 0, 0⟩) (by simp [results, Tryd.results25, go_sem]) rfl ⟨rfl, HB.out⟩
set_option maxHeartbeats 1000000 in
theorem rgb_any (r g b : Int) (w : World) : Calls Tryd.prog 26 #[.int .u8 r, .int .u8 g, .int .u8 b] w fun e w' => e = .returned (colV ⟨2, r, g, b⟩) ∧ Below w.heap.size w w' := by
  have HB := Lib.hid (show Below w.heap.size w (w.alloc (.cells #[.int .u8 2, .int .u8 r, .int .u8 g, .int .u8 b] 23)) from (Below.refl _ _).alloc (Nat.le_refl _) _)
  go_enter Tryd.func26, Tryd.ntmps26
  go_wp2
  exact bodyPost_ret (v := colV ⟨2, r, g, b⟩) (by simp [results, Tryd.results26, go_sem]) rfl ⟨rfl, HB.out⟩
theorem good_of {l : List UInt8} (h : l.all (fun c => decide (good c)) = true) : AllGood ⟨l.toArray⟩ := by
  intro k hk
  have := List.all_eq_true.1 h
  refine of_decide_eq_true (this _ ?_)
  show l.toArray[k] ∈ l
  simp
/-- The same of a text and an attribute that are written out. -/
theorem sgr_lit (l : List UInt8) (A : At) (hl : l.length ≤ 100) (hg : l.all (fun c => decide (good c)) = true) (hA : sgrM At.zero (parsed l) = A) (w : World) : Calls Tryd.prog 27 #[.string ⟨l.toArray⟩] w fun e w' => e = .returned (attV A) ∧ Below w.heap.size w w' := by
  have := sgr_text ⟨l.toArray⟩ (by show l.toArray.size ≤ maxLen; simp [maxLen]; omega) (good_of hg) w
  simp only [] at this
  rw [hA] at this
  exact this
theorem format_lit (a : At) (l : List UInt8) (ha : a.ok) (hl : allT (paramsM a) = l) (w : World) (hP : Pow w) : Calls Tryd.prog 21 #[attV a] w fun e w' => e = .returned (.string ⟨l.toArray⟩) ∧ Below w.heap.size w w' := by
  have := format_any w a ha hP
  rw [hl] at this
  exact this
theorem itoa_1 (d : Nat) (h : d < 10) : Lib.itoa (d : Int) = [UInt8.ofNat (48 + d)] := by
  rw [Lib.itoa_nonneg, Lib.decDigits_one h]
end Go.Proofs.YtlmhnebgkginkaaDoor.Lab
