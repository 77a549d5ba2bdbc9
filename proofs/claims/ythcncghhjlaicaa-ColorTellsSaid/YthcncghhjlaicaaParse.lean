/- What color.Parse answers to any text. -/
import Derived.Test.YthcncghhjlaicaaRgb
namespace Go.Proofs.Ythcncghhjlaicaa.Lab
open Go.RowKit

theorem forms1_any (d : Int) (w : World) : Calls Try.prog 31 #[.int .i64 d] w fun e w' => e = .returned (.func (.func 32) #[] #[.pointer (some ⟨w.heap.size, 0, none⟩)]) ∧ w' = w.alloc (.cells #[.int .i64 d] 3) := by
  go_enter Try.func31, Try.ntmps31
  go_wp2
  go_ret
  exact ⟨rfl, rfl⟩

abbrev fRgb : Value := .func (.func 35) #[] #[]
abbrev fHash (b : Nat) : Value := .func (.func 32) #[] #[.pointer (some ⟨b, 0, none⟩)]

theorem forms_any (w : World) : Calls Try.prog 26 #[] w fun e w' => e = .returned (.slice (some ⟨w.heap.size + 1 + 1, 0, none⟩) 3 3) ∧ w' = ((w.alloc (.cells #[.int .i64 1] 3)).alloc (.cells #[.int .i64 2] 3)).alloc (.cells #[fRgb, fHash w.heap.size, fHash (w.heap.size + 1)] 52) := by
  go_enter Try.func26, Try.ntmps26
  go_wp2_with (go_at_call 31; refine (forms1_any _ _).mono ?_; rintro e w' ⟨rfl, rfl⟩)
  go_ret
  exact ⟨rfl, rfl⟩

def parseB (l : List UInt8) : Bool := rgbB l || (hashB 1 l || hashB 2 l)
def parseV (l : List UInt8) : Nat × Nat × Nat := if rgbB l = true then rgbV l else if hashB 1 l = true then hashV 1 l else hashV 2 l

/-- What color.Parse has laid, at a world on its way. -/
def PI (w0 w : World) (n : Nat) : Prop :=
  V3 w n 0 0 0 ∧ (w.cell? ⟨n + 1 + 1 + 1, 0, none⟩ = some fRgb ∧ w.cell? ⟨n + 1 + 1 + 1, 1, none⟩ = some (fHash (n + 1)) ∧ w.cell? ⟨n + 1 + 1 + 1, 2, none⟩ = some (fHash (n + 1 + 1))) ∧
  (w.cell? ⟨n + 1, 0, none⟩ = some (.int .i64 1) ∧ w.cell? ⟨n + 1 + 1, 0, none⟩ = some (.int .i64 2)) ∧ n + 1 + 1 + 1 < w.heap.size ∧ Below w0.heap.size w0 w ∧ w0.heap.size ≤ n

theorem PI.below {w0 w w' : World} {n : Nat} (h : PI w0 w n) (hb : Below w.heap.size w w') : PI w0 w' n := by
  obtain ⟨v, ⟨c0, c1, c2⟩, ⟨d1, d2⟩, hs, b, hn⟩ := h
  exact ⟨v.below hb, ⟨(hb.cell (p := ⟨n + 1 + 1 + 1, 0, none⟩) hs).trans c0, (hb.cell (p := ⟨n + 1 + 1 + 1, 1, none⟩) hs).trans c1, (hb.cell (p := ⟨n + 1 + 1 + 1, 2, none⟩) hs).trans c2⟩, ⟨(hb.cell (p := ⟨n + 1, 0, none⟩) (Nat.lt_of_le_of_lt (by simp) hs)).trans d1, (hb.cell (p := ⟨n + 1 + 1, 0, none⟩) (Nat.lt_of_le_of_lt (by simp) hs)).trans d2⟩, Nat.lt_of_lt_of_le hs hb.size, bstep b hb, hn⟩
theorem PI.past {w0 w : World} {n : Nat} (h : PI w0 w n) (o : Obj) : PI w0 (w.alloc o) n := h.below ((Below.refl _ _).alloc (Nat.le_refl _) o)

theorem PI.start (w : World) (T1 T2 T3 : TypeId) : PI w ((((w.alloc (.cells #[.int .u16 0, .int .u16 0, .int .u16 0] T1)).alloc (.cells #[.int .i64 1] T2)).alloc (.cells #[.int .i64 2] T2)).alloc (.cells #[fRgb, fHash (w.heap.size + 1), fHash (w.heap.size + 1 + 1)] T3)) w.heap.size := by
  refine ⟨(((V3.newAt w _ rfl 0 0 0 T1).past _).past _).past _, ⟨?_, ?_, ?_⟩, ⟨?_, ?_⟩, by simp, ((((Below.refl _ _).alloc (Nat.le_refl _) _).alloc (by simp) _).alloc (by simp; omega) _).alloc (by simp; omega) _, Nat.le_refl _⟩
  · rw [World.cell?_alloc_at _ _ _ _ (by simp)]; rfl
  · rw [World.cell?_alloc_at _ _ _ _ (by simp)]; rfl
  · rw [World.cell?_alloc_at _ _ _ _ (by simp)]; rfl
  · rw [World.cell?_alloc_past _ _ _ (by simp), World.cell?_alloc_past _ _ _ (by simp), World.cell?_alloc_at _ _ _ _ (by simp)]; rfl
  · rw [World.cell?_alloc_past _ _ _ (by simp), World.cell?_alloc_at _ _ _ _ (by simp)]; rfl

theorem form_of {v v' : Nat × Nat × Nat} {b b' : Bool} {w : World} (hv : v = v') (hb : b = b') {F : Nat} {args : Array Value} (h : Calls Try.prog F args w (FormPost v b w)) : Calls Try.prog F args w (FormPost v' b' w) := by
  subst hv
  subst hb
  exact h

theorem parse_end {l : List UInt8} {v : Nat × Nat × Nat} {b : Bool} (hv : parseV l = v) (hb : parseB l = b) {e : Ending} {w w' : World} (he : e = .returned (.tuple #[valT v, .bool b])) (h : Below w.heap.size w w') : FormPost (parseV l) (parseB l) w e w' := ⟨by rw [he, hv, hb], h⟩

set_option maxHeartbeats 4000000 in
theorem parse_any (s : ByteArray) (hs : s.size ≤ maxLen) (w : World) :
    Calls Try.prog 18 #[.string s] w (FormPost (parseV s.data.toList) (parseB s.data.toList) w) := by
  cases h1 : rgbB s.data.toList
  · cases h2 : hashB 1 s.data.toList
    · cases h3 : hashB 2 s.data.toList
      · have H1 := Lib.hid h1
        have H2 := Lib.hid h2
        have H3 := Lib.hid h3
        clear h1 h2 h3
        go_enter Try.func18, Try.ntmps18
        go_wp2_with fail
        refine (forms_any _).mono ?_
        rintro e w' ⟨rfl, rfl⟩
        have P0 := Lib.hid (PI.start w 35 3 52)
        go_wp2
        refine wp_loop_rounds 4 ?_
        rw [rounds_succ]
        go_wp2_with fail
        refine (form_of rfl H1.out (rgb_any s hs _)).mono ?_
        rintro e w5 ⟨rfl, hb5⟩
        have P1 := Lib.hid (P0.out.below hb5)
        clear hb5
        obtain ⟨⟨z0, ⟨c1, c2, c3⟩, c4⟩, ⟨c5, c6, c7⟩, ⟨c8, c9⟩, z1, -⟩ := P1.out
        have c40 := c4 0
        have c41 := c4 1
        have c42 := c4 2
        go_wp2
        rw [rounds_succ]
        go_wp2_with fail
        refine (form_of rfl H2.out (hash_any 1 (.inl rfl) s hs _ _ (by have := P1.out.2.2.2.1; simp; omega) (P1.out.past _).2.2.1.1)).mono ?_
        rintro e w6 ⟨rfl, hb6⟩
        have P2 := Lib.hid ((P1.out.past _).below hb6)
        clear hb6
        clear z0 c1 c2 c3 c4 c5 c6 c7 c8 c9 z1 c40 c41 c42
        obtain ⟨⟨z0, ⟨c1, c2, c3⟩, c4⟩, ⟨c5, c6, c7⟩, ⟨c8, c9⟩, z1, -⟩ := P2.out
        have c40 := c4 0
        have c41 := c4 1
        have c42 := c4 2
        go_wp2
        rw [rounds_succ]
        go_wp2_with fail
        refine (form_of rfl H3.out (hash_any 2 (.inr rfl) s hs _ _ (by have := P2.out.2.2.2.1; simp; omega) (P2.out.past _).2.2.1.2)).mono ?_
        rintro e w7 ⟨rfl, hb7⟩
        have P3 := Lib.hid ((P2.out.past _).below hb7)
        clear hb7
        clear z0 c1 c2 c3 c4 c5 c6 c7 c8 c9 z1 c40 c41 c42
        obtain ⟨⟨z0, ⟨c1, c2, c3⟩, c4⟩, ⟨c5, c6, c7⟩, ⟨c8, c9⟩, z1, -⟩ := P3.out
        have c40 := c4 0
        have c41 := c4 1
        have c42 := c4 2
        go_wp2
        rw [rounds_succ]
        go_wp2
        refine bodyPost_ret (v := .tuple #[valT (0, 0, 0), .bool false]) (by simp [results, Try.results18, go_sem, c1, c2, c3, z0]) rfl (parse_end (by unfold parseV hashV; rw [H1.out, H2.out, H3.out]; rfl) (by unfold parseB; rw [H1.out, H2.out, H3.out]; rfl) rfl ?_)
        have hw := P3.out.2.2.2.2
        exact (((hw.1.setCell (by simp) _).setCell (by simp) _).setCell (by simp) _).alloc (by simpa using hw.1.size) _
      · have H1 := Lib.hid h1
        have H2 := Lib.hid h2
        have H3 := Lib.hid h3
        clear h1 h2 h3
        go_enter Try.func18, Try.ntmps18
        go_wp2_with fail
        refine (forms_any _).mono ?_
        rintro e w' ⟨rfl, rfl⟩
        have P0 := Lib.hid (PI.start w 35 3 52)
        go_wp2
        refine wp_loop_rounds 4 ?_
        rw [rounds_succ]
        go_wp2_with fail
        refine (form_of rfl H1.out (rgb_any s hs _)).mono ?_
        rintro e w5 ⟨rfl, hb5⟩
        have P1 := Lib.hid (P0.out.below hb5)
        clear hb5
        obtain ⟨⟨z0, ⟨c1, c2, c3⟩, c4⟩, ⟨c5, c6, c7⟩, ⟨c8, c9⟩, z1, -⟩ := P1.out
        have c40 := c4 0
        have c41 := c4 1
        have c42 := c4 2
        go_wp2
        rw [rounds_succ]
        go_wp2_with fail
        refine (form_of rfl H2.out (hash_any 1 (.inl rfl) s hs _ _ (by have := P1.out.2.2.2.1; simp; omega) (P1.out.past _).2.2.1.1)).mono ?_
        rintro e w6 ⟨rfl, hb6⟩
        have P2 := Lib.hid ((P1.out.past _).below hb6)
        clear hb6
        clear z0 c1 c2 c3 c4 c5 c6 c7 c8 c9 z1 c40 c41 c42
        obtain ⟨⟨z0, ⟨c1, c2, c3⟩, c4⟩, ⟨c5, c6, c7⟩, ⟨c8, c9⟩, z1, -⟩ := P2.out
        have c40 := c4 0
        have c41 := c4 1
        have c42 := c4 2
        go_wp2
        rw [rounds_succ]
        go_wp2_with fail
        refine (form_of rfl H3.out (hash_any 2 (.inr rfl) s hs _ _ (by have := P2.out.2.2.2.1; simp; omega) (P2.out.past _).2.2.1.2)).mono ?_
        rintro e w7 ⟨rfl, hb7⟩
        have P3 := Lib.hid ((P2.out.past _).below hb7)
        clear hb7
        clear z0 c1 c2 c3 c4 c5 c6 c7 c8 c9 z1 c40 c41 c42
        obtain ⟨⟨z0, ⟨c1, c2, c3⟩, c4⟩, ⟨c5, c6, c7⟩, ⟨c8, c9⟩, z1, -⟩ := P3.out
        have c40 := c4 0
        have c41 := c4 1
        have c42 := c4 2
        go_wp2
        refine bodyPost_ret (v := .tuple #[valT (hashV 2 s.data.toList), .bool true]) (by simp [results, Try.results18, go_sem, c1, c2, c3, z0]) rfl (parse_end (by unfold parseV; rw [H1.out, H2.out]; rfl) (by unfold parseB; rw [H3.out]; simp) rfl ?_)
        have hw := P3.out.2.2.2.2
        exact (((hw.1.setCell (by simp) _).setCell (by simp) _).setCell (by simp) _).alloc (by simpa using hw.1.size) _
    · have H1 := Lib.hid h1
      have H2 := Lib.hid h2
      clear h1 h2
      go_enter Try.func18, Try.ntmps18
      go_wp2_with fail
      refine (forms_any _).mono ?_
      rintro e w' ⟨rfl, rfl⟩
      have P0 := Lib.hid (PI.start w 35 3 52)
      go_wp2
      refine wp_loop_rounds 4 ?_
      rw [rounds_succ]
      go_wp2_with fail
      refine (form_of rfl H1.out (rgb_any s hs _)).mono ?_
      rintro e w5 ⟨rfl, hb5⟩
      have P1 := Lib.hid (P0.out.below hb5)
      clear hb5
      obtain ⟨⟨z0, ⟨c1, c2, c3⟩, c4⟩, ⟨c5, c6, c7⟩, ⟨c8, c9⟩, z1, -⟩ := P1.out
      have c40 := c4 0
      have c41 := c4 1
      have c42 := c4 2
      go_wp2
      rw [rounds_succ]
      go_wp2_with fail
      refine (form_of rfl H2.out (hash_any 1 (.inl rfl) s hs _ _ (by have := P1.out.2.2.2.1; simp; omega) (P1.out.past _).2.2.1.1)).mono ?_
      rintro e w6 ⟨rfl, hb6⟩
      have P2 := Lib.hid ((P1.out.past _).below hb6)
      clear hb6
      clear z0 c1 c2 c3 c4 c5 c6 c7 c8 c9 z1 c40 c41 c42
      obtain ⟨⟨z0, ⟨c1, c2, c3⟩, c4⟩, ⟨c5, c6, c7⟩, ⟨c8, c9⟩, z1, -⟩ := P2.out
      have c40 := c4 0
      have c41 := c4 1
      have c42 := c4 2
      go_wp2
      refine bodyPost_ret (v := .tuple #[valT (hashV 1 s.data.toList), .bool true]) (by simp [results, Try.results18, go_sem, c1, c2, c3, z0]) rfl (parse_end (by unfold parseV; rw [H1.out, H2.out]; rfl) (by unfold parseB; rw [H2.out]; simp) rfl ?_)
      have hw := P2.out.2.2.2.2
      exact (((hw.1.setCell (by simp) _).setCell (by simp) _).setCell (by simp) _).alloc (by simpa using hw.1.size) _
  · have H1 := Lib.hid h1
    clear h1
    go_enter Try.func18, Try.ntmps18
    go_wp2_with fail
    refine (forms_any _).mono ?_
    rintro e w' ⟨rfl, rfl⟩
    have P0 := Lib.hid (PI.start w 35 3 52)
    go_wp2
    refine wp_loop_rounds 4 ?_
    rw [rounds_succ]
    go_wp2_with fail
    refine (form_of rfl H1.out (rgb_any s hs _)).mono ?_
    rintro e w5 ⟨rfl, hb5⟩
    have P1 := Lib.hid (P0.out.below hb5)
    clear hb5
    obtain ⟨⟨z0, ⟨c1, c2, c3⟩, c4⟩, ⟨c5, c6, c7⟩, ⟨c8, c9⟩, z1, -⟩ := P1.out
    have c40 := c4 0
    have c41 := c4 1
    have c42 := c4 2
    go_wp2
    refine bodyPost_ret (v := .tuple #[valT (rgbV s.data.toList), .bool true]) (by simp [results, Try.results18, go_sem, c1, c2, c3, z0]) rfl (parse_end (by unfold parseV; rw [H1.out]; rfl) (by unfold parseB; rw [H1.out]; rfl) rfl ?_)
    have hw := P1.out.2.2.2.2
    exact (((hw.1.setCell (by simp) _).setCell (by simp) _).setCell (by simp) _).alloc (by simpa using hw.1.size) _
end Go.Proofs.Ythcncghhjlaicaa.Lab
