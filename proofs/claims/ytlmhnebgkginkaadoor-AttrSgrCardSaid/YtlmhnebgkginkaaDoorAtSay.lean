/- What a function of flags does, what those of colours do; colors, which puts these into the map. -/
import Derived.Test.YtlmhnebgkginkaaDoorAtFlags
import Derived.MapKept
import Derived.Carry
import Derived.Maps.Own
namespace Go.Proofs.YtlmhnebgkginkaaDoor.Lab
open Go Go.RowKit

theorem u16_lit (w : World) (c : Nat) (hc : c < 65536) : U16s (w.alloc (.cells #[.int .u16 (c : Nat)] 24)) (.slice (some ⟨w.heap.size, 0, none⟩) 1 1) [c] := by
  refine ⟨_, 1, rfl, by simp [maxLen], by simpa using hc, fun _ => ⟨w.heap.size, 0, rfl, by simp, fun j hj => ?_⟩⟩
  obtain rfl : j = 0 := by simpa using hj
  simp
theorem AtAt.flagsL {a : At} {s c : Nat} : ({ a with fl := Lab.flagsL a.fl s [c] } : At) = a.flags s c := rfl

set_option maxHeartbeats 8000000 in
set_option maxRecDepth 100000 in
theorem say_flags (w : World) (B : Nat) (a : At) (v : Value) (n : Int) (s c b1 b2 : Nat) (h : RdAt w B a v) (ha : a.fl < 65536) (hs : s < 65536) (hc : c < 65536) (x1 : Box w b1 (.int .u16 (s : Nat))) (x2 : Box w b2 (.int .u16 (c : Nat))) :
    Calls Tryd.prog 47 #[.pointer (some ⟨B, 0, none⟩), .int .i64 n, .pointer (some ⟨b1, 0, none⟩), .pointer (some ⟨b2, 0, none⟩)] w (Done w B (a.flags s c) v) := by
  go_enter Tryd.func47, Tryd.ntmps47
  have BB : Below w.heap.size w w.drew := ⟨rfl, rfl, rfl, Nat.le_refl _, fun _ _ => rfl⟩
  refine wp_region_held_drew (S := fun w' => w'.cell? ⟨b1, 0, none⟩ = some (.int .u16 (s : Nat)) ∧ w'.cell? ⟨b2, 0, none⟩ = some (.int .u16 (c : Nat))) (by kernel_rfl) ?_ (fun hHeld => ?_)
  · exact ⟨x1.cell, x2.cell⟩
  obtain ⟨u0, hu0⟩ : ∃ u0, u0 = w.drew := ⟨_, rfl⟩
  rw [← hu0] at BB hHeld ⊢
  clear hu0
  have HR := Lib.hid (h.below BB)
  have HX1 := Lib.hid (x1.below BB)
  have HX2 := Lib.hid (x2.below BB)
  have HB := Lib.hid (But.of (B := B) BB)
  clear h x1 x2 BB
  refine take_at (i := 0) (v := ?_) rfl (by kernel_rfl) (by kernel_rfl) (by kernel_rfl) (fun _ _ _ h => h) (by kernel_rfl) (by assumption) ?_ ?_
  rotate_left
  · (intro w hSw; (try dsimp only at hSw); go_simp; try with_reducible rfl)
  simp only [Act.put, List.setIfInBounds_toArray, List.set_cons_zero, List.set_cons_succ]
  refine take_at (i := 1) (v := ?_) rfl (by kernel_rfl) (by kernel_rfl) (by kernel_rfl) (fun _ _ _ h => h) (by kernel_rfl) (by assumption) ?_ ?_
  rotate_left
  · (intro w hSw; (try dsimp only at hSw); go_simp; try with_reducible rfl)
  simp only [Act.put, List.setIfInBounds_toArray, List.set_cons_zero, List.set_cons_succ]
  refine take_at (i := 2) (v := ?_) rfl (by kernel_rfl) (by kernel_rfl) (by kernel_rfl) (fun _ _ _ h => h) (by kernel_rfl) (by assumption) ?_ ?_
  rotate_left
  · (intro w hSw; (try dsimp only at hSw); go_simp; try with_reducible rfl)
  simp only [Act.put, List.setIfInBounds_toArray, List.set_cons_zero, List.set_cons_succ]
  refine take_at (i := 3) (v := ?_) rfl (by kernel_rfl) (by kernel_rfl) (by kernel_rfl) (fun _ _ _ h => h) (by kernel_rfl) (by assumption) ?_ ?_
  rotate_left
  · (intro w hSw; (try dsimp only at hSw); go_simp; try with_reducible rfl)
  simp only [Act.put, List.setIfInBounds_toArray, List.set_cons_zero, List.set_cons_succ]
  refine take_at (i := 5) (v := ?_) rfl (by kernel_rfl) (by kernel_rfl) (by kernel_rfl) (fun _ _ _ h => h) (by kernel_rfl) (by assumption) ?_ ?_
  rotate_left
  · (intro w hSw; (try dsimp only at hSw); go_simp; try with_reducible rfl)
  simp only [Act.put, List.setIfInBounds_toArray, List.set_cons_zero, List.set_cons_succ]
  refine take_at (i := 6) (v := ?_) rfl (by kernel_rfl) (by kernel_rfl) (by kernel_rfl) (fun _ _ _ h => h) (by kernel_rfl) (by assumption) ?_ ?_
  rotate_left
  · (intro w hSw; (try dsimp only at hSw); go_simp; try with_reducible rfl)
  simp only [Act.put, List.setIfInBounds_toArray, List.set_cons_zero, List.set_cons_succ]
  refine two_at (i := 4) (j := 7) rfl rfl (by kernel_rfl) (by kernel_rfl) (by kernel_rfl) (fun K hK => ?_) (fun K hK => ?_)
  · obtain ⟨⟨y0, ⟨y1, y2, y3, y4, y5, y6, y7, y8, y9⟩, yf⟩, y10⟩ := HR.out
    go_wp2_with fail
    clear y0 y1 y2 y3 y4 y5 y6 y7 y8 y9 yf y10
    refine hK.out _ _ ?_ (fun hHeld => ?_)
    · exact ⟨HX1.out.cell, HX2.out.cell⟩
    clear hK K
    try simp only [Act.put, List.setIfInBounds_toArray, List.set_cons_zero, List.set_cons_succ]
    refine do_at (i := 7) rfl (by kernel_rfl) (by kernel_rfl) (fun K hK => ?_)
    go_wp2_with fail
    obtain ⟨u7, hu7⟩ : ∃ u7, u7 = u0.alloc (.cells #[.int .u16 (c : Nat)] 24) := ⟨_, rfl⟩
    rw [← hu7]
    have b7 : Below u0.heap.size u0 u7 := by rw [hu7]; exact (Below.refl _ _).alloc (Nat.le_refl _) _
    have HU := Lib.hid (show U16s u7 (.slice (some ⟨u0.heap.size, 0, none⟩) 1 1) [c] by rw [hu7]; exact u16_lit _ c hc)
    obtain ⟨z7, hz7⟩ : ∃ z7, z7 = u0.heap.size := ⟨_, rfl⟩
    rw [← hz7] at HU ⊢
    replace HR := Lib.hid (HR.out.below b7)
    replace HX1 := Lib.hid (HX1.out.below b7)
    replace HX2 := Lib.hid (HX2.out.below b7)
    replace HB := Lib.hid (HB.out.trans (But.of b7))
    clear b7 hu7 hz7
    refine hK.out _ _ ?_ (fun hHeld => ?_)
    · exact ⟨HX1.out.cell, HX2.out.cell⟩
    clear hK K
    try simp only [Act.put, List.setIfInBounds_toArray, List.set_cons_zero, List.set_cons_succ]
    refine do_at (i := 8) rfl (by kernel_rfl) (by kernel_rfl) (fun K hK => ?_)
    go_simp
    refine (flags_any u7 a s [c] _ ha hs HU.out).mono ?_
    rintro e u8 ⟨rfl, b8⟩
    rw [AtAt.flagsL]
    replace HR := Lib.hid (HR.out.below b8)
    replace HX1 := Lib.hid (HX1.out.below b8)
    replace HX2 := Lib.hid (HX2.out.below b8)
    replace HB := Lib.hid (HB.out.trans (But.of b8))
    clear b8 HU
    go_wp2_with fail
    refine hK.out _ _ ?_ (fun hHeld => ?_)
    · exact ⟨HX1.out.cell, HX2.out.cell⟩
    clear hK K
    try simp only [Act.put, List.setIfInBounds_toArray, List.set_cons_zero, List.set_cons_succ]
    refine take_at (i := 9) (v := ?_) rfl (by kernel_rfl) (by kernel_rfl) (by kernel_rfl) (fun _ _ _ h => h) (by kernel_rfl) (by assumption) ?_ ?_
    rotate_left
    · (intro w hSw; (try dsimp only at hSw); go_simp; try with_reducible rfl)
    simp only [Act.put, List.setIfInBounds_toArray, List.set_cons_zero, List.set_cons_succ]
    refine take_at (i := 10) (v := ?_) rfl (by kernel_rfl) (by kernel_rfl) (by kernel_rfl) (fun _ _ _ h => h) (by kernel_rfl) (by assumption) ?_ ?_
    rotate_left
    · (intro w hSw; (try dsimp only at hSw); go_simp; try with_reducible rfl)
    simp only [Act.put, List.setIfInBounds_toArray, List.set_cons_zero, List.set_cons_succ]
    refine do_at (i := 11) rfl (by kernel_rfl) (by kernel_rfl) (fun K hK => ?_)
    obtain ⟨⟨y0, ⟨y1, y2, y3, y4, y5, y6, y7, y8, y9⟩, yf⟩, y10⟩ := HR.out
    have hB1 := HX1.out.ne_rd HR.out
    have hB2 := HX2.out.ne_rd HR.out
    go_wp2_with fail
    clear y0 y1 y2 y3 y4 y5 y6 y7 y8 y9 yf y10
    replace HX1 := Lib.hid (HX1.out.same (putA_heap u8 B b1 (a.flags s c) hB1))
    replace HX2 := Lib.hid (HX2.out.same (putA_heap u8 B b2 (a.flags s c) hB2))
    replace HR := Lib.hid (HR.out.putA (a.flags s c))
    replace HB := Lib.hid (HB.out.trans (putA_but u8 B (a.flags s c)))
    refine hK.out _ _ ?_ (fun hHeld => ?_)
    · exact ⟨HX1.out.cell, HX2.out.cell⟩
    clear hK K
    try simp only [Act.put, List.setIfInBounds_toArray, List.set_cons_zero, List.set_cons_succ]
    refine wpAnyH_done (by kernel_rfl) ?_ _
    go_end0
    exact ⟨rfl, HR.out, HB.out⟩
  · go_wp2_with fail
    obtain ⟨u7, hu7⟩ : ∃ u7, u7 = u0.alloc (.cells #[.int .u16 (c : Nat)] 24) := ⟨_, rfl⟩
    rw [← hu7]
    have b7 : Below u0.heap.size u0 u7 := by rw [hu7]; exact (Below.refl _ _).alloc (Nat.le_refl _) _
    have HU := Lib.hid (show U16s u7 (.slice (some ⟨u0.heap.size, 0, none⟩) 1 1) [c] by rw [hu7]; exact u16_lit _ c hc)
    obtain ⟨z7, hz7⟩ : ∃ z7, z7 = u0.heap.size := ⟨_, rfl⟩
    rw [← hz7] at HU ⊢
    replace HR := Lib.hid (HR.out.below b7)
    replace HX1 := Lib.hid (HX1.out.below b7)
    replace HX2 := Lib.hid (HX2.out.below b7)
    replace HB := Lib.hid (HB.out.trans (But.of b7))
    clear b7 hu7 hz7
    refine hK.out _ _ ?_ (fun hHeld => ?_)
    · exact ⟨HX1.out.cell, HX2.out.cell⟩
    clear hK K
    try simp only [Act.put, List.setIfInBounds_toArray, List.set_cons_zero, List.set_cons_succ]
    refine do_at (i := 4) rfl (by kernel_rfl) (by kernel_rfl) (fun K hK => ?_)
    obtain ⟨⟨y0, ⟨y1, y2, y3, y4, y5, y6, y7, y8, y9⟩, yf⟩, y10⟩ := HR.out
    go_wp2_with fail
    clear y0 y1 y2 y3 y4 y5 y6 y7 y8 y9 yf y10
    refine hK.out _ _ ?_ (fun hHeld => ?_)
    · exact ⟨HX1.out.cell, HX2.out.cell⟩
    clear hK K
    try simp only [Act.put, List.setIfInBounds_toArray, List.set_cons_zero, List.set_cons_succ]
    refine do_at (i := 8) rfl (by kernel_rfl) (by kernel_rfl) (fun K hK => ?_)
    go_simp
    refine (flags_any u7 a s [c] _ ha hs HU.out).mono ?_
    rintro e u8 ⟨rfl, b8⟩
    rw [AtAt.flagsL]
    replace HR := Lib.hid (HR.out.below b8)
    replace HX1 := Lib.hid (HX1.out.below b8)
    replace HX2 := Lib.hid (HX2.out.below b8)
    replace HB := Lib.hid (HB.out.trans (But.of b8))
    clear b8 HU
    go_wp2_with fail
    refine hK.out _ _ ?_ (fun hHeld => ?_)
    · exact ⟨HX1.out.cell, HX2.out.cell⟩
    clear hK K
    try simp only [Act.put, List.setIfInBounds_toArray, List.set_cons_zero, List.set_cons_succ]
    refine take_at (i := 9) (v := ?_) rfl (by kernel_rfl) (by kernel_rfl) (by kernel_rfl) (fun _ _ _ h => h) (by kernel_rfl) (by assumption) ?_ ?_
    rotate_left
    · (intro w hSw; (try dsimp only at hSw); go_simp; try with_reducible rfl)
    simp only [Act.put, List.setIfInBounds_toArray, List.set_cons_zero, List.set_cons_succ]
    refine take_at (i := 10) (v := ?_) rfl (by kernel_rfl) (by kernel_rfl) (by kernel_rfl) (fun _ _ _ h => h) (by kernel_rfl) (by assumption) ?_ ?_
    rotate_left
    · (intro w hSw; (try dsimp only at hSw); go_simp; try with_reducible rfl)
    simp only [Act.put, List.setIfInBounds_toArray, List.set_cons_zero, List.set_cons_succ]
    refine do_at (i := 11) rfl (by kernel_rfl) (by kernel_rfl) (fun K hK => ?_)
    obtain ⟨⟨y0, ⟨y1, y2, y3, y4, y5, y6, y7, y8, y9⟩, yf⟩, y10⟩ := HR.out
    have hB1 := HX1.out.ne_rd HR.out
    have hB2 := HX2.out.ne_rd HR.out
    go_wp2_with fail
    clear y0 y1 y2 y3 y4 y5 y6 y7 y8 y9 yf y10
    replace HX1 := Lib.hid (HX1.out.same (putA_heap u8 B b1 (a.flags s c) hB1))
    replace HX2 := Lib.hid (HX2.out.same (putA_heap u8 B b2 (a.flags s c) hB2))
    replace HR := Lib.hid (HR.out.putA (a.flags s c))
    replace HB := Lib.hid (HB.out.trans (putA_but u8 B (a.flags s c)))
    refine hK.out _ _ ?_ (fun hHeld => ?_)
    · exact ⟨HX1.out.cell, HX2.out.cell⟩
    clear hK K
    try simp only [Act.put, List.setIfInBounds_toArray, List.set_cons_zero, List.set_cons_succ]
    refine wpAnyH_done (by kernel_rfl) ?_ _
    go_end0
    exact ⟨rfl, HR.out, HB.out⟩

theorem idx_setC (a : At) (bg : Bool) (x : Int) : a.setC bg (some ⟨1, x, 0, 0⟩) = if bg then { a with bg := ⟨1, x, 0, 0⟩ } else { a with fg := ⟨1, x, 0, 0⟩ } := by cases bg <;> rfl
set_option maxHeartbeats 2000000 in
theorem say_idx (w : World) (B : Nat) (a : At) (v : Value) (n : Nat) (bg : Bool) (more less b1 b2 b3 : Nat) (h : RdAt w B a v) (hn : more + less ≤ n) (hn2 : n ≤ more + less + 255) (hm : more ≤ 1000) (hl : less ≤ 1000)
    (x1 : Box w b1 (.func (.func (putN bg)) #[] #[])) (x2 : Box w b2 (.int .i64 (more : Nat))) (x3 : Box w b3 (.int .i64 (less : Nat))) :
    Calls Tryd.prog 65 #[.pointer (some ⟨B, 0, none⟩), .int .i64 n, .pointer (some ⟨b1, 0, none⟩), .pointer (some ⟨b2, 0, none⟩), .pointer (some ⟨b3, 0, none⟩)] w (Done w B (a.setC bg (some ⟨1, ((n - more - less : Nat) : Int), 0, 0⟩)) v) := by
  have c1 := x1.cell
  have c2 := x2.cell
  have c3 := x3.cell
  have HR := Lib.hid h
  have e1 : IntKind.i64.wrap ((n : Int) - more) = ((n - more : Nat) : Int) := by rw [IntKind.wrap_i64]; omega
  have e2 : IntKind.i64.wrap (((n - more : Nat) : Int) - less) = ((n - more - less : Nat) : Int) := by rw [IntKind.wrap_i64]; omega
  have e3 : IntKind.u8.wrap ((n - more - less : Nat) : Int) = ((n - more - less : Nat) : Int) := by rw [IntKind.wrap_u8']; omega
  generalize hk : n - more - less = k at *
  generalize hj : n - more = j at *
  clear hk hj h hn hn2
  cases bg
  · have c1' : w.cell? ⟨b1, 0, none⟩ = some (.func (.func 50) #[] #[]) := c1
    clear c1
    go_enter Tryd.func65, Tryd.ntmps65
    go_wp2_with fail
    refine (put_fg w B a v ⟨1, (k : Int), 0, 0⟩ HR.out).mono ?_
    rintro e w1 ⟨rfl, R1, bb⟩
    have HR1 := Lib.hid R1
    have HB1 := Lib.hid bb
    clear R1 bb
    go_wp2
    go_end0
    exact ⟨rfl, HR1.out, HB1.out⟩
  · have c1' : w.cell? ⟨b1, 0, none⟩ = some (.func (.func 51) #[] #[]) := c1
    clear c1
    go_enter Tryd.func65, Tryd.ntmps65
    go_wp2_with fail
    refine (put_bg w B a v ⟨1, (k : Int), 0, 0⟩ HR.out).mono ?_
    rintro e w1 ⟨rfl, R1, bb⟩
    have HR1 := Lib.hid R1
    have HB1 := Lib.hid bb
    clear R1 bb
    go_wp2
    go_end0
    exact ⟨rfl, HR1.out, HB1.out⟩
set_option maxHeartbeats 2000000 in
theorem say_none (w : World) (B : Nat) (a : At) (v : Value) (n : Int) (bg : Bool) (b1 : Nat) (h : RdAt w B a v) (x1 : Box w b1 (.func (.func (putN bg)) #[] #[])) :
    Calls Tryd.prog 66 #[.pointer (some ⟨B, 0, none⟩), .int .i64 n, .pointer (some ⟨b1, 0, none⟩)] w (Done w B (a.setC bg (some Cl.zero)) v) := by
  have c1 := x1.cell
  have HR := Lib.hid h
  clear h
  cases bg
  · have c1' : w.cell? ⟨b1, 0, none⟩ = some (.func (.func 50) #[] #[]) := c1
    clear c1
    go_enter Tryd.func66, Tryd.ntmps66
    go_wp2_with fail
    refine (put_fg w B a v Cl.zero HR.out).mono ?_
    rintro e w1 ⟨rfl, R1, bb⟩
    have HR1 := Lib.hid R1
    have HB1 := Lib.hid bb
    clear R1 bb
    go_wp2
    go_end0
    exact ⟨rfl, HR1.out, HB1.out⟩
  · have c1' : w.cell? ⟨b1, 0, none⟩ = some (.func (.func 51) #[] #[]) := c1
    clear c1
    go_enter Tryd.func66, Tryd.ntmps66
    go_wp2_with fail
    refine (put_bg w B a v Cl.zero HR.out).mono ?_
    rintro e w1 ⟨rfl, R1, bb⟩
    have HR1 := Lib.hid R1
    have HB1 := Lib.hid bb
    clear R1 bb
    go_wp2
    go_end0
    exact ⟨rfl, HR1.out, HB1.out⟩

/-- The map of what numbers say. -/
abbrev SyL := List (Nat × Sy)
def EntAt (w : World) (e : MapEntry) (p : Nat × Sy) : Prop := e.key = .int .i64 (p.1 : Nat) ∧ SayAt w e.val p.2
def MapL (w : World) (M : Nat) (L : SyL) : Prop := ∃ es clock, w.heap[M]? = some (.map es clock) ∧ es.toList.length = L.length ∧ (∀ i (h : i < L.length), ∃ e, es.toList[i]? = some e ∧ EntAt w e L[i]) ∧ ∀ p ∈ L, p.1 ≤ 1000
theorem MapL.lt {w : World} {M : Nat} {L : SyL} (h : MapL w M L) : M < w.heap.size := by obtain ⟨_, _, h, _⟩ := h; exact (Array.getElem?_eq_some_iff.1 h).1
theorem MapL.keep {w w' : World} {M : Nat} {L : SyL} (h : MapL w M L) (e : w'.heap[M]? = w.heap[M]?) (k : ∀ b v, Box w b v → Box w' b v) : MapL w' M L := by
  obtain ⟨es, c, h1, h2, h3, h4⟩ := h
  refine ⟨es, c, e.trans h1, h2, fun i hi => ?_, h4⟩
  obtain ⟨x, hx, h5, h6⟩ := h3 i hi
  exact ⟨x, hx, h5, h6.keep k⟩
theorem MapL.below {w w' : World} {M : Nat} {L : SyL} (h : MapL w M L) (hb : Below w.heap.size w w') : MapL w' M L := h.keep (hb.block M h.lt) fun _ _ x => x.below hb
theorem MapL.ne_rd {w : World} {M B : Nat} {L : SyL} {a : At} {v : Value} (h : MapL w M L) (k : RdAt w B a v) : M ≠ B := by
  rintro rfl
  obtain ⟨es, c, h1, _⟩ := h
  have := k.2
  unfold World.cell? at this
  rw [h1] at this
  simp at this
theorem MapL.but {w w' : World} {M B : Nat} {L : SyL} {a : At} {v : Value} (h : MapL w M L) (k : RdAt w B a v) (hb : But B w w') : MapL w' M L := h.keep (hb.block M h.lt (by have := h.ne_rd k; simp; omega)) fun _ _ x => x.but k hb
theorem MapL.new (w : World) : MapL (w.alloc (.map #[] 0)) w.heap.size [] := ⟨#[], 0, (MapKept.heap_alloc w _).1, rfl, fun i hi => by simp at hi, by simp⟩

theorem keyedI : Maps.Keyed Tryd.prog 3 := Maps.int_keyed Tryd.underlying3
theorem checkI (w : World) (em : Bool) (c : Int) (h0 : -9223372036854775808 ≤ c) (h1 : c ≤ 9223372036854775807) : (Instr.checkKey em 10000 3 (.int .i64 c)).run Tryd.prog w = .ok () w :=
  keyedI.check w em (Maps.keyOf_int_mk Tryd.underlying3 (by simp [Lit.wf, IntKind.min, IntKind.max, IntKind.bits, IntKind.signed]; omega))
theorem findI (w : World) (c : Int) (es : List MapEntry) {r} (hf : Instr.findNow (.int .i64) (.int .i64 c) es 0 = some r) : (Instr.findKey 3 (.int .i64 c) es).run Tryd.prog w = .ok r w := by
  simp [Instr.findKey, run_underlying Tryd.underlying3, hf, Result.andThen]
def symL (n : Int) : SyL → Option Sy
  | [] => none
  | p :: t => if n = (p.1 : Int) then some p.2 else symL n t
theorem find_ents {w : World} (n : Int) : ∀ (L : SyL) (es : List MapEntry) (i0 : Nat), es.length = L.length → (∀ i (h : i < L.length), ∃ e, es[i]? = some e ∧ EntAt w e L[i]) →
    ∃ r, Instr.findNow (.int .i64) (.int .i64 n) es i0 = some r ∧ ((symL n L = none ∧ r = none) ∨ ∃ s j V, symL n L = some s ∧ r = some (j, V) ∧ SayAt w V s)
  | [], [], i0, _, _ => ⟨none, rfl, .inl ⟨rfl, rfl⟩⟩
  | [], _ :: _, _, h, _ => by simp at h
  | _ :: _, [], _, h, _ => by simp at h
  | p :: L, e :: es, i0, h, he => by
    obtain ⟨e', he', k1, k2⟩ := he 0 (by simp)
    obtain rfl : e = e' := by simpa using he'
    have k2' : SayAt w e.val p.2 := k2
    have k1' : e.key = .int .i64 (p.1 : Nat) := k1
    by_cases hn : n = (p.1 : Int)
    · refine ⟨some (i0, e.val), ?_, .inr ⟨p.2, i0, e.val, by simp [symL, hn], rfl, k2'⟩⟩
      simp [Instr.findNow, Instr.sameNow, k1', hn]
    · obtain ⟨r, h1, h2⟩ := find_ents n L es (i0 + 1) (by simpa using h) fun i hi => by
        obtain ⟨e2, h3, h4⟩ := he (i + 1) (by simpa using hi)
        exact ⟨e2, by simpa using h3, h4⟩
      have e1 : (n == ((p.1 : Nat) : Int)) = false := by simpa using hn
      refine ⟨r, ?_, ?_⟩
      · simp [Instr.findNow, Instr.sameNow, k1', e1, h1]
      · simpa [symL, hn] using h2

/-- A map written. -/
def putM (w : World) (M : Nat) (o : Obj) : World := { w with heap := w.heap.setIfInBounds M o }
theorem putM_size (w : World) (M : Nat) (o : Obj) : (putM w M o).heap.size = w.heap.size := by simp [putM]
theorem putM_other (w : World) (M b : Nat) (o : Obj) (h : b ≠ M) : (putM w M o).heap[b]? = w.heap[b]? := by
  unfold putM
  simp [Ne.symm h]
theorem putM_but (w : World) (M : Nat) (o : Obj) : But M w (putM w M o) := ⟨rfl, rfl, rfl, by rw [putM_size]; exact Nat.le_refl _, fun i _ hn => putM_other w M i o (by simpa using hn)⟩
/-- A new number put into the map. -/
theorem MapL.insert {w : World} {M : Nat} {L : SyL} (h : MapL w M L) (n : Nat) (hn : n ≤ 1000) (hk : symL n L = none) (V : Value) (s : Sy) (hs : SayAt w V s) :
    ∃ w', (Instr.mapUpdate 62 (.map (some M)) (.int .i64 (n : Nat)) V).run Tryd.prog w = .ok () w' ∧ MapL w' M (L ++ [(n, s)]) ∧ But M w w' ∧ ∀ b v, Box w b v → Box w' b v := by
  obtain ⟨es, c, h1, h2, h3, h4⟩ := h
  obtain ⟨r, hf, hr⟩ := find_ents (n : Int) L es.toList 0 h2 h3
  have hr0 : r = none := by
    rcases hr with ⟨_, h⟩ | ⟨s', j, V', h, _⟩
    · exact h
    · rw [hk] at h
      simp at h
  subst hr0
  have hbox : ∀ b v, Box w b v → Box (putM w M (.map (es.push ⟨.int .i64 (n : Nat), V, c⟩) (c + 1))) b v := fun b v x => x.same (putM_other _ _ _ _ (fun e => by
    obtain ⟨T, x⟩ := x
    rw [e, h1] at x
    simp at x))
  refine ⟨putM w M (.map (es.push ⟨.int .i64 (n : Nat), V, c⟩) (c + 1)), ?_, ⟨es.push ⟨.int .i64 (n : Nat), V, c⟩, c + 1, ?_, ?_, fun i hi => ?_, ?_⟩, putM_but _ _ _, hbox⟩
  · simp [Instr.mapUpdate, findI _ (n : Int) es.toList hf, checkI _ _ (n : Int) (by omega) (by omega), run_underlying Tryd.underlying62, MapKept.run_getObj_map h1, MapKept.run_setObj_map _ h1, Result.andThen, putM]
  · have : M < w.heap.size := (Array.getElem?_eq_some_iff.1 h1).1
    simp [putM, this]
  · simp at h2 ⊢
    omega
  · rw [List.length_append, List.length_singleton] at hi
    have hl : es.toList.length = L.length := h2
    by_cases hlt : i < L.length
    · obtain ⟨e, he, k1, k2⟩ := h3 i hlt
      refine ⟨e, ?_, ?_⟩
      · rw [Array.toList_push, List.getElem?_append_left (by omega)]
        exact he
      · rw [List.getElem_append_left hlt]
        exact ⟨k1, k2.keep hbox⟩
    · obtain rfl : i = L.length := by omega
      refine ⟨⟨.int .i64 (n : Nat), V, c⟩, ?_, ?_⟩
      · rw [Array.toList_push, List.getElem?_append_right (by omega), hl]
        simp
      · rw [List.getElem_append_right (by omega)]
        simp only [Nat.sub_self, List.getElem_singleton]
        exact ⟨rfl, hs.keep hbox⟩
  · intro p hp
    rcases List.mem_append.1 hp with hp | hp
    · exact h4 p hp
    · rw [List.mem_singleton.1 hp]
      exact hn
def gotS : Option (Nat × Value) → Value
  | some x => x.2
  | none => .nilFunc
/-- What a number says, looked up. -/
theorem MapL.look {w : World} {M : Nat} {L : SyL} (h : MapL w M L) (n : Int) (h0 : -9223372036854775808 ≤ n) (h1 : n ≤ 9223372036854775807) :
    (symL n L = none ∧ (Instr.lookup 62 (.map (some M)) (.int .i64 n) true).run Tryd.prog w = .ok (.tuple #[.nilFunc, .bool false]) w) ∨
    ∃ s V, symL n L = some s ∧ SayAt w V s ∧ (Instr.lookup 62 (.map (some M)) (.int .i64 n) true).run Tryd.prog w = .ok (.tuple #[V, .bool true]) w ∧ (Instr.lookup 62 (.map (some M)) (.int .i64 n) false).run Tryd.prog w = .ok V w := by
  obtain ⟨es, c, k1, k2, k3, _⟩ := h
  obtain ⟨r, hf, hr⟩ := find_ents n L es.toList 0 k2 k3
  have z : (zeroValue 82).run Tryd.prog w = .ok .nilFunc w := by kernel_rfl
  rcases hr with ⟨e1, rfl⟩ | ⟨s, j, V, e1, rfl, hs⟩
  · exact .inl ⟨e1, by simp [Instr.lookup, findI _ n _ hf, checkI _ _ n h0 h1, run_underlying Tryd.underlying62, MapKept.run_getObj_map k1, Result.andThen, z]⟩
  · refine .inr ⟨s, V, e1, hs, ?_, ?_⟩
    · simp [Instr.lookup, findI _ n _ hf, checkI _ _ n h0 h1, run_underlying Tryd.underlying62, MapKept.run_getObj_map k1, Result.andThen]
    · simp [Instr.lookup, findI _ n _ hf, checkI _ _ n h0 h1, run_underlying Tryd.underlying62, MapKept.run_getObj_map k1, Result.andThen]
end Go.Proofs.YtlmhnebgkginkaaDoor.Lab
