/- A draft's token: a rune, a control, data. -/
import Derived.Test.YtclaopidjfekmaaDoorToBytes
namespace Go.Proofs.YtclaopidjfekmaaDoor.Lab
open Go Go.RowKit

/-- A row of bytes, as it comes in. -/
def BytAt (w : World) (v : Value) (l : List Int) : Prop :=
  ∃ a c, v = .slice a l.length c ∧ l.length ≤ maxLen ∧ (∀ x ∈ l, 0 ≤ x ∧ x ≤ 255) ∧ (0 < l.length → ∃ g o, a = some ⟨g, o, none⟩ ∧ ∀ j, j < l.length → w.cell? ⟨g, o + j, none⟩ = some (.int .u8 (l.getD j 0)))
def ShortAt (w : World) (v : Value) (l : List Int) : Prop :=
  ∃ a c, v = .slice a l.length c ∧ l.length ≤ maxLen ∧ (∀ x ∈ l, -32768 ≤ x ∧ x ≤ 32767) ∧ (0 < l.length → ∃ g o, a = some ⟨g, o, none⟩ ∧ ∀ j, j < l.length → w.cell? ⟨g, o + j, none⟩ = some (.int .i16 (l.getD j 0)))
def ShortsAt (w : World) (v : Value) (R : Rws) : Prop :=
  ∃ a c, v = .slice a R.length c ∧ R.length ≤ maxLen ∧ (0 < R.length → ∃ g o, a = some ⟨g, o, none⟩ ∧ ∀ j, j < R.length → ∃ u, w.cell? ⟨g, o + j, none⟩ = some u ∧ ShortAt w u (R.getD j []))
theorem BytAt.on {w w' : World} {v : Value} {l : List Int} (h : BytAt w v l) (k : Keeps w w') : BytAt w' v l := by
  obtain ⟨a, c, e, hm, hr, h⟩ := h
  refine ⟨a, c, e, hm, hr, fun h0 => ?_⟩
  obtain ⟨g, o, ea, hc⟩ := h h0
  exact ⟨g, o, ea, fun j hj => k _ _ _ (hc j hj)⟩
theorem ShortAt.on {w w' : World} {v : Value} {l : List Int} (h : ShortAt w v l) (k : Keeps w w') : ShortAt w' v l := by
  obtain ⟨a, c, e, hm, hr, h⟩ := h
  refine ⟨a, c, e, hm, hr, fun h0 => ?_⟩
  obtain ⟨g, o, ea, hc⟩ := h h0
  exact ⟨g, o, ea, fun j hj => k _ _ _ (hc j hj)⟩
theorem ShortsAt.on {w w' : World} {v : Value} {R : Rws} (h : ShortsAt w v R) (k : Keeps w w') : ShortsAt w' v R := by
  obtain ⟨a, c, e, hm, h⟩ := h
  refine ⟨a, c, e, hm, fun h0 => ?_⟩
  obtain ⟨g, o, ea, hc⟩ := h h0
  refine ⟨g, o, ea, fun j hj => ?_⟩
  obtain ⟨u, hu, hn⟩ := hc j hj
  exact ⟨u, k _ _ _ hu, hn.on k⟩

abbrev drf (K p r : Int) (pv iv : Value) (f : Int) (d : ByteArray) : Value := .agg #[.int .u8 K, .int .u8 p, .int .i32 r, pv, iv, .int .u8 f, .string d]

/-- What the call of Token has made: the draft's box, the result's place, and the token under way. -/
def DS (w0 w : World) (K p r : Int) (pv iv : Value) (f : Int) (d : ByteArray) (k tr tp : Int) (tv : Value) (ti : ByteArray) (tf : Int) (td : ByteArray) : Prop :=
  Below w0.heap.size w0 w ∧ T7 w w0.heap.size (.int .u8 K) (.int .u8 p) (.int .i32 r) pv iv (.int .u8 f) (.string d) ∧
  T7 w (w0.heap.size + 1) (.int .i64 0) (.int .i32 0) (.int .u8 0) (.slice none 0 0) (.string ⟨#[]⟩) (.int .u8 0) (.string ⟨#[]⟩) ∧
  T7 w (w0.heap.size + 2) (.int .i64 k) (.int .i32 tr) (.int .u8 tp) tv (.string ti) (.int .u8 tf) (.string td)
theorem DS.on {w0 w w' : World} {K p r : Int} {pv iv : Value} {f : Int} {d : ByteArray} {k tr tp : Int} {tv : Value} {ti : ByteArray} {tf : Int} {td : ByteArray} (h : DS w0 w K p r pv iv f d k tr tp tv ti tf td) (hb : Below w.heap.size w w') : DS w0 w' K p r pv iv f d k tr tp tv ti tf td :=
  ⟨h.1.trans (hb.mono h.1.size), h.2.1.below hb, h.2.2.1.below hb, h.2.2.2.below hb⟩
theorem cell_no {w : World} {b b' : Nat} {i j : Nat} {v : Value} (h : b ≠ b') : (w.setCell ⟨b', j, none⟩ v).cell? ⟨b, i, none⟩ = w.cell? ⟨b, i, none⟩ := World.cell?_setCell_other _ _ _ _ (fun e => h (by injection e with e; exact e.symm))
theorem T7.set_no {w : World} {b b' : Nat} {a0 a1 a2 a3 a4 a5 a6 : Value} (h : T7 w b a0 a1 a2 a3 a4 a5 a6) (j : Nat) (v : Value) (ne : b ≠ b') : T7 (w.setCell ⟨b', j, none⟩ v) b a0 a1 a2 a3 a4 a5 a6 := by
  refine h.same (by simp) (Below.heap_setCell _ _ _ _ ne)
theorem T7.set1 {w : World} {b : Nat} {a0 a1 a2 a3 a4 a5 a6 : Value} (h : T7 w b a0 a1 a2 a3 a4 a5 a6) (x : Value) : T7 (w.setCell ⟨b, 1, none⟩ x) b a0 x a2 a3 a4 a5 a6 := by
  obtain ⟨h0, ⟨h1, h2, h3, h4, h5, h6, h7⟩, h8⟩ := h
  refine ⟨by simpa using h0, ?_, fun i => by simp [h8 i]⟩
  refine ⟨?_, ?_, ?_, ?_, ?_, ?_, ?_⟩ <;> simp [World.cell?_setCell_other, World.cell?_setCell_same', h1, h2, h3, h4, h5, h6, h7]
theorem DS.set1 {w0 w : World} {K p r : Int} {pv iv : Value} {f : Int} {d : ByteArray} {k tr tp : Int} {tv : Value} {ti : ByteArray} {tf : Int} {td : ByteArray} (h : DS w0 w K p r pv iv f d k tr tp tv ti tf td) (x : Int) : DS w0 (w.setCell ⟨w0.heap.size + 2, 1, none⟩ (.int .i32 x)) K p r pv iv f d k x tp tv ti tf td :=
  ⟨h.1.setCell (p := ⟨w0.heap.size + 2, 1, none⟩) (by simp) _, h.2.1.set_no _ _ (by omega), h.2.2.1.set_no _ _ (by omega), h.2.2.2.set1 _⟩
theorem T7.set2 {w : World} {b : Nat} {a0 a1 a2 a3 a4 a5 a6 : Value} (h : T7 w b a0 a1 a2 a3 a4 a5 a6) (x : Value) : T7 (w.setCell ⟨b, 2, none⟩ x) b a0 a1 x a3 a4 a5 a6 := by
  obtain ⟨h0, ⟨h1, h2, h3, h4, h5, h6, h7⟩, h8⟩ := h
  refine ⟨by simpa using h0, ?_, fun i => by simp [h8 i]⟩
  refine ⟨?_, ?_, ?_, ?_, ?_, ?_, ?_⟩ <;> simp [World.cell?_setCell_other, World.cell?_setCell_same', h1, h2, h3, h4, h5, h6, h7]
theorem DS.set2 {w0 w : World} {K p r : Int} {pv iv : Value} {f : Int} {d : ByteArray} {k tr tp : Int} {tv : Value} {ti : ByteArray} {tf : Int} {td : ByteArray} (h : DS w0 w K p r pv iv f d k tr tp tv ti tf td) (x : Int) : DS w0 (w.setCell ⟨w0.heap.size + 2, 2, none⟩ (.int .u8 x)) K p r pv iv f d k tr x tv ti tf td :=
  ⟨h.1.setCell (p := ⟨w0.heap.size + 2, 2, none⟩) (by simp) _, h.2.1.set_no _ _ (by omega), h.2.2.1.set_no _ _ (by omega), h.2.2.2.set2 _⟩
theorem T7.set3 {w : World} {b : Nat} {a0 a1 a2 a3 a4 a5 a6 : Value} (h : T7 w b a0 a1 a2 a3 a4 a5 a6) (x : Value) : T7 (w.setCell ⟨b, 3, none⟩ x) b a0 a1 a2 x a4 a5 a6 := by
  obtain ⟨h0, ⟨h1, h2, h3, h4, h5, h6, h7⟩, h8⟩ := h
  refine ⟨by simpa using h0, ?_, fun i => by simp [h8 i]⟩
  refine ⟨?_, ?_, ?_, ?_, ?_, ?_, ?_⟩ <;> simp [World.cell?_setCell_other, World.cell?_setCell_same', h1, h2, h3, h4, h5, h6, h7]
theorem DS.set3 {w0 w : World} {K p r : Int} {pv iv : Value} {f : Int} {d : ByteArray} {k tr tp : Int} {tv : Value} {ti : ByteArray} {tf : Int} {td : ByteArray} (h : DS w0 w K p r pv iv f d k tr tp tv ti tf td) (x : Value) : DS w0 (w.setCell ⟨w0.heap.size + 2, 3, none⟩ x) K p r pv iv f d k tr tp x ti tf td :=
  ⟨h.1.setCell (p := ⟨w0.heap.size + 2, 3, none⟩) (by simp) _, h.2.1.set_no _ _ (by omega), h.2.2.1.set_no _ _ (by omega), h.2.2.2.set3 _⟩
theorem T7.set4 {w : World} {b : Nat} {a0 a1 a2 a3 a4 a5 a6 : Value} (h : T7 w b a0 a1 a2 a3 a4 a5 a6) (x : Value) : T7 (w.setCell ⟨b, 4, none⟩ x) b a0 a1 a2 a3 x a5 a6 := by
  obtain ⟨h0, ⟨h1, h2, h3, h4, h5, h6, h7⟩, h8⟩ := h
  refine ⟨by simpa using h0, ?_, fun i => by simp [h8 i]⟩
  refine ⟨?_, ?_, ?_, ?_, ?_, ?_, ?_⟩ <;> simp [World.cell?_setCell_other, World.cell?_setCell_same', h1, h2, h3, h4, h5, h6, h7]
theorem DS.set4 {w0 w : World} {K p r : Int} {pv iv : Value} {f : Int} {d : ByteArray} {k tr tp : Int} {tv : Value} {ti : ByteArray} {tf : Int} {td : ByteArray} (h : DS w0 w K p r pv iv f d k tr tp tv ti tf td) (x : ByteArray) : DS w0 (w.setCell ⟨w0.heap.size + 2, 4, none⟩ (.string x)) K p r pv iv f d k tr tp tv x tf td :=
  ⟨h.1.setCell (p := ⟨w0.heap.size + 2, 4, none⟩) (by simp) _, h.2.1.set_no _ _ (by omega), h.2.2.1.set_no _ _ (by omega), h.2.2.2.set4 _⟩
theorem T7.set5 {w : World} {b : Nat} {a0 a1 a2 a3 a4 a5 a6 : Value} (h : T7 w b a0 a1 a2 a3 a4 a5 a6) (x : Value) : T7 (w.setCell ⟨b, 5, none⟩ x) b a0 a1 a2 a3 a4 x a6 := by
  obtain ⟨h0, ⟨h1, h2, h3, h4, h5, h6, h7⟩, h8⟩ := h
  refine ⟨by simpa using h0, ?_, fun i => by simp [h8 i]⟩
  refine ⟨?_, ?_, ?_, ?_, ?_, ?_, ?_⟩ <;> simp [World.cell?_setCell_other, World.cell?_setCell_same', h1, h2, h3, h4, h5, h6, h7]
theorem DS.set5 {w0 w : World} {K p r : Int} {pv iv : Value} {f : Int} {d : ByteArray} {k tr tp : Int} {tv : Value} {ti : ByteArray} {tf : Int} {td : ByteArray} (h : DS w0 w K p r pv iv f d k tr tp tv ti tf td) (x : Int) : DS w0 (w.setCell ⟨w0.heap.size + 2, 5, none⟩ (.int .u8 x)) K p r pv iv f d k tr tp tv ti x td :=
  ⟨h.1.setCell (p := ⟨w0.heap.size + 2, 5, none⟩) (by simp) _, h.2.1.set_no _ _ (by omega), h.2.2.1.set_no _ _ (by omega), h.2.2.2.set5 _⟩
theorem T7.set6 {w : World} {b : Nat} {a0 a1 a2 a3 a4 a5 a6 : Value} (h : T7 w b a0 a1 a2 a3 a4 a5 a6) (x : Value) : T7 (w.setCell ⟨b, 6, none⟩ x) b a0 a1 a2 a3 a4 a5 x := by
  obtain ⟨h0, ⟨h1, h2, h3, h4, h5, h6, h7⟩, h8⟩ := h
  refine ⟨by simpa using h0, ?_, fun i => by simp [h8 i]⟩
  refine ⟨?_, ?_, ?_, ?_, ?_, ?_, ?_⟩ <;> simp [World.cell?_setCell_other, World.cell?_setCell_same', h1, h2, h3, h4, h5, h6, h7]
theorem DS.set6 {w0 w : World} {K p r : Int} {pv iv : Value} {f : Int} {d : ByteArray} {k tr tp : Int} {tv : Value} {ti : ByteArray} {tf : Int} {td : ByteArray} (h : DS w0 w K p r pv iv f d k tr tp tv ti tf td) (x : ByteArray) : DS w0 (w.setCell ⟨w0.heap.size + 2, 6, none⟩ (.string x)) K p r pv iv f d k tr tp tv ti tf x :=
  ⟨h.1.setCell (p := ⟨w0.heap.size + 2, 6, none⟩) (by simp) _, h.2.1.set_no _ _ (by omega), h.2.2.1.set_no _ _ (by omega), h.2.2.2.set6 _⟩
theorem ds_new (w : World) (K p r : Int) (pv iv : Value) (f : Int) (d : ByteArray) (k : Int) : DS w (((w.alloc (.cells #[.int .u8 K, .int .u8 p, .int .i32 r, pv, iv, .int .u8 f, .string d] 41)).alloc (.cells #[.int .i64 0, .int .i32 0, .int .u8 0, .slice none 0 0, .string ⟨#[]⟩, .int .u8 0, .string ⟨#[]⟩] 27)).alloc (.cells #[.int .i64 k, .int .i32 0, .int .u8 0, .slice none 0 0, .string ⟨#[]⟩, .int .u8 0, .string ⟨#[]⟩] 27)) K p r pv iv f d k 0 0 (.slice none 0 0) ⟨#[]⟩ 0 ⟨#[]⟩ := by
  have b1 : Below (w.alloc (.cells #[.int .u8 K, .int .u8 p, .int .i32 r, pv, iv, .int .u8 f, .string d] 41)).heap.size (w.alloc (.cells #[.int .u8 K, .int .u8 p, .int .i32 r, pv, iv, .int .u8 f, .string d] 41)) (((w.alloc (.cells #[.int .u8 K, .int .u8 p, .int .i32 r, pv, iv, .int .u8 f, .string d] 41)).alloc (.cells #[.int .i64 0, .int .i32 0, .int .u8 0, .slice none 0 0, .string ⟨#[]⟩, .int .u8 0, .string ⟨#[]⟩] 27)).alloc (.cells #[.int .i64 k, .int .i32 0, .int .u8 0, .slice none 0 0, .string ⟨#[]⟩, .int .u8 0, .string ⟨#[]⟩] 27)) := ((Below.refl _ _).alloc (by simp) _).alloc (by simp) _
  refine ⟨(((Below.refl _ _).alloc (by simp) _).alloc (by simp) _).alloc (by simp; try omega) _, (T7.newAt w _ rfl _ _ _ _ _ _ _ _).below b1, ?_, T7.newAt _ _ (by simp) _ _ _ _ _ _ _ _⟩
  exact (T7.newAt (w.alloc (.cells #[.int .u8 K, .int .u8 p, .int .i32 r, pv, iv, .int .u8 f, .string d] 41)) (w.heap.size + 1) (by simp) _ _ _ _ _ _ _ _).past _
/-- The end: the token is handed out. -/
theorem ds_end {w0 w : World} {K p r : Int} {pv iv : Value} {f : Int} {d : ByteArray} {k tr tp : Int} {tv : Value} {ti : ByteArray} {tf : Int} {td : ByteArray} (h : DS w0 w K p r pv iv f d k tr tp tv ti tf td) :
    T7 (put7 w (w0.heap.size + 1) (.int .i64 k) (.int .i32 tr) (.int .u8 tp) tv (.string ti) (.int .u8 tf) (.string td)) (w0.heap.size + 1) (.int .i64 k) (.int .i32 tr) (.int .u8 tp) tv (.string ti) (.int .u8 tf) (.string td) ∧
    Below w0.heap.size w0 (put7 w (w0.heap.size + 1) (.int .i64 k) (.int .i32 tr) (.int .u8 tp) tv (.string ti) (.int .u8 tf) (.string td)) :=
  ⟨h.2.2.1.put _ _ _ _ _ _ _, put7_below h.1 (by omega) _ _ _ _ _ _ _⟩

set_option maxHeartbeats 8000000 in
set_option maxRecDepth 100000 in
theorem draft0_any (K p r : Int) (pv iv : Value) (f : Int) (d : ByteArray) (w : World) (h0 : 0 ≤ K) (_h255 : K ≤ 255) (hf0 : 0 ≤ f) (hf1 : f ≤ 255) (hk : K % 6 = 0) :
    Calls Tryd.prog 17 #[drf K p r pv iv f d] w fun e w' => e = .returned (tok7 0 (runeD r f) 0 (.slice none 0 0) ⟨#[]⟩ 0 ⟨#[]⟩) ∧ Below w.heap.size w w' := by
  have hk2 : K.tmod 6 = 0 := by rw [Int.tmod_eq_emod_of_nonneg h0]; exact hk
  have HD0 := Lib.hid (ds_new w K p r pv iv f d 0)
  go_enter Tryd.func17, Tryd.ntmps17
  obtain ⟨q, hq⟩ : ∃ q, Utf8.valid r = q := ⟨_, rfl⟩
  have HQ := Lib.hid hq
  clear hq
  have HPR := Lib.hid (show prnB r = (Utf8.valid r && decide (32 ≤ r) && !btw 127 159 r) from rfl)
  have HRD := Lib.hid (show runeD r f = if prnB r then r else 97 + f % 26 from rfl)
  cases q
  · go_wp2_with fail
    refine (ris_any r _).mono ?_
    rintro e wx ⟨rfl, rfl⟩
    rw [HQ.out]
    go_wp2
    have HV : runeD r f = 97 + f % 26 := by rw [HRD.out, HPR.out, HQ.out]; rfl
    exact bodyPost_ret (v := tok7 0 (97 + f % 26) 0 (.slice none 0 0) ⟨#[]⟩ 0 ⟨#[]⟩) (by simp [results, Tryd.results17, go_sem]) rfl ⟨by rw [HV], (((Below.refl _ _).alloc (by simp) _).alloc (by simp) _).alloc (by simp; try omega) _⟩
  · by_cases h1 : r < 32
    · go_wp2_with fail
      refine (ris_any r _).mono ?_
      rintro e wx ⟨rfl, rfl⟩
      rw [HQ.out]
      go_wp2
      have HV : runeD r f = 97 + f % 26 := by rw [HRD.out, HPR.out, HQ.out, decide_eq_false (by omega)]; rfl
      exact bodyPost_ret (v := tok7 0 (97 + f % 26) 0 (.slice none 0 0) ⟨#[]⟩ 0 ⟨#[]⟩) (by simp [results, Tryd.results17, go_sem]) rfl ⟨by rw [HV], (((Below.refl _ _).alloc (by simp) _).alloc (by simp) _).alloc (by simp; try omega) _⟩
    · have f1 : decide ((32 : Int) ≤ r) = true := by simp; omega
      have f1' : decide (r < 32) = false := by simp; omega
      by_cases h2 : 127 ≤ r
      · by_cases h3 : r ≤ 159
        · go_wp2_with fail
          refine (ris_any r _).mono ?_
          rintro e wx ⟨rfl, rfl⟩
          rw [HQ.out]
          go_wp2
          have HV : runeD r f = 97 + f % 26 := by rw [HRD.out, HPR.out, HQ.out, f1, btw_yes h2 h3]; rfl
          exact bodyPost_ret (v := tok7 0 (97 + f % 26) 0 (.slice none 0 0) ⟨#[]⟩ 0 ⟨#[]⟩) (by simp [results, Tryd.results17, go_sem]) rfl ⟨by rw [HV], (((Below.refl _ _).alloc (by simp) _).alloc (by simp) _).alloc (by simp; try omega) _⟩
        · have f3 : decide (r ≤ 159) = false := by simp; omega
          go_wp2_with fail
          refine (ris_any r _).mono ?_
          rintro e wx ⟨rfl, rfl⟩
          rw [HQ.out]
          go_wp2
          have HV : runeD r f = r := by rw [HRD.out, HPR.out, HQ.out, f1, btw, decide_eq_false (by omega)]; rfl
          exact bodyPost_ret (v := tok7 0 (r) 0 (.slice none 0 0) ⟨#[]⟩ 0 ⟨#[]⟩) (by simp [results, Tryd.results17, go_sem]) rfl ⟨by rw [HV], (((Below.refl _ _).alloc (by simp) _).alloc (by simp) _).alloc (by simp; try omega) _⟩
      · have f2 : decide ((127 : Int) ≤ r) = false := by simp; omega
        go_wp2_with fail
        refine (ris_any r _).mono ?_
        rintro e wx ⟨rfl, rfl⟩
        rw [HQ.out]
        go_wp2
        have HV : runeD r f = r := by rw [HRD.out, HPR.out, HQ.out, f1, btw, decide_eq_false (by omega)]; rfl
        exact bodyPost_ret (v := tok7 0 (r) 0 (.slice none 0 0) ⟨#[]⟩ 0 ⟨#[]⟩) (by simp [results, Tryd.results17, go_sem]) rfl ⟨by rw [HV], (((Below.refl _ _).alloc (by simp) _).alloc (by simp) _).alloc (by simp; try omega) _⟩

set_option maxHeartbeats 8000000 in
set_option maxRecDepth 100000 in
theorem draft1_any (K p r : Int) (pv iv : Value) (f : Int) (d : ByteArray) (w : World) (h0 : 0 ≤ K) (_h255 : K ≤ 255) (hf0 : 0 ≤ f) (_hf1 : f ≤ 255) (hk : K % 6 = 1) :
    Calls Tryd.prog 17 #[drf K p r pv iv f d] w fun e w' => e = .returned (tok7 1 0 0 (.slice none 0 0) ⟨#[]⟩ (ctlD f) ⟨#[]⟩) ∧ Below w.heap.size w w' := by
  have hk2 : K.tmod 6 = 1 := by rw [Int.tmod_eq_emod_of_nonneg h0]; exact hk
  have HD0 := Lib.hid (ds_new w K p r pv iv f d 1)
  go_enter Tryd.func17, Tryd.ntmps17
  have HCD := Lib.hid (show ctlD f = if ctlB (f % 32) then f % 32 else 10 from rfl)
  have HC := Lib.hid (show ctlB (f % 32) = decide (f % 32 < 32 ∧ f % 32 ≠ 24 ∧ f % 32 ≠ 26 ∧ f % 32 ≠ 27) from rfl)
  have ht : f.tmod 32 = f % 32 := Int.tmod_eq_emod_of_nonneg hf0
  by_cases g24 : f % 32 = 24
  case pos =>
    have e1 : (f % 32 == 24) = true := by simpa using g24
    have HF := Lib.hid g24
    clear g24
    go_wp2
    have HV : ctlD f = 10 := by rw [HCD.out, HC.out, decide_eq_false (by have := HF.out; omega)]; rfl
    exact bodyPost_ret (v := tok7 1 0 0 (.slice none 0 0) ⟨#[]⟩ (10) ⟨#[]⟩) (by simp [results, Tryd.results17, go_sem]) rfl ⟨by rw [HV], (((Below.refl _ _).alloc (by simp) _).alloc (by simp) _).alloc (by simp; try omega) _⟩
  have m24 : (f % 32 == 24) = false := by simpa using g24
  by_cases g26 : f % 32 = 26
  case pos =>
    have e1 : (f % 32 == 26) = true := by simpa using g26
    have HF := Lib.hid g26
    clear g26
    go_wp2
    have HV : ctlD f = 10 := by rw [HCD.out, HC.out, decide_eq_false (by have := HF.out; omega)]; rfl
    exact bodyPost_ret (v := tok7 1 0 0 (.slice none 0 0) ⟨#[]⟩ (10) ⟨#[]⟩) (by simp [results, Tryd.results17, go_sem]) rfl ⟨by rw [HV], (((Below.refl _ _).alloc (by simp) _).alloc (by simp) _).alloc (by simp; try omega) _⟩
  have m26 : (f % 32 == 26) = false := by simpa using g26
  by_cases g27 : f % 32 = 27
  case pos =>
    have e1 : (f % 32 == 27) = true := by simpa using g27
    have HF := Lib.hid g27
    clear g27
    go_wp2
    have HV : ctlD f = 10 := by rw [HCD.out, HC.out, decide_eq_false (by have := HF.out; omega)]; rfl
    exact bodyPost_ret (v := tok7 1 0 0 (.slice none 0 0) ⟨#[]⟩ (10) ⟨#[]⟩) (by simp [results, Tryd.results17, go_sem]) rfl ⟨by rw [HV], (((Below.refl _ _).alloc (by simp) _).alloc (by simp) _).alloc (by simp; try omega) _⟩
  have m27 : (f % 32 == 27) = false := by simpa using g27
  go_wp2
  have HV : ctlD f = f % 32 := by rw [HCD.out, HC.out, decide_eq_true (by omega)]; rfl
  exact bodyPost_ret (v := tok7 1 0 0 (.slice none 0 0) ⟨#[]⟩ (f % 32) ⟨#[]⟩) (by simp [results, Tryd.results17, go_sem]) rfl ⟨by rw [HV], (((Below.refl _ _).alloc (by simp) _).alloc (by simp) _).alloc (by simp; try omega) _⟩

set_option maxHeartbeats 8000000 in
set_option maxRecDepth 100000 in
theorem draft4_any (K p r : Int) (pv iv : Value) (f : Int) (d : ByteArray) (w : World) (h0 : 0 ≤ K) (_h255 : K ≤ 255) (_hf0 : 0 ≤ f) (_hf1 : f ≤ 255) (hk : K % 6 = 4) :
    Calls Tryd.prog 17 #[drf K p r pv iv f d] w fun e w' => e = .returned (tok7 4 0 0 (.slice none 0 0) ⟨#[]⟩ 0 (strL (bytesD d))) ∧ Below w.heap.size w w' := by
  have hk2 : K.tmod 6 = 4 := by rw [Int.tmod_eq_emod_of_nonneg h0]; exact hk
  have HD0 := Lib.hid (ds_new w K p r pv iv f d 4)
  go_enter Tryd.func17, Tryd.ntmps17
  go_wp2_with fail
  refine (rbytes_any d _).mono ?_
  rintro e w2 ⟨rfl, b2⟩
  have HD2 := Lib.hid (HD0.out.on b2)
  have HD3 := Lib.hid (HD2.out.set6 (strL (bytesD d)))
  obtain ⟨_, ⟨hl1, ⟨c0, c1, c2, c3, c4, c5, c6⟩, _⟩, ⟨hl2, ⟨z0, z1, z2, z3, z4, z5, z6⟩, zf⟩, ⟨hl3, ⟨t0, t1, t2, t3, t4, t5, t6⟩, tf⟩⟩ := HD2.out
  have y6 := tf 6
  have x0 := zf 0
  have x1 := zf 1
  have x2 := zf 2
  have x3 := zf 3
  have x4 := zf 4
  have x5 := zf 5
  have x6 := zf 6
  clear b2
  go_wp2
  obtain ⟨HE1, HE2⟩ := ds_end HD3.out
  change bodyPost _ _ _ _ _ (put7 (w2.setCell ⟨w.heap.size + 2, 6, none⟩ (.string (strL (bytesD d)))) (w.heap.size + 1) (.int .i64 4) (.int .i32 0) (.int .u8 0) (.slice none 0 0) (.string ⟨#[]⟩) (.int .u8 0) (.string (strL (bytesD d))))
  generalize put7 (w2.setCell ⟨w.heap.size + 2, 6, none⟩ (.string (strL (bytesD d)))) (w.heap.size + 1) (.int .i64 4) (.int .i32 0) (.int .u8 0) (.slice none 0 0) (.string ⟨#[]⟩) (.int .u8 0) (.string (strL (bytesD d))) = wz at HE1 HE2 ⊢
  obtain ⟨_, ⟨r0, r1, r2, r3, r4, r5, r6⟩, _⟩ := HE1
  exact bodyPost_ret (v := tok7 4 0 0 (.slice none 0 0) ⟨#[]⟩ 0 (strL (bytesD d))) (by simp [results, Tryd.results17, go_sem, r0, r1, r2, r3, r4, r5, r6]) rfl ⟨rfl, HE2⟩
end Go.Proofs.YtclaopidjfekmaaDoor.Lab
