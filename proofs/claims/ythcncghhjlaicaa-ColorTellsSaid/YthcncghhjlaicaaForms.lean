/- What the three ways to read a spec answer to any text. -/
import Derived.Test.YthcncghhjlaicaaCut
import Derived.Deep.RegionHeld3
import Derived.IntWalk
namespace Go.Proofs.Ythcncghhjlaicaa.Lab
open Go.RowKit

def hashB (d : Nat) (l : List UInt8) : Bool := Lib.hasPrefix l [35] && (decide ((l.drop 1).length = 3 * d) && rowsB ((l.drop 1).take d) (((l.drop 1).drop d).take d) ((l.drop 1).drop (2 * d)))
def hashV (d : Nat) (l : List UInt8) : Nat × Nat × Nat := if hashB d l = true then rowsV ((l.drop 1).take d) (((l.drop 1).drop d).take d) ((l.drop 1).drop (2 * d)) else (0, 0, 0)

def FormPost (v : Nat × Nat × Nat) (b : Bool) (w : World) (e : Ending) (w' : World) : Prop := e = .returned (.tuple #[valT v, .bool b]) ∧ Below w.heap.size w w'

theorem hash_none {d : Nat} {l : List UInt8} (h : hashB d l = false) {e : Ending} {w w' : World} (he : e = .returned (.tuple #[val 0 0 0, .bool false])) (hb : Below w.heap.size w w') : FormPost (hashV d l) (hashB d l) w e w' := by
  refine ⟨?_, hb⟩
  rw [he, h]
  unfold hashV
  rw [h]
  rfl

theorem rowsV_none {a b c : List UInt8} (h : rowsB a b c = false) : rowsV a b c = (0, 0, 0) := by unfold rowsV; rw [h]; rfl

theorem hash_some {d : Nat} {l : List UInt8} (h1 : Lib.hasPrefix l [35] = true) (h2 : (l.drop 1).length = 3 * d) {e : Ending} {w w' : World} {a b c : List UInt8} (ha : (l.drop 1).take d = a) (hbb : ((l.drop 1).drop d).take d = b) (hc : (l.drop 1).drop (2 * d) = c) (he : e = .returned (.tuple #[valT (rowsV a b c), .bool (rowsB a b c)])) (hb : Below w.heap.size w w') : FormPost (hashV d l) (hashB d l) w e w' := by
  have e1 : hashB d l = rowsB a b c := by unfold hashB; rw [h1, decide_eq_true h2, ha, hbb, hc]; simp
  refine ⟨?_, hb⟩
  rw [he]
  unfold hashV
  rw [e1, ha, hbb, hc]
  cases h : rowsB a b c
  · rw [rowsV_none h]; rfl
  · rfl

theorem rows_of {s1 s2 s3 : ByteArray} {a b c : List UInt8} (h1 : s1.size ≤ maxLen) (h2 : s2.size ≤ maxLen) (h3 : s3.size ≤ maxLen) (e1 : Hid (s1.data.toList = a)) (e2 : Hid (s2.data.toList = b)) (e3 : Hid (s3.data.toList = c)) (w : World) :
    Calls Try.prog 34 #[.string s1, .string s2, .string s3] w (RowsPost a b c w) := by
  have h := rows_any s1 s2 s3 h1 h2 h3 w
  rw [e1.out, e2.out, e3.out] at h
  exact h

theorem trim_hit {l p : List UInt8} (h : Lib.hasPrefix l p = true) : Lib.trimPrefix l p = l.drop p.length := by unfold Lib.trimPrefix; rw [h]; rfl
theorem trim_miss {l p : List UInt8} (h : Lib.hasPrefix l p = false) : Lib.trimPrefix l p = l := by unfold Lib.trimPrefix; rw [h]; rfl

/-- A value of three parts lies at the head of a block, and can be written. -/
def V3 (w : World) (b : Nat) (x y z : Int) : Prop :=
  b < w.heap.size ∧ (w.cell? ⟨b, 0, none⟩ = some (.int .u16 x) ∧ w.cell? ⟨b, 1, none⟩ = some (.int .u16 y) ∧ w.cell? ⟨b, 2, none⟩ = some (.int .u16 z)) ∧ ∀ i, w.frozen? ⟨b, i, none⟩ = false

theorem V3.drew {w : World} {b : Nat} {x y z : Int} (h : V3 w b x y z) : V3 w.drew b x y z := h
theorem V3.past {w : World} {b : Nat} {x y z : Int} (h : V3 w b x y z) (o : Obj) : V3 (w.alloc o) b x y z := by
  obtain ⟨h0, ⟨h1, h2, h3⟩, h4⟩ := h
  refine ⟨by simp; omega, ⟨?_, ?_, ?_⟩, fun i => ?_⟩
  · rw [World.cell?_alloc_past _ _ _ h0]; exact h1
  · rw [World.cell?_alloc_past _ _ _ h0]; exact h2
  · rw [World.cell?_alloc_past _ _ _ h0]; exact h3
  · rw [World.frozen?_alloc_past _ _ _ h0]; exact h4 i
theorem V3.below {w w' : World} {b : Nat} {x y z : Int} (h : V3 w b x y z) (hb : Below w.heap.size w w') : V3 w' b x y z := by
  obtain ⟨h0, ⟨h1, h2, h3⟩, h4⟩ := h
  exact ⟨Nat.lt_of_lt_of_le h0 hb.size, ⟨(hb.cell (p := ⟨b, 0, none⟩) h0).trans h1, (hb.cell (p := ⟨b, 1, none⟩) h0).trans h2, (hb.cell (p := ⟨b, 2, none⟩) h0).trans h3⟩, fun i => (hb.frozen (p := ⟨b, i, none⟩) h0).trans (h4 i)⟩
theorem V3.newAt (w : World) (n : Nat) (hn : n = w.heap.size) (x y z : Int) (T : TypeId) : V3 (w.alloc (.cells #[.int .u16 x, .int .u16 y, .int .u16 z] T)) n x y z := by
  subst hn
  refine ⟨by simp, ⟨?_, ?_, ?_⟩, fun i => World.frozen?_alloc_at _ _ _ _ rfl⟩ <;> (rw [World.cell?_alloc_at _ _ _ _ rfl]; rfl)

/-- What the walk reads of it. -/
def V3S (w : World) (b : Nat) (x y z : Int) : Prop := (w.cell? ⟨b, 0, none⟩ = some (.int .u16 x) ∧ w.cell? ⟨b, 1, none⟩ = some (.int .u16 y) ∧ w.cell? ⟨b, 2, none⟩ = some (.int .u16 z)) ∧ w.frozen? ⟨b, 0, none⟩ = false ∧ w.frozen? ⟨b, 1, none⟩ = false ∧ w.frozen? ⟨b, 2, none⟩ = false
theorem V3.s {w : World} {b : Nat} {x y z : Int} (h : V3 w b x y z) : V3S w b x y z := ⟨h.2.1, h.2.2 0, h.2.2 1, h.2.2 2⟩

theorem cell_set3 {w : World} {B H : Nat} (ne : ¬ B = H) {v : Option Value} (h : w.cell? ⟨B, 0, none⟩ = v) (x y z : Value) : (((w.setCell ⟨H, 0, none⟩ x).setCell ⟨H, 1, none⟩ y).setCell ⟨H, 2, none⟩ z).cell? ⟨B, 0, none⟩ = v := by
  have k : ∀ (w : World) (i : Nat) (u : Value), (w.setCell ⟨H, i, none⟩ u).cell? ⟨B, 0, none⟩ = w.cell? ⟨B, 0, none⟩ := fun w i u => World.cell?_of_block (Below.heap_setCell w _ u B ne)
  rw [k, k, k, h]

/-- The captured number, and the result's cells, as they lie while the call runs. -/
def Hb (w0 w : World) (B H : Nat) (d : Int) : Prop :=
  (w.cell? ⟨B, 0, none⟩ = some (.int .i64 d) ∧ V3 w H 0 0 0) ∧ B < w.heap.size ∧ Below w0.heap.size w0 w ∧ w0.heap.size ≤ H

theorem Hb.all {w0 w : World} {B H : Nat} {d : Int} (h : Hb w0 w B H d) : w.cell? ⟨B, 0, none⟩ = some (.int .i64 d) ∧ (w.cell? ⟨H, 0, none⟩ = some (.int .u16 0) ∧ w.cell? ⟨H, 1, none⟩ = some (.int .u16 0) ∧ w.cell? ⟨H, 2, none⟩ = some (.int .u16 0)) ∧ w.frozen? ⟨H, 0, none⟩ = false ∧ w.frozen? ⟨H, 1, none⟩ = false ∧ w.frozen? ⟨H, 2, none⟩ = false := ⟨h.1.1, h.1.2.s⟩
theorem Hb.drew {w0 w : World} {B H : Nat} {d : Int} (h : Hb w0 w B H d) : Hb w0 w.drew B H d := ⟨h.1, h.2.1, h.2.2.1.drew, h.2.2.2⟩
theorem Hb.step {w0 w w' : World} {B H : Nat} {d : Int} (h : Hb w0 w B H d) (hb : Below w.heap.size w w') : Hb w0 w' B H d := by
  obtain ⟨⟨c1, c2⟩, b1, b3, b4⟩ := h
  exact ⟨⟨(hb.cell (p := ⟨B, 0, none⟩) b1).trans c1, c2.below hb⟩, Nat.lt_of_lt_of_le b1 hb.size, bstep b3 hb, b4⟩
theorem Hb.start (w : World) (B : Nat) (d : Int) (T : TypeId) (hB : B < w.heap.size) (hc : w.cell? ⟨B, 0, none⟩ = some (.int .i64 d)) : Hb w (w.alloc (.cells #[.int .u16 0, .int .u16 0, .int .u16 0] T)) B w.heap.size d := by
  refine ⟨⟨?_, V3.newAt _ _ rfl _ _ _ _⟩, by simp; omega, (Below.refl _ _).alloc (Nat.le_refl _) _, Nat.le_refl _⟩
  rw [World.cell?_alloc_past _ _ _ hB]; exact hc

set_option maxHeartbeats 2000000 in
theorem hash_any (d : Nat) (hd : d = 1 ∨ d = 2) (s : ByteArray) (hs : s.size ≤ maxLen) (B : Nat) (w : World) (hB : B < w.heap.size) (hc : w.cell? ⟨B, 0, none⟩ = some (.int .i64 d)) :
    Calls Try.prog 32 #[.string s, .pointer (some ⟨B, 0, none⟩)] w (FormPost (hashV d s.data.toList) (hashB d s.data.toList) w) := by
  cases hp : Lib.hasPrefix s.data.toList [35]
  · have ht := trim_miss hp
    have HP := Lib.hid hp
    have HT := Lib.hid ht
    clear hp ht
    go_enter Try.func32, Try.ntmps32
    go_wp2_with fail
    refine (Try.strings_CutPrefix _ _ _).mono ?_
    rintro e w' ⟨rfl, rfl⟩
    rw [HP.out, HT.out]
    go_wp2
    refine bodyPost_ret (v := .tuple #[val 0 0 0, .bool false]) (by simp [results, Try.results32, go_sem]) rfl (hash_none (by unfold hashB; rw [HP.out]; rfl) rfl ?_)
    exact (Below.refl _ _).alloc (Nat.le_refl _) _
  · have ht := trim_hit hp
    have HP := Lib.hid hp
    have HT := Lib.hid ht
    clear hp ht
    generalize hr : s.data.toList.drop [35].length = r at HT
    by_cases hl : r.length = 3 * d
    · have HR := Lib.hid hr
      clear hr
      obtain ⟨t, ht, htl⟩ : ∃ t : ByteArray, (⟨r.toArray⟩ : ByteArray) = t ∧ t.data.toList = r := ⟨_, rfl, rfl⟩
      have hts : t.size = 3 * d := by rw [Lib.size_eq, htl]; exact hl
      have hl' : ((t.size : Int) == 3 * (d : Int)) = true := by simp; omega
      have hl2 : ((t.size : Int) != 3 * (d : Int)) = false := by simp; omega
      have hsz : t.size ≤ maxLen := by rw [hts]; unfold maxLen; omega
      have z1 : (t.extract 0 d).size ≤ maxLen := by simp; omega
      have z2 : (t.extract d (2 * d)).size ≤ maxLen := by simp; omega
      have z3 : (t.extract (2 * d) t.size).size ≤ maxLen := by simp; omega
      have q1 : (t.extract 0 d).data.toList = r.take d := by rw [Lib.extract_data, htl]; rfl
      have q2 : (t.extract d (2 * d)).data.toList = (r.drop d).take d := by rw [Lib.extract_data, htl, show 2 * d - d = d from by omega]
      have q3 : (t.extract (2 * d) t.size).data.toList = r.drop (2 * d) := by rw [Lib.extract_data, htl, List.take_of_length_le (by simp; omega)]
      have HT2 := Lib.hid ht
      obtain ⟨a, ha⟩ : ∃ a, r.take d = a := ⟨_, rfl⟩
      obtain ⟨b, hb⟩ : ∃ b, (r.drop d).take d = b := ⟨_, rfl⟩
      obtain ⟨c, hcc⟩ : ∃ c, r.drop (2 * d) = c := ⟨_, rfl⟩
      have Q1 := Lib.hid (q1.trans ha)
      have Q2 := Lib.hid (q2.trans hb)
      have Q3 := Lib.hid (q3.trans hcc)
      have A1 := Lib.hid ha
      have A2 := Lib.hid hb
      have A3 := Lib.hid hcc
      clear ht htl q1 q2 q3 ha hb hcc
      have c0 : (0 : Int) ≤ (d : Int) := by omega
      have c1 : (d : Int) ≤ (t.size : Int) := by omega
      have c2 : (d : Int) ≤ 2 * (d : Int) := by omega
      have c3 : 2 * (d : Int) ≤ (t.size : Int) := by omega
      have c4 : (0 : Int) ≤ 2 * (d : Int) := by omega
      have c5 : (3 : Int) * (d : Int) ≤ 6 := by omega
      have HL := Lib.hid hl
      have HTS := Lib.hid hts
      clear hl hts
      go_enter Try.func32, Try.ntmps32
      go_wp2_with fail
      refine (Try.strings_CutPrefix _ _ _).mono ?_
      rintro e w' ⟨rfl, rfl⟩
      rw [HP.out, HT.out, HT2.out]
      go_wp2
      have m1 : IntKind.i64.wrap (2 * (d : Int)) = 2 * (d : Int) := IntWalk.i64_in _ (by omega)
      have m2 : (2 * (d : Int)).toNat = 2 * d := by omega
      have HG : Hid (Hb w (w.alloc (.cells #[.int .u16 0, .int .u16 0, .int .u16 0] 35)) B w.heap.size d) := Lib.hid (Hb.start w B d _ hB hc)
      have ne1 : ¬ B = w.heap.size := by omega
      have ne2 : ¬ w.heap.size = B := by omega
      go_region_held3 (fun w' => w'.cell? ⟨B, 0, none⟩ = some (.int .i64 d))
        (first | exact (Hb.step (Hb.drew (Hid.out HG)) hb6).1.1 | exact (Hb.drew (Hid.out HG)).1.1 | exact cell_set3 ne1 (Hb.step (Hb.drew (Hid.out HG)) hb6).1.1 _ _ _)
        ((go_at_call 34; refine (rows_of z1 z2 z3 Q1 Q2 Q3 _).mono ?_; rintro e w6 ⟨rfl, hb6⟩; obtain ⟨s1, ⟨s2, s3, s4⟩, s5, s6, s7⟩ := Hb.all (Hb.step (Hb.drew (Hid.out HG)) hb6)))
      go_wp2
      refine bodyPost_ret (v := .tuple #[valT (rowsV a b c), .bool (rowsB a b c)]) (by simp [results, Try.results32, go_sem, s2, s3, s4]) rfl (hash_some HP.out (by rw [show (s.data.toList.drop 1) = r from HR.out]; exact HL.out) (a := a) (b := b) (c := c) (by rw [show (s.data.toList.drop 1) = r from HR.out]; exact A1.out) (by rw [show (s.data.toList.drop 1) = r from HR.out]; exact A2.out) (by rw [show (s.data.toList.drop 1) = r from HR.out]; exact A3.out) rfl ?_)
      have hbb := (Hb.step (Hb.drew (Hid.out HG)) hb6).2.2
      exact ((hbb.1.setCell (by simp) _).setCell (by simp) _).setCell (by simp) _
    · have HR := Lib.hid hr
      clear hr
      go_enter Try.func32, Try.ntmps32
      go_wp2_with fail
      refine (Try.strings_CutPrefix _ _ _).mono ?_
      rintro e w' ⟨rfl, rfl⟩
      rw [HP.out, HT.out]
      go_wp2
      refine bodyPost_ret (v := .tuple #[val 0 0 0, .bool false]) (by simp [results, Try.results32, go_sem]) rfl (hash_none (by unfold hashB; rw [show (s.data.toList.drop 1) = r from HR.out, decide_eq_false hl]; simp) rfl ?_)
      exact (Below.refl _ _).alloc (Nat.le_refl _) _
end Go.Proofs.Ythcncghhjlaicaa.Lab
