/- Num and Said, of parameters that the call has made; reads; the reference's comparison. -/
import Derived.Test.YtijnjeibnochpaaDoorPaWrite
namespace Go.Proofs.YtijnjeibnochpaaDoor.Lab
open Go.RowKit

def saidM (R : Rws) (i : Nat) (o : Int) : Int := if i < R.length then (if (R.getD i []).getD 0 0 = -1 then o else (R.getD i []).getD 0 0) else o
def nuM (R : Rws) (i : Nat) (o : Int) : Int := if saidM R i o = 0 then o else saidM R i o

theorem ret_int {k : IntKind} {a b : Int} (h : a = b) : Ending.returned (.int k a) = .returned (.int k b) := by rw [h]
def AtOut (w : World) (lo : Nat) (R : Rws) (i : Nat) (e : Ending) (w' : World) : Prop := w = w' ∧ ∃ g c, e = .returned (.slice (some ⟨g, 0, none⟩) (R.getD i []).length c) ∧ IntsAt w lo (.slice (some ⟨g, 0, none⟩) (R.getD i []).length c) (R.getD i [])
set_option maxHeartbeats 1000000 in
theorem at_in (w : World) (lo g c n i : Nat) (R : Rws) (hi : i < n) (h : ∃ u, w.cell? ⟨g, i, none⟩ = some u ∧ IntsAt w lo u (R.getD i [])) :
    Calls Tryd.prog 40 #[.slice (some ⟨g, 0, none⟩) n c, .int .i64 i] w (AtOut w lo R i) := by
  obtain ⟨u, a1, I⟩ := h
  obtain ⟨g', c', cur, rfl, _⟩ := I.open
  have HI := Lib.hid I
  clear I
  obtain ⟨m, hm⟩ : ∃ m, (R.getD i []).length = m := ⟨_, rfl⟩
  rw [hm] at a1
  have HM := Lib.hid hm
  clear hm
  have d1 : decide (n ≤ i) = false := by simp; omega
  go_enter Tryd.func40, Tryd.ntmps40
  go_wp2
  go_ret
  refine ⟨rfl, g', c', ?_, HI.out⟩
  rw [HM.out]
  rfl
set_option maxHeartbeats 1000000 in
theorem at_past (w : World) (g c n i : Nat) (hi : n ≤ i) :
    Calls Tryd.prog 40 #[.slice (some ⟨g, 0, none⟩) n c, .int .i64 i] w fun e w' => e = .returned (.slice none 0 0) ∧ w = w' := by
  have d1 : decide (n ≤ i) = true := by simp; omega
  go_enter Tryd.func40, Tryd.ntmps40
  go_wp2
  go_ret
  exact ⟨rfl, rfl⟩

set_option maxHeartbeats 1000000 in
theorem said_any (w : World) (lo : Nat) (v : Value) (R : Rws) (i : Nat) (o : Int) (h : RowsAt w lo v R) (hne : R ≠ []) (hok : ∀ r ∈ R, okRow r) :
    Calls Tryd.prog 22 #[v, .int .i64 i, .int .i64 o] w fun e w' => e = .returned (.int .i64 (saidM R i o)) ∧ w = w' := by
  rcases h.open with ⟨rfl, e⟩ | ⟨g, c, rfl, _, hg, _, _, k1⟩
  · exact absurd e hne
  by_cases hlt : i < R.length
  · have C := Lib.hid (at_in w lo g c R.length i R hlt (k1 i hlt))
    have hr := hok _ (getD_mem [] hlt)
    obtain ⟨q, hq⟩ : ∃ q, R.getD i [] = q := ⟨_, rfl⟩
    have hs : saidM R i o = if q.getD 0 0 = -1 then o else q.getD 0 0 := by rw [saidM, if_pos hlt, hq]
    rw [hq] at hr
    have HS := Lib.hid hs
    have HQ := Lib.hid hq
    have h1 : 0 < q.length := hr.1
    obtain ⟨x, hx⟩ : ∃ x, q.getD 0 0 = x := ⟨_, rfl⟩
    have HX := Lib.hid hx
    clear hs hq hr hx k1 h
    go_enter Tryd.func22, Tryd.ntmps22
    go_wp2_with fail
    refine C.out.mono ?_
    rintro e w1 ⟨rfl, g', c', rfl, I⟩
    obtain ⟨g2, c2, cur, e2, _, _, _, _, k1, _⟩ := I.open
    rw [HQ.out] at e2 k1
    have k0 := k1 0 h1
    rw [HX.out] at k0
    obtain ⟨rfl, _⟩ : g' = g2 ∧ c' = c2 := by simpa using e2
    have HL := Lib.hid (congrArg List.length HQ.out)
    rw [HL.out]
    generalize q.length = m at *
    clear e2 k1 I C
    have e3 : ((m : Int) == 0) = false := by simp; omega
    by_cases hx1 : x = -1
    · subst hx1
      go_wp2
      go_ret
      exact ⟨ret_int (show o = saidM R i o by rw [HS.out, HX.out, if_pos rfl]), rfl⟩
    · have e4 : (x == -1) = false := by simp; omega
      go_wp2
      go_ret
      exact ⟨ret_int (show x = saidM R i o by rw [HS.out, HX.out, if_neg hx1]), rfl⟩
  · have C := Lib.hid (at_past w g c R.length i (by omega))
    have HS := Lib.hid (show saidM R i o = o by rw [saidM, if_neg hlt])
    clear k1 h
    go_enter Tryd.func22, Tryd.ntmps22
    go_wp2_with fail
    refine C.out.mono ?_
    rintro e w1 ⟨rfl, rfl⟩
    go_wp2
    go_ret
    exact ⟨ret_int (show o = saidM R i o by rw [HS.out]), rfl⟩

set_option maxHeartbeats 1000000 in
theorem num_any (w : World) (lo : Nat) (v : Value) (R : Rws) (i : Nat) (o : Int) (h : RowsAt w lo v R) (hne : R ≠ []) (hok : ∀ r ∈ R, okRow r) :
    Calls Tryd.prog 21 #[v, .int .i64 i, .int .i64 o] w fun e w' => e = .returned (.int .i64 (nuM R i o)) ∧ w = w' := by
  have C := Lib.hid (said_any w lo v R i o h hne hok)
  obtain ⟨x, hx⟩ : ∃ x, saidM R i o = x := ⟨_, rfl⟩
  have HS := Lib.hid (show nuM R i o = if x = 0 then o else x by rw [nuM, hx])
  rw [hx] at C
  clear hx h hok hne
  go_enter Tryd.func21, Tryd.ntmps21
  go_wp2_with fail
  refine C.out.mono ?_
  rintro e w1 ⟨rfl, rfl⟩
  by_cases hx0 : x = 0
  · subst hx0
    go_wp2
    go_ret
    exact ⟨ret_int (show o = nuM R i o by rw [HS.out]; simp), rfl⟩
  · have e4 : (x == 0) = false := by simp; omega
    have e5 : (x != 0) = true := by simp; omega
    go_wp2
    go_ret
    exact ⟨ret_int (show x = nuM R i o by rw [HS.out, if_neg hx0]), rfl⟩

set_option maxHeartbeats 1000000 in
theorem reads_any (s : ByteArray) (hs : s.size ≤ maxLen) (hg : AllGood s) (w : World) (lo : Nat) (v : Value) (h : RowsAt w lo v (parsed s.data.toList)) :
    Calls Tryd.prog 13 #[.string s, v] w fun e w' => e = .returned (.bool true) ∧ Below w.heap.size w w' := by
  have C := Lib.hid (parse_ok s hs hg w)
  have HR := Lib.hid h
  clear hg h
  go_enter Tryd.func13, Tryd.ntmps13
  go_wp2_with fail
  refine C.out.mono ?_
  rintro e w1 ⟨v1, rfl, R1, b1⟩
  have C2 := Lib.hid (same_at R1 (HR.out.below b1))
  have HB := Lib.hid b1
  clear R1 b1 C HR
  go_wp2_with fail
  refine C2.out.mono ?_
  rintro e w2 ⟨rfl, m, rfl⟩
  go_wp2
  go_ret
  exact ⟨rfl, HB.out.trans ⟨rfl, rfl, rfl, Nat.le_refl _, fun _ _ => rfl⟩⟩

set_option maxHeartbeats 1000000 in
theorem parsed_any (s : ByteArray) (hs : s.size ≤ maxLen) (hg : AllGood s) (w : World) :
    Calls Tryd.prog 20 #[.string s] w (RowsOut w (parsed s.data.toList)) := by
  have C := Lib.hid (parse_ok s hs hg w)
  clear hg
  go_enter Tryd.func20, Tryd.ntmps20
  go_wp2_with fail
  refine C.out.mono ?_
  rintro e w1 ⟨v1, rfl, R1, b1⟩
  have HR := Lib.hid R1
  have HB := Lib.hid b1
  clear R1 b1 C
  go_wp2
  go_ret
  exact ⟨v1, rfl, HR.out, HB.out⟩

theorem IntsAt.lit (w : World) (lo n b : Nat) (r : List Int) (hn : n = r.length) (hb : b = w.heap.size) (hlo : lo ≤ w.heap.size) (hm : r.length ≤ maxLen) : IntsAt (w.alloc (.cells (intsV r).toArray 3)) lo (.slice (some ⟨b, 0, none⟩) n n) r := by
  subst hn hb
  refine ⟨?_, by simp⟩
  have := World.ownsRow_lit (base := lo) (e := 3) (size := 1) w (intsV r).toArray r.length hlo hm (by simp)
  simpa using this
theorem IntsAt.past {w : World} {lo : Nat} {v : Value} {r : List Int} (h : IntsAt w lo v r) (o : Obj) : IntsAt (w.alloc o) lo v r := h.below ((Below.refl _ _).alloc (Nat.le_refl _) _)
theorem RowsAt.past {w : World} {lo : Nat} {v : Value} {R : Rws} (h : RowsAt w lo v R) (o : Obj) : RowsAt (w.alloc o) lo v R := h.below ((Below.refl _ _).alloc (Nat.le_refl _) _)
theorem RowsAt.lit (w : World) (lo n b : Nat) (us : List Value) (R : Rws) (hn : n = R.length) (hu : us.length = R.length) (hb : b = w.heap.size) (hlo : lo ≤ w.heap.size) (hm : R.length ≤ maxLen) (h : ∀ i, i < R.length → IntsAt w lo (us.getD i undef) (R.getD i [])) :
    RowsAt (w.alloc (.cells us.toArray 33)) lo (.slice (some ⟨b, 0, none⟩) n n) R := by
  subst hn hb
  refine ⟨us, ?_, fun i hi => (h i hi).past _⟩
  have := World.ownsRow_lit (base := lo) (e := 33) (size := 1) w us.toArray R.length hlo hm (by simp [hu])
  simpa using this
end Go.Proofs.YtijnjeibnochpaaDoor.Lab
