/- The method take; Sgr. -/
import Derived.Test.YtlmhnebgkginkaaDoorAtSev
namespace Go.Proofs.YtlmhnebgkginkaaDoor.Lab
open Go Go.RowKit

/-- What a number says, in the words of the mathematics. -/
def ActOk (a : At) (n : Int) : Option Sy → Prop
  | none => simpleM a n = a ∧ n ≠ 38 ∧ n ≠ 48
  | some .zero => simpleM a n = At.zero ∧ n ≠ 38 ∧ n ≠ 48
  | some (.flags s c) => simpleM a n = a.flags s c ∧ n ≠ 38 ∧ n ≠ 48
  | some (.idx bg m l) => n ≠ 38 ∧ n ≠ 48 ∧ ∃ k : Nat, n = k ∧ m + l ≤ k ∧ k ≤ m + l + 255 ∧ simpleM a n = a.setC bg (some ⟨1, ((k - m - l : Nat) : Int), 0, 0⟩)
  | some (.none bg) => simpleM a n = a.setC bg (some Cl.zero) ∧ n ≠ 38 ∧ n ≠ 48
  | some (.told bg) => n = if bg then 48 else 38
theorem sym_no (n : Int) (h : ∀ p ∈ NL, n ≠ ((p.1 : Nat) : Int)) : symL n NL = none := by
  have key : ∀ L : SyL, (∀ p ∈ L, n ≠ ((p.1 : Nat) : Int)) → symL n L = none := by
    intro L
    induction L with
    | nil => intro _; rfl
    | cons p t ih =>
      intro h
      unfold symL
      rw [if_neg (h p (by simp))]
      exact ih fun q hq => h q (by simp [hq])
  exact key NL h
set_option maxHeartbeats 4000000 in
theorem act_sym (a : At) (n : Int) : ActOk a n (symL (likeN n) NL) := by
  by_cases r1 : 30 ≤ n ∧ n ≤ 37
  · rw [show likeN n = 30 by unfold likeN; rw [if_pos r1], show symL 30 NL = some (.idx false 0 30) from rfl]
    refine ⟨by omega, by omega, n.toNat, by omega, by omega, by omega, ?_⟩
    unfold simpleM
    iterate 17 rw [if_neg (by omega)]
    rw [if_pos r1]
    have e : ((n.toNat - 0 - 30 : Nat) : Int) = n - 30 := by omega
    rw [e]
    rfl
  by_cases r2 : 40 ≤ n ∧ n ≤ 47
  · rw [show likeN n = 40 by unfold likeN; rw [if_neg r1, if_pos r2], show symL 40 NL = some (.idx true 10 30) from rfl]
    refine ⟨by omega, by omega, n.toNat, by omega, by omega, by omega, ?_⟩
    unfold simpleM
    iterate 19 rw [if_neg (by omega)]
    rw [if_pos r2]
    have e : ((n.toNat - 10 - 30 : Nat) : Int) = n - 40 := by omega
    rw [e]
    rfl
  by_cases r3 : 90 ≤ n ∧ n ≤ 97
  · rw [show likeN n = 90 by unfold likeN; rw [if_neg r1, if_neg r2, if_pos r3], show symL 90 NL = some (.idx false 0 82) from rfl]
    refine ⟨by omega, by omega, n.toNat, by omega, by omega, by omega, ?_⟩
    unfold simpleM
    iterate 21 rw [if_neg (by omega)]
    rw [if_pos r3]
    have e : ((n.toNat - 0 - 82 : Nat) : Int) = n - 82 := by omega
    rw [e]
    rfl
  by_cases r4 : 100 ≤ n ∧ n ≤ 107
  · rw [show likeN n = 100 by unfold likeN; rw [if_neg r1, if_neg r2, if_neg r3, if_pos r4], show symL 100 NL = some (.idx true 10 82) from rfl]
    refine ⟨by omega, by omega, n.toNat, by omega, by omega, by omega, ?_⟩
    unfold simpleM
    iterate 22 rw [if_neg (by omega)]
    rw [if_pos r4]
    have e : ((n.toNat - 10 - 82 : Nat) : Int) = n - 92 := by omega
    rw [e]
    rfl
  rw [show likeN n = n by unfold likeN; rw [if_neg r1, if_neg r2, if_neg r3, if_neg r4]]
  by_cases c0 : n = 0
  · subst c0
    rw [show symL 0 NL = some (.zero) from rfl]
    exact ⟨rfl, by decide, by decide⟩
  by_cases c1 : n = 1
  · subst c1
    rw [show symL 1 NL = some (.flags 1 0) from rfl]
    exact ⟨rfl, by decide, by decide⟩
  by_cases c2 : n = 2
  · subst c2
    rw [show symL 2 NL = some (.flags 2 0) from rfl]
    exact ⟨rfl, by decide, by decide⟩
  by_cases c3 : n = 3
  · subst c3
    rw [show symL 3 NL = some (.flags 4 0) from rfl]
    exact ⟨rfl, by decide, by decide⟩
  by_cases c4 : n = 4
  · subst c4
    rw [show symL 4 NL = some (.flags 8 256) from rfl]
    exact ⟨rfl, by decide, by decide⟩
  by_cases c5 : n = 5
  · subst c5
    rw [show symL 5 NL = some (.flags 16 0) from rfl]
    exact ⟨rfl, by decide, by decide⟩
  by_cases c7 : n = 7
  · subst c7
    rw [show symL 7 NL = some (.flags 32 0) from rfl]
    exact ⟨rfl, by decide, by decide⟩
  by_cases c8 : n = 8
  · subst c8
    rw [show symL 8 NL = some (.flags 64 0) from rfl]
    exact ⟨rfl, by decide, by decide⟩
  by_cases c9 : n = 9
  · subst c9
    rw [show symL 9 NL = some (.flags 128 0) from rfl]
    exact ⟨rfl, by decide, by decide⟩
  by_cases c21 : n = 21
  · subst c21
    rw [show symL 21 NL = some (.flags 256 8) from rfl]
    exact ⟨rfl, by decide, by decide⟩
  by_cases c22 : n = 22
  · subst c22
    rw [show symL 22 NL = some (.flags 0 3) from rfl]
    exact ⟨rfl, by decide, by decide⟩
  by_cases c23 : n = 23
  · subst c23
    rw [show symL 23 NL = some (.flags 0 4) from rfl]
    exact ⟨rfl, by decide, by decide⟩
  by_cases c24 : n = 24
  · subst c24
    rw [show symL 24 NL = some (.flags 0 264) from rfl]
    exact ⟨rfl, by decide, by decide⟩
  by_cases c25 : n = 25
  · subst c25
    rw [show symL 25 NL = some (.flags 0 16) from rfl]
    exact ⟨rfl, by decide, by decide⟩
  by_cases c27 : n = 27
  · subst c27
    rw [show symL 27 NL = some (.flags 0 32) from rfl]
    exact ⟨rfl, by decide, by decide⟩
  by_cases c28 : n = 28
  · subst c28
    rw [show symL 28 NL = some (.flags 0 64) from rfl]
    exact ⟨rfl, by decide, by decide⟩
  by_cases c29 : n = 29
  · subst c29
    rw [show symL 29 NL = some (.flags 0 128) from rfl]
    exact ⟨rfl, by decide, by decide⟩
  by_cases c39 : n = 39
  · subst c39
    rw [show symL 39 NL = some (.none false) from rfl]
    exact ⟨rfl, by decide, by decide⟩
  by_cases c49 : n = 49
  · subst c49
    rw [show symL 49 NL = some (.none true) from rfl]
    exact ⟨rfl, by decide, by decide⟩
  by_cases c38 : n = 38
  · subst c38
    rw [show symL 38 NL = some (.told false) from rfl]
    exact rfl
  by_cases c48 : n = 48
  · subst c48
    rw [show symL 48 NL = some (.told true) from rfl]
    exact rfl
  rw [sym_no n (by
    intro p hp
    simp only [NL, List.mem_cons, List.not_mem_nil, or_false] at hp
    rcases hp with rfl | rfl | rfl | rfl | rfl | rfl | rfl | rfl | rfl | rfl | rfl | rfl | rfl | rfl | rfl | rfl | rfl | rfl | rfl | rfl | rfl | rfl | rfl | rfl | rfl <;> simp only [] <;> omega)]
  refine ⟨?_, c38, c48⟩
  unfold simpleM
  iterate 17 rw [if_neg (by omega)]
  rw [if_neg r1, if_neg c39, if_neg r2, if_neg c49, if_neg r3, if_neg r4]

/-- Numbers of sixty-four bits. -/
def RowsI (P : Rws) : Prop := ∀ r ∈ P, ∀ x ∈ r, -9223372036854775808 ≤ x ∧ x ≤ 9223372036854775807
def TakeOut (w : World) (X : Nat → Prop) (B : Nat) (a : At) (row : List Int) (L : Rws) (e : Ending) (w' : World) : Prop :=
  e = .returned (.tuple #[]) ∧ ∃ v, RdAt w' B (stepM a row L).1 v ∧ MatAt w' X v (stepM a row L).2 ∧ But B w w'
theorem take_mk {w w' : World} {X : Nat → Prop} {B : Nat} {a a' : At} {row : List Int} {L L' : Rws} {v : Value} (hs : stepM a row L = (a', L')) (hR : RdAt w' B a' v) (hM : MatAt w' X v L') (hb : But B w w') : TakeOut w X B a row L (.returned (.tuple #[])) w' :=
  ⟨rfl, v, by rw [hs]; exact hR, by rw [hs]; exact hM, hb⟩
theorem onlyM_some {row : List Int} {n : Int} (h : onlyM row = some n) : ∃ x, row = [x] ∧ n = valM x := by
  unfold onlyM at h
  split at h
  · rename_i x
    exact ⟨x, rfl, by simpa using h.symm⟩
  · simp at h
theorem setC_false (a : At) (c : Option Cl) : a.setC false c = a.setFg c := rfl
theorem setC_true (a : At) (c : Option Cl) : a.setC true c = a.setBg c := rfl
set_option maxHeartbeats 1000000 in
set_option maxRecDepth 100000 in
theorem take_any (w : World) (X : Nat → Prop) (B M : Nat) (a : At) (v u : Value) (row : List Int) (L : Rws) (hXW : ∀ g, X g → g < w.heap.size) (hX : ¬ X B) (ha : a.fl < 65536) (hM : MapL w M NL) (hR : RdAt w B a v) (hL : MatAt w X v L) (h : NumsAt w X u row) (hi : ∀ x ∈ row, -9223372036854775808 ≤ x ∧ x ≤ 9223372036854775807) :
    Calls Tryd.prog 29 #[.pointer (some ⟨B, 0, none⟩), .map (some M), u] w (TakeOut w X B a row L) := by
  have C := Lib.hid (show Calls Tryd.prog 52 #[u] w fun e w' => e = .returned (.tuple #[.int .i64 ((onlyM row).getD 0), .bool (onlyM row).isSome]) ∧ Below w.heap.size w w' from only_any w X u row h)
  have HU := Lib.hid h
  have HM := Lib.hid hM
  have HR := Lib.hid hR
  have HL := Lib.hid hL
  have HI := Lib.hid hi
  obtain ⟨ua, uc, rfl⟩ := h.shape
  obtain ⟨un, hun⟩ : ∃ un, un = row.length := ⟨_, rfl⟩
  rw [← hun] at C HU ⊢
  clear hun h hM hR hL hi
  cases ho : onlyM row with
  | none =>
    have HST := Lib.hid (show stepM a row L = (severalM a row, L) by unfold stepM; rw [ho])
    rw [ho] at C
    clear ho
    go_enter Tryd.func29, Tryd.ntmps29
    go_wp2_with fail
    refine C.out.mono ?_
    rintro e w1 ⟨rfl, b1⟩
    have HL1 := Lib.hid (HL.out.below b1)
    have C2 := Lib.hid (several_any w1 X B M a v _ row ha (HM.out.below b1) (HR.out.below b1) (HU.out.below b1) HI.out)
    have HB1 := Lib.hid (But.of (B := B) b1)
    clear b1 C HM HR HU HL
    go_wp2_with fail
    refine C2.out.mono ?_
    rintro e w2 ⟨rfl, R2, b2⟩
    have HR2 := Lib.hid R2
    have HL2 := Lib.hid (HL1.out.but hX b2)
    have HB2 := Lib.hid (HB1.out.trans b2)
    clear R2 b2
    go_wp2
    go_end0
    exact take_mk HST.out HR2.out HL2.out HB2.out
  | some n =>
    rw [ho] at C
    obtain ⟨x, rfl, hn⟩ := onlyM_some ho
    have hx := HI.out x (by simp)
    have hn64 : -9223372036854775808 ≤ n ∧ n ≤ 9223372036854775807 := by
      rw [hn]
      unfold valM
      split <;> omega
    have HST := Lib.hid (show stepM a [x] L = if n = 38 then (a.setFg (colorM L), leftM L) else if n = 48 then (a.setBg (colorM L), leftM L) else (simpleM a n, L) by unfold stepM; rw [ho])
    have hl64 : -9223372036854775808 ≤ likeN n ∧ likeN n ≤ 9223372036854775807 := by
      unfold likeN
      repeat' split
      all_goals omega
    have HA := act_sym a n
    clear ho hn hx HI HU
    obtain ⟨ln, hln⟩ : ∃ ln, ln = likeN n := ⟨_, rfl⟩
    have HLN := Lib.hid hln
    rw [← hln] at HA hl64
    clear hln
    obtain ⟨sy0, hsy⟩ : ∃ s, s = symL ln NL := ⟨_, rfl⟩
    have HSY := Lib.hid hsy
    rw [← hsy] at HA
    have HA' := Lib.hid HA
    clear hsy HA
    go_enter Tryd.func29, Tryd.ntmps29
    go_wp2_with fail
    refine C.out.mono ?_
    rintro e w1 ⟨rfl, b1⟩
    replace HL := Lib.hid (HL.out.below b1)
    replace HM := Lib.hid (HM.out.below b1)
    replace HR := Lib.hid (HR.out.below b1)
    have hXW1 := Lib.hid (show ∀ g, X g → g < w1.heap.size from fun g hg => Nat.lt_of_lt_of_le (hXW g hg) b1.size)
    have HB := Lib.hid (But.of (B := B) b1)
    clear b1 C
    go_wp2_with fail
    refine (like_int n w1).mono ?_
    rintro e wx ⟨rfl, rfl⟩
    rw [← HLN.out]
    rcases HM.out.look ln hl64.1 hl64.2 with ⟨e, hk⟩ | ⟨sy, V, e, hV, hk, _⟩
    · have ha1 := HA'.out
      rw [HSY.out, e] at ha1
      obtain ⟨h1, h2, h3⟩ := ha1
      have HS2 := Lib.hid (show stepM a [x] L = (a, L) by rw [HST.out, if_neg h2, if_neg h3, h1])
      clear h1 h2 h3 HST HA' HSY e
      go_wp2
      go_end0
      exact take_mk HS2.out HR.out HL.out HB.out
    · have ha1 := HA'.out
      rw [HSY.out, e] at ha1
      clear HA' HSY e
      cases sy with
      | zero =>
        obtain rfl := hV
        obtain ⟨h1, h2, h3⟩ := ha1
        have HS2 := Lib.hid (show stepM a [x] L = (At.zero, L) by rw [HST.out, if_neg h2, if_neg h3, h1])
        clear h1 h2 h3 HST
        go_wp2_with fail
        refine (say_zero w1 B a v n HR.out).mono ?_
        rintro e w2 ⟨rfl, R2, b2⟩
        have HR2 := Lib.hid R2
        have HL2 := Lib.hid (HL.out.but hX b2)
        have HB2 := Lib.hid (HB.out.trans b2)
        clear R2 b2
        go_wp2
        go_end0
        exact take_mk HS2.out HR2.out HL2.out HB2.out
      | flags s c =>
        obtain ⟨f1, f2, b1, b2, rfl, x1, x2⟩ := hV
        obtain ⟨h1, h2, h3⟩ := ha1
        have HS2 := Lib.hid (show stepM a [x] L = (a.flags s c, L) by rw [HST.out, if_neg h2, if_neg h3, h1])
        have HX1 := Lib.hid x1
        have HX2 := Lib.hid x2
        clear h1 h2 h3 HST x1 x2
        go_wp2_with fail
        refine (say_flags w1 B a v n s c b1 b2 HR.out ha f1 f2 HX1.out HX2.out).mono ?_
        rintro e w2 ⟨rfl, R2, b2⟩
        have HR2 := Lib.hid R2
        have HL2 := Lib.hid (HL.out.but hX b2)
        have HB2 := Lib.hid (HB.out.trans b2)
        clear R2 b2
        go_wp2
        go_end0
        exact take_mk HS2.out HR2.out HL2.out HB2.out
      | idx bg m l =>
        obtain ⟨f1, f2, b1, b2, b3, rfl, x1, x2, x3⟩ := hV
        obtain ⟨h2, h3, k, rfl, g1, g2, h1⟩ := ha1
        have HS2 := Lib.hid (show stepM a [x] L = (a.setC bg (some ⟨1, ((k - m - l : Nat) : Int), 0, 0⟩), L) by rw [HST.out, if_neg h2, if_neg h3, h1])
        have HX1 := Lib.hid x1
        have HX2 := Lib.hid x2
        have HX3 := Lib.hid x3
        clear h1 h2 h3 HST x1 x2 x3 HLN
        go_wp2_with fail
        refine (say_idx w1 B a v k bg m l b1 b2 b3 HR.out g1 g2 f1 f2 HX1.out HX2.out HX3.out).mono ?_
        rintro e w2 ⟨rfl, R2, b2⟩
        have HR2 := Lib.hid R2
        have HL2 := Lib.hid (HL.out.but hX b2)
        have HB2 := Lib.hid (HB.out.trans b2)
        clear R2 b2
        go_wp2
        go_end0
        exact take_mk HS2.out HR2.out HL2.out HB2.out
      | none bg =>
        obtain ⟨b1, rfl, x1⟩ := hV
        obtain ⟨h1, h2, h3⟩ := ha1
        have HS2 := Lib.hid (show stepM a [x] L = (a.setC bg (some Cl.zero), L) by rw [HST.out, if_neg h2, if_neg h3, h1])
        have HX1 := Lib.hid x1
        clear h1 h2 h3 HST x1
        go_wp2_with fail
        refine (say_none w1 B a v n bg b1 HR.out HX1.out).mono ?_
        rintro e w2 ⟨rfl, R2, b2⟩
        have HR2 := Lib.hid R2
        have HL2 := Lib.hid (HL.out.but hX b2)
        have HB2 := Lib.hid (HB.out.trans b2)
        clear R2 b2
        go_wp2
        go_end0
        exact take_mk HS2.out HR2.out HL2.out HB2.out
      | told bg =>
        obtain ⟨b1, rfl, x1⟩ := hV
        have h1 : n = if bg then 48 else 38 := ha1
        have HS2 := Lib.hid (show stepM a [x] L = (a.setC bg (colorM L), leftM L) by
          rw [HST.out, h1]
          cases bg <;> rfl)
        have HX1 := Lib.hid x1
        clear h1 ha1 HST x1
        go_wp2_with fail
        refine (say_told w1 X B a v L n bg b1 hXW1.out HR.out HL.out hX HX1.out).mono ?_
        rintro e w2 ⟨rfl, ad, R2, M2, b2⟩
        have HR2 := Lib.hid R2
        have HL2 := Lib.hid M2
        have HB2 := Lib.hid (HB.out.trans b2)
        clear R2 b2 M2
        go_wp2
        go_end0
        exact take_mk HS2.out HR2.out HL2.out HB2.out

theorem MatAt.bound {w : World} {X : Nat → Prop} {v : Value} {R : Rws} (h : MatAt w X v R) : MatAt w (fun g => g < w.heap.size) v R := by
  obtain ⟨a, c, e, hc, hm, hh⟩ := h
  refine ⟨a, c, e, hc, hm, fun h0 => ?_⟩
  obtain ⟨g, o, ea, hx, hg, hcell⟩ := hh h0
  refine ⟨g, o, ea, hg, hg, fun j hj => ?_⟩
  obtain ⟨u, hu, a2, c2, e2, k1, k2, k3⟩ := hcell j hj
  refine ⟨u, hu, a2, c2, e2, k1, k2, fun h1 => ?_⟩
  obtain ⟨g2, o2, ea2, _, hg2, hc2⟩ := k3 h1
  exact ⟨g2, o2, ea2, hg2, hg2, hc2⟩
theorem RowsI.sub {P Q : Rws} (h : RowsI P) (k : ∀ r ∈ Q, r ∈ P) : RowsI Q := fun r hr => h r (k r hr)
theorem stepM_sub (a : At) (row : List Int) (L : Rws) : ∀ r ∈ (stepM a row L).2, r ∈ L := by
  have key : ∀ r ∈ leftM L, r ∈ L := fun r hr => List.mem_of_mem_drop (List.mem_of_mem_drop hr)
  unfold stepM
  split
  · exact fun r hr => hr
  · split
    · exact key
    · split
      · exact key
      · exact fun r hr => hr
end Go.Proofs.YtlmhnebgkginkaaDoor.Lab
