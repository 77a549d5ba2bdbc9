/- The rest of rows, what is taken of a reading, the parts of a colour, the colour that parts make. -/
import Derived.Test.YtlmhnebgkginkaaDoorAtSmall
import Derived.Test.YtlmhnebgkginkaaDoorPaWrite
namespace Go.Proofs.YtlmhnebgkginkaaDoor.Lab
open Go Go.RowKit

theorem szI : ∀ w, (sizeOf 3).run Tryd.prog w = .ok 1 w := fun _ => by kernel_rfl
theorem szR : ∀ w, (sizeOf 50).run Tryd.prog w = .ok 1 w := fun _ => by kernel_rfl
def RestOut (w : World) (X : Nat → Prop) (R : Rws) (e : Ending) (w' : World) : Prop := w = w' ∧ ∃ a, e = .returned (.slice a R.length R.length) ∧ MatAt w X (.slice a R.length R.length) R
set_option maxHeartbeats 1000000 in
theorem rest_rows (w : World) (X : Nat → Prop) (a : Option Addr) (n c k : Nat) (R : Rws) (h : MatAt w X (.slice a n c) R) (hk : k ≤ R.length) :
    Calls Tryd.prog 55 #[.slice a n c, .int .i64 k] w (RestOut w X (R.drop k)) := by
  obtain ⟨a', c', e, hc, hm, _⟩ := id h
  injection e with e1 e2 e3
  subst e1 e2 e3
  have hm' := hm
  unfold maxLen at hm'
  have s1 := fun w => slice_mid Tryd.underlying27 (by kernel_rfl) szR a R.length c k hk hc w
  have HD := Lib.hid (show MatAt w X (.slice (if R.length - k = 0 then a else a.map fun x => x.add k) (R.length - k) (R.length - k)) (R.drop k) by
    by_cases h0 : R.length - k = 0
    · have : R.drop k = [] := List.drop_eq_nil_of_le (by omega)
      rw [this, h0]
      exact MatAt.nil _ _ _ _
    · rw [if_neg h0]
      obtain ⟨g, o, c2, e, _⟩ := h.open (by omega)
      injection e with e1 e2 e3
      subst e1
      have := h.drop (k := k) (by omega)
      have ea : (some (⟨g, o, none⟩ : Addr)).map (fun x => x.add k) = some ⟨g, o + k, none⟩ := by rw [Option.map_some, Addr.add_mid]
      rw [ea]
      exact this)
  have HL := Lib.hid (show (R.drop k).length = R.length - k from List.length_drop)
  generalize (if R.length - k = 0 then a else a.map fun x => x.add k) = b at *
  generalize R.length = n at *
  clear h hc
  go_enter Tryd.func55, Tryd.ntmps55
  go_wp2
  go_ret
  exact ⟨rfl, b, by rw [HL.out]; rfl, by rw [HL.out]; exact HD.out⟩
def RestN (w : World) (X : Nat → Prop) (R : List Int) (e : Ending) (w' : World) : Prop := w = w' ∧ ∃ a, e = .returned (.slice a R.length R.length) ∧ NumsAt w X (.slice a R.length R.length) R
set_option maxHeartbeats 1000000 in
theorem rest_ints (w : World) (X : Nat → Prop) (a : Option Addr) (n c k : Nat) (R : List Int) (h : NumsAt w X (.slice a n c) R) (hk : k ≤ R.length) :
    Calls Tryd.prog 81 #[.slice a n c, .int .i64 k] w (RestN w X (R.drop k)) := by
  obtain ⟨a', c', e, hc, hm, _⟩ := id h
  injection e with e1 e2 e3
  subst e1 e2 e3
  have hm' := hm
  unfold maxLen at hm'
  have s1 := fun w => slice_mid Tryd.underlying50 (by kernel_rfl) szI a R.length c k hk hc w
  have HD := Lib.hid (show NumsAt w X (.slice (if R.length - k = 0 then a else a.map fun x => x.add k) (R.length - k) (R.length - k)) (R.drop k) by
    by_cases h0 : R.length - k = 0
    · have : R.drop k = [] := List.drop_eq_nil_of_le (by omega)
      rw [this, h0]
      exact NumsAt.nil _ _ _ _
    · rw [if_neg h0]
      obtain ⟨g, o, c2, e, _⟩ := h.open (by omega)
      injection e with e1 e2 e3
      subst e1
      have := h.drop (k := k) (by omega)
      have ea : (some (⟨g, o, none⟩ : Addr)).map (fun x => x.add k) = some ⟨g, o + k, none⟩ := by rw [Option.map_some, Addr.add_mid]
      rw [ea]
      exact this)
  have HL := Lib.hid (show (R.drop k).length = R.length - k from List.length_drop)
  generalize (if R.length - k = 0 then a else a.map fun x => x.add k) = b at *
  generalize R.length = n at *
  clear h hc
  go_enter Tryd.func81, Tryd.ntmps81
  go_wp2
  go_ret
  exact ⟨rfl, b, by rw [HL.out]; rfl, by rw [HL.out]; exact HD.out⟩

def NextOut (w : World) (X : Nat → Prop) (B : Nat) (a : At) (k : Nat) (L : Rws) (e : Ending) (w' : World) : Prop :=
  ∃ a1 a2, e = .returned (.slice a1 (L.take k).length (L.take k).length) ∧ MatAt w' X (.slice a1 (L.take k).length (L.take k).length) (L.take k) ∧ RdAt w' B a (.slice a2 (L.drop k).length (L.drop k).length) ∧ MatAt w' X (.slice a2 (L.drop k).length (L.drop k).length) (L.drop k) ∧ But B w w'
set_option maxHeartbeats 2000000 in
theorem next_any (w : World) (X : Nat → Prop) (B : Nat) (at1 : At) (a : Option Addr) (n c k : Nat) (L : Rws) (hR : RdAt w B at1 (.slice a n c)) (h : MatAt w X (.slice a n c) L) (hX : ¬ X B) :
    Calls Tryd.prog 30 #[.pointer (some ⟨B, 0, none⟩), .int .i64 k] w (NextOut w X B at1 k L) := by
  obtain ⟨a', c', e, hc, hm, _⟩ := id h
  injection e with e1 e2 e3
  subst e1 e2 e3
  have hm' := hm
  unfold maxLen at hm'
  obtain ⟨m, hmk⟩ : ∃ m : Nat, m = min k L.length := ⟨_, rfl⟩
  have hmin : min (k : Int) (L.length : Int) = (m : Int) := by omega
  have hml : m ≤ L.length := by omega
  have s1 := fun w => slice_head Tryd.underlying27 (by kernel_rfl) szR a L.length c m (by omega) w
  have HT := Lib.hid (show L.take k = L.take m by rw [hmk]; simp)
  have HD := Lib.hid (show L.drop k = L.drop m by
    rw [hmk]
    by_cases hkl : k ≤ L.length
    · rw [Nat.min_eq_left hkl]
    · rw [Nat.min_eq_right (by omega), List.drop_eq_nil_of_le (by omega), List.drop_eq_nil_of_le (by omega)])
  have HTL := Lib.hid (show (L.take m).length = m by rw [List.length_take]; omega)
  have C := Lib.hid (rest_rows w X a L.length c m L h hml)
  have HM1 := Lib.hid (h.take hml)
  have HR := Lib.hid hR
  have y10 := hR.2
  have yf := hR.1.2.2
  clear hmk hR
  have HH := Lib.hid h
  obtain ⟨n, hn⟩ : ∃ n, n = L.length := ⟨_, rfl⟩
  have HN := Lib.hid hn
  rw [← hn] at hmin s1 y10 C HH HR
  clear hn h
  go_enter Tryd.func30, Tryd.ntmps30
  go_wp2_with fail
  refine C.out.mono ?_
  rintro e w1 ⟨rfl, a2, rfl, M2⟩
  have HR2 := Lib.hid (HR.out.putL (.slice a2 (L.drop m).length (L.drop m).length))
  have HB := Lib.hid (But.set w B 9 (.slice a2 (L.drop m).length (L.drop m).length))
  have HM2 := Lib.hid (M2.but hX HB.out)
  have HM3 := Lib.hid (HM1.out.but hX HB.out)
  clear M2 HM1 C
  obtain ⟨q, hq⟩ : ∃ q, q = (L.drop m).length := ⟨_, rfl⟩
  have HQ := Lib.hid hq
  rw [← hq] at HR2 HB HM2 HM3 ⊢
  clear hq
  go_wp2
  go_ret
  refine ⟨a, a2, ?_, ?_, ?_, ?_, HB.out⟩
  · rw [HT.out, HTL.out]
    rfl
  · rw [HT.out, HTL.out]
    exact HM3.out
  · rw [HD.out, ← HQ.out]
    exact HR2.out
  · rw [HD.out, ← HQ.out]
    exact HM2.out

/-- Parts that a call has made. -/
abbrev bytesI (l : List Int) : List Value := l.map (Value.int .u8)
def BRow (w : World) (lo : Nat) (v : Value) (l : List Int) : Prop := w.ownsRow lo 5 1 v l.length (bytesI l)
theorem own_below {w w' : World} {lo size n : Nat} {e : TypeId} {v : Value} {xs : List Value} (h : w.ownsRow lo e size v n xs) (hb : Below w.heap.size w w') : w'.ownsRow lo e size v n xs := by
  refine h.kept (row := none) ⟨hb.os, hb.tape, hb.output, hb.size, fun k hk _ => hb.block k hk⟩ ?_
  cases hv : v.ownBlock with
  | none => exact .inl rfl
  | some b => exact .inr (by simp)
theorem BRow.below {w w' : World} {lo : Nat} {v : Value} {l : List Int} (h : BRow w lo v l) (hb : Below w.heap.size w w') : BRow w' lo v l := own_below h hb
theorem BRow.shape {w : World} {lo : Nat} {v : Value} {l : List Int} (h : BRow w lo v l) : ∃ a c, v = .slice a l.length c := by
  rcases h.2 with ⟨rfl, h0⟩ | ⟨g, cap, cur, rfl, _⟩
  · exact ⟨none, 0, by rw [h0]⟩
  · exact ⟨_, cap, rfl⟩
theorem BRow.cell {w : World} {lo n c : Nat} {a : Option Addr} {l : List Int} (h : BRow w lo (.slice a n c) l) (h0 : 0 < l.length) : ∃ g, a = some ⟨g, 0, none⟩ ∧ g < w.heap.size ∧ ∀ j, j < l.length → w.cell? ⟨g, 0 + j, none⟩ = some (.int .u8 (l.getD j 0)) := by
  rcases h.2 with ⟨e, h1⟩ | ⟨g, cap, cur, e, _⟩
  · omega
  · injection e with e1 e2 e3
    subst e1
    refine ⟨g, rfl, (h.lt g rfl).2, fun j hj => ?_⟩
    have := h.cells (g := g) rfl j (.int .u8 (l.getD j 0)) (by rw [List.getElem?_map, List.getElem?_eq_getElem hj, List.getD_eq_getElem?_getD, List.getElem?_eq_getElem hj]; rfl)
    rwa [Addr.add_mid] at this
theorem partsM_snoc {α : Type} (read : α → Option Int) : ∀ (l : List α) (k : Nat) (h : k < l.length), (partsM read (l.take k)).length = k →
    (∀ b, read l[k] = some b → partsM read (l.take (k + 1)) = partsM read (l.take k) ++ [b] ∧ (partsM read (l.take (k + 1))).length = k + 1) ∧ (read l[k] = none → partsM read l = partsM read (l.take k))
  | [], k, h, _ => by simp at h
  | x :: t, 0, h, _ => by
    refine ⟨fun b hb => ?_, fun hn => ?_⟩
    · have hb' : read x = some b := hb
      simp [partsM, hb']
    · have hn' : read x = none := hn
      simp [partsM, hn']
  | x :: t, k + 1, h, hl => by
    have hk : k < t.length := by simpa using h
    rw [List.take_succ_cons] at hl
    unfold partsM at hl
    split at hl
    · rename_i b0 hb0
      have hl' : (partsM read (t.take k)).length = k := by simpa using hl
      obtain ⟨i1, i2⟩ := partsM_snoc read t k hk hl'
      refine ⟨fun b hb => ?_, fun hn => ?_⟩
      · obtain ⟨j1, j2⟩ := i1 b hb
        rw [List.take_succ_cons, List.take_succ_cons]
        unfold partsM
        rw [hb0]
        dsimp only
        rw [j1]
        simp [hl']
      · have := i2 hn
        rw [List.take_succ_cons]
        unfold partsM
        rw [hb0]
        dsimp only
        rw [this]
    · simp at hl
abbrev partRV (row : List Int) : Value := .tuple #[.int .u8 ((partRow row).getD 0), .bool (partRow row).isSome]
def partB (row : List Int) : Int := (partM ((onlyM row).getD 0)).getD 0
set_option maxHeartbeats 1000000 in
theorem partRow_any (w : World) (X : Nat → Prop) (v : Value) (row : List Int) (h : NumsAt w X v row) : Calls Tryd.prog 78 #[v] w fun e w' => e = .returned (.tuple #[.int .u8 (partB row), .bool (partRow row).isSome]) ∧ Below w.heap.size w w' := by
  have C := Lib.hid (show Calls Tryd.prog 52 #[v] w fun e w' => e = .returned (.tuple #[.int .i64 ((onlyM row).getD 0), .bool (onlyM row).isSome]) ∧ Below w.heap.size w w' from only_any w X v row h)
  have HB := Lib.hid (show partB row = (partM ((onlyM row).getD 0)).getD 0 from rfl)
  cases ho : onlyM row with
  | none =>
    rw [ho] at C HB
    have HP := Lib.hid (show partRow row = none by unfold partRow; rw [ho])
    clear ho
    go_enter Tryd.func78, Tryd.ntmps78
    go_wp2_with fail
    refine C.out.mono ?_
    rintro e w1 ⟨rfl, b1⟩
    have HB1 := Lib.hid b1
    clear b1 C
    go_wp2_with fail
    refine (prt_any 0 w1).mono ?_
    rintro e w2 ⟨rfl, rfl⟩
    go_wp2
    go_ret2
    exact ⟨by rw [HB.out, HP.out]; rfl, HB1.out⟩
  | some x =>
    rw [ho] at C HB
    have HP := Lib.hid (show partRow row = partM x by unfold partRow; rw [ho])
    clear ho
    go_enter Tryd.func78, Tryd.ntmps78
    go_wp2_with fail
    refine C.out.mono ?_
    rintro e w1 ⟨rfl, b1⟩
    have HB1 := Lib.hid b1
    clear b1 C
    go_wp2_with fail
    refine (prt_any x w1).mono ?_
    rintro e w2 ⟨rfl, rfl⟩
    go_wp2
    go_ret2
    exact ⟨by rw [HB.out, HP.out]; rfl, HB1.out⟩
theorem partB_some {row : List Int} {b : Int} (h : partRow row = some b) : partB row = b := by
  unfold partRow at h
  split at h
  · rename_i x hx
    unfold partB
    rw [hx]
    show (partM x).getD 0 = b
    rw [h]
    rfl
  · simp at h

set_option maxHeartbeats 4000000 in
set_option maxRecDepth 100000 in
theorem parts_rows (w : World) (X : Nat → Prop) (v : Value) (L : Rws) (h : MatAt w X v L) (hl : L.length ≤ 1000) :
    Calls Tryd.prog 76 #[v, .func (.func 78) #[] #[]] w fun e w' => ∃ u, e = .returned u ∧ BRow w' w.heap.size u (partsM partRow L) ∧ Below w.heap.size w w' := by
  obtain ⟨ad, c, rfl⟩ := h.shape
  obtain ⟨n, hn⟩ : ∃ n, n = L.length := ⟨_, rfl⟩
  have HN := Lib.hid hn
  have HL := Lib.hid h
  rw [← hn] at hl HL ⊢
  obtain ⟨ib, hi, hz0, hz1, hz2⟩ := info_parts infoU8
  clear hn h
  go_enter Tryd.func76, Tryd.ntmps76
  go_wp2
  go_loopw [5, 12] (fun u i wr => ∃ k : Nat, k ≤ n ∧ i = .int .i64 k ∧ Hid (BRow wr w.heap.size u (partsM partRow (L.take k))) ∧ Hid ((partsM partRow (L.take k)).length = k) ∧ Hid (Below w.heap.size w wr)) (fun _ i _ => n - (intOf i).toNat)
  case atStart => exact ⟨0, Nat.zero_le _, rfl, Lib.hid (World.ownsRow_nil _ _ _ 1), Lib.hid rfl, Lib.hid (Below.refl _ _)⟩
  case round =>
    obtain ⟨k, hk, rfl, HR, HK, HB⟩ := hrel
    by_cases hlt : k < n
    · have hkL : k < L.length := by rw [← HN.out]; exact hlt
      obtain ⟨S1, S2⟩ := partsM_snoc partRow L k hkL HK.out
      have HS1 := Lib.hid S1
      have HS2 := Lib.hid S2
      obtain ⟨g, o, c2, e2, _, _, _, hg, hcell⟩ := HL.out.open (by omega)
      injection e2 with e2 e3 e4
      subst e2
      clear e3 e4 S1 S2
      obtain ⟨x, hx, hrow⟩ := hcell k hkL
      have a1 : wr.cell? ⟨g, o + k, none⟩ = some x := (HB.out.cell (p := ⟨g, o + k, none⟩) hg).trans hx
      have C := Lib.hid (partRow_any wr X x (L.getD k []) ((hrow.below HB.out)))
      have HEl := Lib.hid (show L.getD k [] = L[k] by rw [List.getD_eq_getElem?_getD, List.getElem?_eq_getElem hkL]; rfl)
      obtain ⟨xa, xc, rfl⟩ := hrow.shape
      generalize (L.getD k []).length = xn at *
      rw [HEl.out] at C
      clear hcell hx hrow
      cases hp : partRow L[k] with
      | none =>
        rw [hp] at C HS2
        have HE := Lib.hid (HS2.out rfl)
        clear hp HS1 HS2
        go_wp2_with fail
        refine C.out.mono ?_
        rintro e w1 ⟨rfl, b1⟩
        have HR1 := Lib.hid (HR.out.below b1)
        have HB1 := Lib.hid (HB.out.trans (b1.mono HB.out.size))
        clear b1 C HR HB
        go_wp2
        go_ret
        exact ⟨u5, rfl, by rw [HE.out]; exact HR1.out, HB1.out⟩
      | some b =>
        rw [hp] at C
        rw [partB_some hp] at C
        have HE := Lib.hid (HS1.out b hp)
        clear hp HS1 HS2
        go_wp2_with fail
        refine C.out.mono ?_
        rintro e w1 ⟨rfl, b1⟩
        have HR1 := Lib.hid (HR.out.below b1)
        have HB1 := Lib.hid (HB.out.trans (b1.mono HB.out.size))
        clear b1 C HR HB
        obtain ⟨l0, hl0⟩ : ∃ l0, l0 = partsM partRow (L.take k) := ⟨_, rfl⟩
        have hR1 : w1.ownsRow w.heap.size 5 1 u5 k (bytesI l0) := by have := HR1.out; unfold BRow at this; rwa [HK.out, ← hl0] at this
        have hll : l0.length = k := by rw [hl0]; exact HK.out
        have HL0 := Lib.hid hl0
        clear HR1 hl0
        go_wp2_with (at_builtin; refine wpList_append_own _ rfl (.tmp 24) (.tmp 26) 92 rfl w.heap.size 5 ib (.int .u8 0) 1 1 Tryd.underlying92 hi hz0 hz1 hz2 rfl (by decide) u5 k (bytesI l0) rfl (hR1.alloc _) ⟨w1.heap.size, 0, none⟩ 1 1 [.int .u8 b] rfl rfl ?c1 ?c2 ?c3 ?c4 ?c5 ?_)
        case c1 => exact new_cells w1 [.int .u8 b] 5 _ rfl
        case c2 => simp [Value.oneCell']
        case c3 => unfold maxLen; omega
        case c4 => omega
        case c5 => have := HB1.out.size; simp; omega
        intro v' w2 own2 grow2 _
        have b2 : Below w.heap.size w w2 := (HB1.out.alloc HB1.out.size _).grown grow2 (by have := HB1.out.size; simp; omega) (fun j hj => (hR1.lt j hj).1)
        have HR2 := Lib.hid (show BRow w2 w.heap.size v' (partsM partRow (L.take (k + 1))) by
          unfold BRow
          rw [HE.out.2, HE.out.1, ← HL0.out]
          simpa [bytesI] using own2)
        have HB2 := Lib.hid b2
        have HK2 := Lib.hid HE.out.2
        clear own2 grow2 b2 hR1 HE
        go_wp2
        go_roundw
        case rel => exact ⟨k + 1, by omega, by go_num, HR2, HK2, HB2⟩
        case measure => simp [intOf]; omega
    · have HE := Lib.hid (show L.take k = L from List.take_of_length_le (by rw [← HN.out]; omega))
      go_wp2
      go_ret
      exact ⟨u5, rfl, by have := HR.out; rwa [HE.out] at this, HB.out⟩

set_option maxHeartbeats 4000000 in
set_option maxRecDepth 100000 in
theorem parts_ints (w : World) (X : Nat → Prop) (v : Value) (L : List Int) (h : NumsAt w X v L) (hl : L.length ≤ 1000) :
    Calls Tryd.prog 82 #[v, .func (.func 79) #[] #[]] w fun e w' => ∃ u, e = .returned u ∧ BRow w' w.heap.size u (partsM partM L) ∧ Below w.heap.size w w' := by
  obtain ⟨ad, c, rfl⟩ := h.shape
  obtain ⟨n, hn⟩ : ∃ n, n = L.length := ⟨_, rfl⟩
  have HN := Lib.hid hn
  have HL := Lib.hid h
  rw [← hn] at hl HL ⊢
  obtain ⟨ib, hi, hz0, hz1, hz2⟩ := info_parts infoU8
  clear hn h
  go_enter Tryd.func82, Tryd.ntmps82
  go_wp2
  go_loopw [5, 12] (fun u i wr => ∃ k : Nat, k ≤ n ∧ i = .int .i64 k ∧ Hid (BRow wr w.heap.size u (partsM partM (L.take k))) ∧ Hid ((partsM partM (L.take k)).length = k) ∧ Hid (Below w.heap.size w wr)) (fun _ i _ => n - (intOf i).toNat)
  case atStart => exact ⟨0, Nat.zero_le _, rfl, Lib.hid (World.ownsRow_nil _ _ _ 1), Lib.hid rfl, Lib.hid (Below.refl _ _)⟩
  case round =>
    obtain ⟨k, hk, rfl, HR, HK, HB⟩ := hrel
    by_cases hlt : k < n
    · have hkL : k < L.length := by rw [← HN.out]; exact hlt
      obtain ⟨S1, S2⟩ := partsM_snoc partM L k hkL HK.out
      have HS1 := Lib.hid S1
      have HS2 := Lib.hid S2
      obtain ⟨g, o, c2, e2, _, _, _, hg, hcell⟩ := HL.out.open (by omega)
      injection e2 with e2 e3 e4
      subst e2
      clear e3 e4 S1 S2
      have hx := hcell k hkL
      have HEl := Lib.hid (show L.getD k 0 = L[k] by rw [List.getD_eq_getElem?_getD, List.getElem?_eq_getElem hkL]; rfl)
      rw [HEl.out] at hx
      have a1 : wr.cell? ⟨g, o + k, none⟩ = some (.int .i64 L[k]) := (HB.out.cell (p := ⟨g, o + k, none⟩) hg).trans hx
      have C := Lib.hid (show Calls Tryd.prog 79 #[.int .i64 L[k]] wr fun e w' => e = .returned (.tuple #[.int .u8 ((partM L[k]).getD 0), .bool (partM L[k]).isSome]) ∧ wr = w' from prt_any L[k] wr)
      clear hcell hx
      cases hp : partM L[k] with
      | none =>
        rw [hp] at C HS2
        have HE := Lib.hid (HS2.out rfl)
        clear hp HS1 HS2
        go_wp2_with fail
        refine C.out.mono ?_
        rintro e w1 ⟨rfl, hw1⟩
        have b1 : Below wr.heap.size wr w1 := by rw [← hw1]; exact Below.refl _ _
        clear hw1
        have HR1 := Lib.hid (HR.out.below b1)
        have HB1 := Lib.hid (HB.out.trans (b1.mono HB.out.size))
        clear b1 C HR HB
        go_wp2
        go_ret
        exact ⟨u5, rfl, by rw [HE.out]; exact HR1.out, HB1.out⟩
      | some b =>
        rw [hp] at C
        have HE := Lib.hid (HS1.out b hp)
        clear hp HS1 HS2
        go_wp2_with fail
        refine C.out.mono ?_
        rintro e w1 ⟨rfl, hw1⟩
        have b1 : Below wr.heap.size wr w1 := by rw [← hw1]; exact Below.refl _ _
        clear hw1
        have HR1 := Lib.hid (HR.out.below b1)
        have HB1 := Lib.hid (HB.out.trans (b1.mono HB.out.size))
        clear b1 C HR HB
        obtain ⟨l0, hl0⟩ : ∃ l0, l0 = partsM partM (L.take k) := ⟨_, rfl⟩
        have hR1 : w1.ownsRow w.heap.size 5 1 u5 k (bytesI l0) := by have := HR1.out; unfold BRow at this; rwa [HK.out, ← hl0] at this
        have hll : l0.length = k := by rw [hl0]; exact HK.out
        have HL0 := Lib.hid hl0
        clear HR1 hl0
        go_wp2_with (at_builtin; refine wpList_append_own _ rfl (.tmp 24) (.tmp 26) 92 rfl w.heap.size 5 ib (.int .u8 0) 1 1 Tryd.underlying92 hi hz0 hz1 hz2 rfl (by decide) u5 k (bytesI l0) rfl (hR1.alloc _) ⟨w1.heap.size, 0, none⟩ 1 1 [.int .u8 b] rfl rfl ?c1 ?c2 ?c3 ?c4 ?c5 ?_)
        case c1 => exact new_cells w1 [.int .u8 b] 5 _ rfl
        case c2 => simp [Value.oneCell']
        case c3 => unfold maxLen; omega
        case c4 => omega
        case c5 => have := HB1.out.size; simp; omega
        intro v' w2 own2 grow2 _
        have b2 : Below w.heap.size w w2 := (HB1.out.alloc HB1.out.size _).grown grow2 (by have := HB1.out.size; simp; omega) (fun j hj => (hR1.lt j hj).1)
        have HR2 := Lib.hid (show BRow w2 w.heap.size v' (partsM partM (L.take (k + 1))) by
          unfold BRow
          rw [HE.out.2, HE.out.1, ← HL0.out]
          simpa [bytesI] using own2)
        have HB2 := Lib.hid b2
        have HK2 := Lib.hid HE.out.2
        clear own2 grow2 b2 hR1 HE
        go_wp2
        go_roundw
        case rel => exact ⟨k + 1, by omega, by go_num, HR2, HK2, HB2⟩
        case measure => simp [intOf]; omega
    · have HE := Lib.hid (show L.take k = L from List.take_of_length_le (by rw [← HN.out]; omega))
      go_wp2
      go_ret
      exact ⟨u5, rfl, by have := HR.out; rwa [HE.out] at this, HB.out⟩
end Go.Proofs.YtlmhnebgkginkaaDoor.Lab
