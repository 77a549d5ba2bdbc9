/- What a draft's token is: plain mathematics; the bytes that may be in data. -/
import Derived.Test.YtclaopidjfekmaaDoorToRefC
namespace Go.Proofs.YtclaopidjfekmaaDoor.Lab
open Go Go.RowKit

def bytesD (s : ByteArray) : List UInt8 := ((bl s).take 60).filter dat1
def intD (I : List Int) : List UInt8 := (I.take 2).map fun x => UInt8.ofNat (32 + x.toNat % 16)
def rowD (i : Nat) (r : List Int) : List Int := if r.length = 0 then [(i : Int)] else (r.take 8).map fun x => max (-1) (x * 2)
/-- The first rows, from a number on. -/
def rowsD : Nat → Rws → Rws
  | _, [] => []
  | i, r :: R => rowD i r :: rowsD (i + 1) R
def lone (R : Rws) : Bool := match R with
  | [[x]] => decide (x < 0)
  | _ => false
def matD (R : Rws) : Rws := if lone (rowsD 0 (R.take 32)) then [] else rowsD 0 (R.take 32)
def strL (l : List UInt8) : ByteArray := ⟨l.toArray⟩
def runeD (r f : Int) : Int := if prnB r then r else 97 + f % 26
def ctlD (f : Int) : Int := if ctlB (f % 32) then f % 32 else 10
def escD (I : List Int) (f : Int) : Int := if rightB ⟨2, 0, 0, [], strL (intD I), 48 + f % 79, none0⟩ then 48 + f % 79 else 99
def privD (p : Int) : Int := if p % 8 < 4 then 60 + p % 8 else 0
def datD (K : Int) (d : ByteArray) : ByteArray := if K % 6 = 5 then strL (bytesD d) else none0
/-- The token of a draft: kind, private, rune, parameters, what is between, final byte, data. -/
def tokD (K p r : Int) (R : Rws) (I : List Int) (f : Int) (d : ByteArray) : Tok :=
  if K % 6 = 0 then ⟨0, runeD r f, 0, [], none0, 0, none0⟩
  else if K % 6 = 1 then ⟨1, 0, 0, [], none0, ctlD f, none0⟩
  else if K % 6 = 4 then ⟨4, 0, 0, [], none0, 0, strL (bytesD d)⟩
  else if K % 6 = 2 then ⟨2, 0, 0, [], strL (intD I), escD I f, none0⟩
  else ⟨K % 6, 0, privD p, matD R, strL (intD I), 64 + f % 63, datD K d⟩

theorem bl_str (l : List UInt8) : bl (strL l) = l := by simp [bl, strL]
theorem intD_ok (I : List Int) : intOk (strL (intD I)) := by
  refine ⟨?_, fun c hc => ?_⟩
  · show (intD I).toArray.size ≤ 2
    simp [intD]
    omega
  · rw [bl_str] at hc
    obtain ⟨x, _, rfl⟩ := List.mem_map.1 hc
    rw [UInt8.toNat_ofNat']
    omega
theorem bytesD_ok (s : ByteArray) : datOk (strL (bytesD s)) := by
  refine ⟨?_, fun c hc => ?_⟩
  · show (bytesD s).toArray.size ≤ 1024
    have h1 := List.length_filter_le dat1 ((bl s).take 60)
    have h2 : ((bl s).take 60).length ≤ 60 := by simp; omega
    unfold bytesD
    rw [List.size_toArray]
    omega
  · rw [bl_str] at hc
    have := (List.mem_filter.1 hc).2
    exact of_decide_eq_true this
theorem rowD_ok (i : Nat) (hi : i < 32) (r : List Int) (h : ∀ x ∈ r, -32768 ≤ x ∧ x ≤ 32767) : okRow (rowD i r) := by
  unfold rowD
  by_cases h0 : r.length = 0
  · rw [if_pos h0]
    refine ⟨by simp, by simp, fun x hx => ?_⟩
    simp at hx
    omega
  · rw [if_neg h0]
    refine ⟨by simp; omega, by simp; omega, fun x hx => ?_⟩
    obtain ⟨y, hy, rfl⟩ := List.mem_map.1 hx
    have := h y (List.mem_of_mem_take hy)
    omega
theorem rowsD_len : ∀ (R : Rws) (i : Nat), (rowsD i R).length = R.length
  | [], _ => rfl
  | r :: R, i => by simp [rowsD, rowsD_len R]
theorem rowsD_ok : ∀ (R : Rws) (i : Nat), i + R.length ≤ 32 → (∀ r ∈ R, ∀ x ∈ r, -32768 ≤ x ∧ x ≤ 32767) → ∀ q ∈ rowsD i R, okRow q
  | [], _, _, _, q, hq => by simp [rowsD] at hq
  | r :: R, i, hi, h, q, hq => by
    simp only [List.length_cons] at hi
    rcases List.mem_cons.1 hq with rfl | hq
    · exact rowD_ok i (by omega) r (h r (by simp))
    · exact rowsD_ok R (i + 1) (by omega) (fun s hs => h s (by simp [hs])) q hq
theorem rowsD_snoc : ∀ (R : Rws) (r : List Int) (i : Nat), rowsD i (R ++ [r]) = rowsD i R ++ [rowD (i + R.length) r]
  | [], r, i => by simp [rowsD]
  | q :: R, r, i => by
    show rowD i q :: rowsD (i + 1) (R ++ [r]) = _
    rw [rowsD_snoc R r (i + 1)]
    simp only [rowsD, List.cons_append, List.length_cons]
    rw [show i + 1 + R.length = i + (R.length + 1) by omega]
theorem lone_iff {R : Rws} : lone R = true ↔ ∃ x, R = [[x]] ∧ x < 0 := by
  unfold lone
  split
  · rename_i x
    rw [decide_eq_true_eq]
    exact ⟨fun h => ⟨x, rfl, h⟩, fun ⟨y, e, h⟩ => by injection e with e _; injection e with e _; omega⟩
  · rename_i h
    exact ⟨(fun h => by cases h), fun ⟨x, e, _⟩ => absurd e (h x)⟩
theorem matD_ok (R : Rws) (h : ∀ r ∈ R, ∀ x ∈ r, -32768 ≤ x ∧ x ≤ 32767) : parOk (matD R) := by
  unfold matD
  by_cases hl : lone (rowsD 0 (R.take 32)) = true
  · rw [if_pos hl]
    exact ⟨by simp, by simp, by simp⟩
  · rw [if_neg hl]
    refine ⟨by rw [rowsD_len]; simp; omega, rowsD_ok _ 0 (by simp; omega) (fun r hr => h r (List.mem_of_mem_take hr)), fun e => hl (lone_iff.2 ⟨-1, e, by decide⟩)⟩
/-- A draft's token is right. -/
theorem tokD_right (K p r : Int) (R : Rws) (I : List Int) (f : Int) (d : ByteArray) (hR : ∀ q ∈ R, ∀ x ∈ q, -32768 ≤ x ∧ x ≤ 32767) : (tokD K p r R I f d).wf ∧ Right (tokD K p r R I f d) := by
  have hn : bl none0 = [] := rfl
  unfold tokD
  by_cases h0 : K % 6 = 0
  · rw [if_pos h0]
    refine ⟨⟨by simp, by simp, by simp, by simp⟩, .inl ⟨rfl, rfl, rfl, hn, rfl, hn, ?_⟩⟩
    simp only [runeD]
    by_cases hq : prnB r = true
    · rw [if_pos hq]
      exact prn_iff.1 hq
    · rw [if_neg hq]
      unfold prnOk
      have : Utf8.valid (97 + f % 26) = true := by
        simp [Utf8.valid]
        omega
      exact ⟨this, by omega, by omega⟩
  rw [if_neg h0]
  by_cases h1 : K % 6 = 1
  · rw [if_pos h1, ctlD]
    by_cases hq : ctlB (f % 32) = true
    · rw [if_pos hq]
      exact ⟨⟨by simp, by simp, by simp only; omega, by simp only; omega⟩, .inr (.inl ⟨rfl, rfl, rfl, rfl, hn, hn, ctl_iff.1 hq⟩)⟩
    · rw [if_neg hq]
      exact ⟨⟨by simp, by simp, by simp, by simp⟩, .inr (.inl ⟨rfl, rfl, rfl, rfl, hn, hn, by decide, by decide, by decide, by decide⟩)⟩
  rw [if_neg h1]
  by_cases h4 : K % 6 = 4
  · rw [if_pos h4]
    exact ⟨⟨by simp, by simp, by simp, by simp⟩, .inr (.inr (.inr (.inr (.inl ⟨rfl, rfl, rfl, rfl, hn, rfl, bytesD_ok d⟩))))⟩
  rw [if_neg h4]
  by_cases h2 : K % 6 = 2
  · rw [if_pos h2, escD]
    by_cases hq : rightB ⟨2, 0, 0, [], strL (intD I), 48 + f % 79, none0⟩ = true
    · rw [if_pos hq]
      have hw : Tok.wf ⟨2, 0, 0, [], strL (intD I), 48 + f % 79, none0⟩ := ⟨by simp, by simp, by simp only; omega, by simp only; omega⟩
      exact ⟨hw, (right_iff hw).1 hq⟩
    · rw [if_neg hq]
      exact ⟨⟨by simp, by simp, by simp, by simp⟩, .inr (.inr (.inl ⟨rfl, rfl, rfl, rfl, hn, intD_ok I, by simp only; omega, by simp only; omega, fun _ => by unfold opener; simp⟩))⟩
  rw [if_neg h2]
  rw [privD, datD]
  have hp8 : (if p % 8 < 4 then 60 + p % 8 else 0 : Int) = 0 ∨ 60 ≤ (if p % 8 < 4 then 60 + p % 8 else 0 : Int) ∧ (if p % 8 < 4 then 60 + p % 8 else 0 : Int) ≤ 63 := by
    by_cases h : p % 8 < 4
    · rw [if_pos h]
      omega
    · rw [if_neg h]
      exact .inl rfl
  have hh : ∀ k r d', hdOk ⟨k, r, if p % 8 < 4 then 60 + p % 8 else 0, matD R, strL (intD I), 64 + f % 63, d'⟩ := fun k r d' => ⟨hp8, matD_ok R hR, intD_ok I, by simp only; omega, by simp only; omega⟩
  refine ⟨⟨by simp only; omega, by simp only; omega, by simp only; omega, by simp only; omega⟩, ?_⟩
  by_cases h5 : K % 6 = 5
  · rw [if_pos h5]
    exact .inr (.inr (.inr (.inr (.inr ⟨h5, rfl, hh _ _ _, bytesD_ok d⟩))))
  · rw [if_neg h5]
    exact .inr (.inr (.inr (.inl ⟨by simp only; omega, rfl, hn, hh _ _ _⟩)))

theorem own_text {w : World} {base : Nat} {v : Value} {l : List UInt8} (h : w.ownsRow base 5 1 v l.length (Lib.byteCells l)) : (convert 39 9 v).run Tryd.prog w = .ok (.string (strL l)) w := by
  rcases h.2 with ⟨rfl, h0⟩ | ⟨g, cap, cur, rfl, _⟩
  · obtain rfl : l = [] := List.length_eq_zero_iff.1 h0
    kernel_rfl
  · refine run_convert_bytes_back w 39 9 5 ⟨g, 0, none⟩ cap l Tryd.underlying39 Tryd.underlying5 Tryd.underlying9 fun j hj => ?_
    exact h.cells (g := g) rfl j _ (by rw [Lib.byteCells, List.getElem?_map, List.getElem?_eq_getElem hj]; rfl)

set_option maxHeartbeats 4000000 in
set_option maxRecDepth 100000 in
theorem rbytes_any (s : ByteArray) (w : World) : Calls Tryd.prog 37 #[.string s] w fun e w' => e = .returned (.string (strL (bytesD s))) ∧ Below w.heap.size w w' := by
  obtain ⟨ib, hi, hz0, hz1, hz2⟩ := info_parts infoU8
  go_enter Tryd.func37, Tryd.ntmps37
  go_wp2
  go_loopw [3, 4] (fun vl i wr => ∃ k : Nat, k ≤ s.size ∧ k ≤ 60 ∧ i = .int .i64 k ∧ Hid (wr.ownsRow w.heap.size 5 1 vl (((bl s).take k).filter dat1).length (Lib.byteCells (((bl s).take k).filter dat1))) ∧ Hid (Below w.heap.size w wr)) (fun _ i _ => s.size - (intOf i).toNat)
  case atStart => exact ⟨0, Nat.zero_le _, Nat.zero_le _, rfl, Lib.hid (World.ownsRow_nil _ _ _ 1), Lib.hid (Below.refl _ _)⟩
  case round =>
    obtain ⟨wo, rfl⟩ : ∃ wo : World, wo = wr := ⟨_, rfl⟩
    obtain ⟨k, hk, hk6, rfl, HO, HB⟩ := hrel
    obtain ⟨l, hl⟩ : ∃ l, ((bl s).take k).filter dat1 = l := ⟨_, rfl⟩
    rw [hl] at HO
    have HL := Lib.hid hl
    have hll : l.length ≤ 60 := by
      rw [← hl]
      have h1 := List.length_filter_le dat1 ((bl s).take k)
      have h2 : ((bl s).take k).length ≤ k := List.length_take_le _ _
      omega
    clear hl
    by_cases hlt : k < s.size
    · by_cases h60 : k < 60
      · have HX := Lib.hid (bl_at s k hlt)
        have HP := Lib.hid (show dat1 s[k] = decide (32 ≤ s[k].toNat ∧ s[k].toNat ≠ 127) from rfl)
        have hb := s[k].toNat_lt
        have HCS := Lib.hid (show ((bl s).take (k + 1)).filter dat1 = l ++ (if dat1 s[k] then [s[k]] else []) by
          rw [HX.out.1, List.filter_append, HL.out]
          by_cases h : dat1 s[k] = true
          · simp [h]
          · simp [h])
        clear HX
        by_cases h1 : s[k].toNat < 32
        · have f1 : decide ((32 : Int) ≤ (s[k].toNat : Int)) = false := by simp; omega
          have HF := Lib.hid (show dat1 s[k] = false by rw [HP.out, decide_eq_false (by omega)])
          go_wp2
          go_roundw
          case rel => exact ⟨k + 1, by omega, by omega, by go_num, by rw [HCS.out, HF.out]; simpa using HO, HB⟩
          case measure => simp [intOf]; omega
        · have f1 : decide ((32 : Int) ≤ (s[k].toNat : Int)) = true := by simp; omega
          by_cases h2 : s[k].toNat = 127
          · have f2 : ((s[k].toNat : Int) != 127) = false := by simp; omega
            have f3 : ((s[k].toNat : Int) == 127) = true := by simp; omega
            have HF := Lib.hid (show dat1 s[k] = false by rw [HP.out, decide_eq_false (by omega)])
            clear h2
            go_wp2
            go_roundw
            case rel => exact ⟨k + 1, by omega, by omega, by go_num, by rw [HCS.out, HF.out]; simpa using HO, HB⟩
            case measure => simp [intOf]; omega
          · have f2 : ((s[k].toNat : Int) != 127) = true := by simp; omega
            have f3 : ((s[k].toNat : Int) == 127) = false := by simp; omega
            have HF := Lib.hid (show dat1 s[k] = true by rw [HP.out, decide_eq_true (by omega)])
            have ho := HO.out
            have hsz := HB.out.size
            go_wp2_with (at_builtin; refine wpList_append_own _ rfl (.tmp 25) (.tmp 29) 39 rfl w.heap.size 5 ib (.int .u8 0) 1 1 Tryd.underlying39 hi hz0 hz1 hz2 rfl (by decide) _ l.length _ rfl (ho.alloc _) ⟨wo.heap.size, 0, none⟩ 1 1 [.int .u8 (s[k].toNat : Nat)] rfl rfl ?c1 ?c2 ?c3 ?c4 ?c5 ?_)
            case c1 => exact new_cells wo [.int .u8 (s[k].toNat : Nat)] 5 _ rfl
            case c2 => simp [Value.oneCell']
            case c3 => unfold maxLen; omega
            case c4 => omega
            case c5 => simp; omega
            intro v' w3 own3 grow3 _
            have HB3 := Lib.hid ((HB.out.alloc hsz _).grown grow3 (by simp; omega) (fun j hj => (ho.lt j hj).1))
            have HO3 := Lib.hid (show w3.ownsRow w.heap.size 5 1 v' (((bl s).take (k + 1)).filter dat1).length (Lib.byteCells (((bl s).take (k + 1)).filter dat1)) by
              rw [HCS.out, HF.out]
              simpa [Lib.byteCells] using own3)
            clear own3 grow3 ho
            go_wp2
            go_roundw
            case rel => exact ⟨k + 1, by omega, by omega, by go_num, HO3, HB3⟩
            case measure => simp [intOf]; omega
      · have HE := Lib.hid (show bytesD s = l by rw [← HL.out, bytesD, show k = 60 by omega])
        have cv := own_text HO.out
        have f60 : decide ((k : Int) < 60) = false := by simp; omega
        go_wp2
        go_ret
        exact ⟨by rw [HE.out]; rfl, HB.out⟩
    · have HE := Lib.hid (show bytesD s = l by
        have h1 : (bl s).length = s.size := bl_len s
        rw [← HL.out, bytesD, List.take_of_length_le (by omega), List.take_of_length_le (by omega)])
      have cv := own_text HO.out
      go_wp2
      go_ret
      exact ⟨by rw [HE.out]; rfl, HB.out⟩
end Go.Proofs.YtclaopidjfekmaaDoor.Lab
