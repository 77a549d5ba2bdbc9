/- What is drawn of bytes that come in: a text of four hundred bytes at most; what strings.Map leaves of it: bytes of parameters alone. -/
import Derived.Test.YtijnjeibnochpaaDoorPaWorks
import Derived.Shelf.Strings.MapGrows
import Derived.Lib.MapLaws
import Derived.ProofKit
import Derived.OpenShut
import Derived.ShutString
import Derived.Deep.Slices
import Derived.Lib.SmallJoins
import Derived.ChangeMaps5
namespace Go.Proofs.YtijnjeibnochpaaDoor.Lab
open Go Go.RowKit Go.ChangeShapes Go.WideShapes Go.ChangeAt Go.Deep Go.Joins Go.ChangeMaps Go.Lib

/-- WHAT A SLICE OF BYTES THAT CAME IN IS. -/
def IsBytes (W : World) (a : Option Addr) (len cap : Nat) (T : Nat → Int) : Prop :=
  len ≤ cap ∧ cap ≤ maxLen ∧ (0 < len → ∃ b off, a = some ⟨b, off, none⟩ ∧ b < W.heap.size ∧ ∀ i, i < len → W.cell? ⟨b, off + i, none⟩ = some (.int .u8 (T i))) ∧ ∀ i, i < len → 0 ≤ T i ∧ T i ≤ 255

theorem wf_u8 {n : Int} (h : (Lit.int .u8 n).wf = true) : 0 ≤ n ∧ n ≤ 255 := by
  simp [Lit.wf, IntKind.min, IntKind.max, IntKind.bits, IntKind.signed] at h
  omega

set_option maxRecDepth 100000 in
theorem open_bytes {H : Type} (enc : TypeId × Value → H) (base : Nat) (W : World) {v : Value} {d : DataW H} {p : List MemPlace} (ok : Value.okWide Tryd.prog W .any base 22 v) (k : DataW.Trod enc Tryd.prog W 0 (fun _ => true) true 22 v d p) :
    ∃ (a : Option Addr) (len cap : Nat) (T : Nat → Int), v = .slice a len cap ∧ IsBytes W a len cap T := by
  obtain ⟨a0, len0, cap0, rfl⟩ := okWide_slice Tryd.underlying22 ok
  obtain ⟨fuel, hf⟩ := k
  rcases open_ints Tryd.underlying22 Tryd.underlying5 (by kernel_rfl) hf with ⟨hcs, _⟩ | ⟨a, len, cap, zs, hcs, _, hl, hm, hz, _, hcell, hw⟩
  · obtain ⟨rfl, rfl, rfl⟩ : a0 = none ∧ len0 = 0 ∧ cap0 = 0 := by simpa [Value.cells] using hcs
    exact ⟨none, 0, 0, fun _ => 0, rfl, Nat.le_refl _, Nat.zero_le _, fun h => by omega, fun i hi => by omega⟩
  · obtain ⟨rfl, rfl, rfl⟩ : a0 = some a ∧ len0 = len ∧ cap0 = cap := by simpa [Value.cells] using hcs
    have hzl : zs.length = cap0 := by simpa using hz
    refine ⟨some a, len0, cap0, fun i => zs.getD i 0, rfl, hl, hm, fun h0 => ?_, fun i hi => wf_u8 (hw _ ?_)⟩
    · obtain ⟨b, off, rfl, hc⟩ := ints_at hcell (by omega)
      exact ⟨b, off, rfl, World.block_lt_of_cell? (a := ⟨b, off + 0, none⟩) W (hc 0 (by omega)), fun i hi => hc i (by omega)⟩
    · simp only [List.getD_eq_getElem?_getD, List.getElem?_eq_getElem (show i < zs.length by omega)]
      exact List.getElem_mem _

theorem byte_of (S : ByteArray) (i : Int) (h0 : 0 ≤ i) (h1 : i < S.size) : ∃ y : UInt8, ∀ w : World, (Instr.index 9 (.string S) (.int .i64 i)).run Tryd.prog w = .ok (.int .u8 (y.toNat : Nat)) w :=
  ⟨S[i.toNat], fun w => by rw [run_index_string _ _ _ _ _ Tryd.underlying9, dif_pos ⟨h0, h1⟩]⟩

def StrOut (w : World) (P : ByteArray → Prop) (e : Ending) (w' : World) : Prop := ∃ s, e = .returned (.string s) ∧ P s ∧ Below w.heap.size w w'

set_option maxRecDepth 100000 in
set_option maxHeartbeats 4000000 in
theorem drawn_any (a : Option Addr) (len cap : Nat) (T : Nat → Int) (w : World) (hT : IsBytes w a len cap T) :
    Calls Tryd.prog 9 #[.slice a len cap] w (StrOut w (fun s => s.size ≤ 400)) := by
  obtain ⟨hlen, hcap, hTa, hTb⟩ := hT
  unfold maxLen at hcap
  have HT := Lib.hid hTa
  have HB := Lib.hid hTb
  clear hTa hTb
  obtain ⟨ib, hi, hz0, hz1, hz2⟩ := info_parts infoU8
  go_enter Tryd.func9, Tryd.ntmps9
  go_wp2
  go_loopw [3, 4] (fun v i wr => ∃ (k : Nat) (l : List UInt8), k ≤ len ∧ k ≤ 400 ∧ i = .int .i64 k ∧ Hid (l.length = k) ∧ Hid (Below w.heap.size w wr) ∧ Hid (wr.ownsRow w.heap.size 5 1 v k (bytesV l))) (fun _ i _ => len - (intOf i).toNat)
  case atStart => exact ⟨0, [], Nat.zero_le _, Nat.zero_le _, rfl, Lib.hid rfl, Lib.hid (Below.refl _ _), Lib.hid (World.ownsRow_nil _ _ _ 1)⟩
  case round =>
    obtain ⟨k, l, hk, hk4, rfl, HL, HBl, HO⟩ := hrel
    by_cases hc : k < len ∧ k < 400
    · obtain ⟨h1, h2⟩ := hc
      have h3 : (k : Int) < 400 := by omega
      obtain ⟨b, off, rfl, hb0, hA⟩ := HT.out (by omega)
      have a1 := (HBl.out.cell (p := ⟨b, off + k, none⟩) hb0).trans (hA k h1)
      obtain ⟨x0, x1⟩ := HB.out k h1
      generalize T k = x at a1 x0 x1
      clear hA HT
      have m1 : x.tmod 19 = x % 19 := Int.tmod_eq_emod_of_nonneg x0
      have m2 : x.tmod 16 = x % 16 := Int.tmod_eq_emod_of_nonneg x0
      obtain ⟨y1, g1⟩ := byte_of ⟨#[48, 49, 50, 51, 52, 53, 54, 55, 56, 57, 59, 59, 59, 58, 58, 49, 50, 47, 120]⟩ (x % 19) (by omega) (by show _ < (19 : Int); omega)
      obtain ⟨y2, g2⟩ := byte_of ⟨#[48, 49, 50, 51, 52, 53, 54, 55, 56, 57, 59, 59, 58, 58, 57, 59]⟩ (x % 16) (by omega) (by show _ < (16 : Int); omega)
      have F : ∀ (y : UInt8) (v' : Value) (w1 w2 : World), w1 = wr.alloc (.cells #[.int .u8 (y.toNat : Nat)] 5) → w2.ownsRow w.heap.size 5 1 v' (k + 1) (bytesV l ++ [.int .u8 (y.toNat : Nat)]) → w1.grownBy w2 u3.ownBlock →
          Hid ((l ++ [y]).length = k + 1) ∧ Hid (Below w.heap.size w w2) ∧ Hid (w2.ownsRow w.heap.size 5 1 v' (k + 1) (bytesV (l ++ [y]))) := by
        intro y v' w1 w2 e o g
        subst e
        exact ⟨Lib.hid (by simp [HL.out]), Lib.hid ((HBl.out.alloc HBl.out.size _).grown g (by have := HBl.out.size; simp; omega) (fun j hj => (HO.out.lt j hj).1)), Lib.hid (by simpa [bytesV] using o)⟩
      have HF := Lib.hid F
      clear F
      by_cases h240 : x < 240
      · go_wp2_with (at_builtin; refine wpList_append_own _ rfl (.tmp 35) (.tmp 37) 22 rfl w.heap.size 5 ib (.int .u8 0) 1 1 Tryd.underlying22 hi hz0 hz1 hz2 rfl (by decide) u3 k (bytesV l) rfl (HO.out.alloc _) ⟨wr.heap.size, 0, none⟩ 1 1 [.int .u8 (y2.toNat : Nat)] rfl rfl ?c1 ?c2 ?c3 ?c4 ?c5 ?_)
        case c1 => exact new_cells wr [.int .u8 (y2.toNat : Nat)] 5 _ rfl
        case c2 => simp [Value.oneCell']
        case c3 => unfold maxLen; omega
        case c4 => omega
        case c5 => have := HBl.out.size; simp; omega
        intro v' w2 own2 grow2 _
        obtain ⟨E1, E2, E3⟩ := HF.out y2 v' _ w2 rfl own2 grow2
        clear own2 grow2 HF a1 g1 g2 m1 m2
        go_wp2
        go_roundw
        case rel => exact ⟨k + 1, l ++ [y2], by omega, by omega, by go_num, E1, E2, E3⟩
        case measure => simp [intOf]; omega
      · go_wp2_with (at_builtin; refine wpList_append_own _ rfl (.tmp 35) (.tmp 37) 22 rfl w.heap.size 5 ib (.int .u8 0) 1 1 Tryd.underlying22 hi hz0 hz1 hz2 rfl (by decide) u3 k (bytesV l) rfl (HO.out.alloc _) ⟨wr.heap.size, 0, none⟩ 1 1 [.int .u8 (y1.toNat : Nat)] rfl rfl ?d1 ?d2 ?d3 ?d4 ?d5 ?_)
        case d2 => simp [Value.oneCell']
        case d3 => unfold maxLen; omega
        case d4 => omega
        case d5 => have := HBl.out.size; simp; omega
        intro v' w2 own2 grow2 _
        obtain ⟨E1, E2, E3⟩ := HF.out y1 v' _ w2 rfl own2 grow2
        clear own2 grow2 HF a1 g1 g2 m1 m2
        go_wp2
        go_roundw
        case rel => exact ⟨k + 1, l ++ [y1], by omega, by omega, by go_num, E1, E2, E3⟩
        case measure => simp [intOf]; omega
    · have o1 : wr.ownsRow w.heap.size 5 1 u3 l.length (bytesV l) := by rw [HL.out]; exact HO.out
      have cv := own_str o1
      have hs : (⟨l.toArray⟩ : ByteArray).size ≤ 400 := by
        show l.toArray.size ≤ 400
        simp [HL.out]
        omega
      have HS := Lib.hid hs
      clear o1 hs
      have hl : ((k : Int) < (len : Int)) ∨ ¬ ((k : Int) < (len : Int)) := by omega
      rcases hl with hl | hl
      · have h4 : ¬ (k : Int) < 400 := by omega
        clear hc
        go_wp2
        go_ret
        exact ⟨_, rfl, HS.out, HBl.out⟩
      · clear hc
        go_wp2
        go_ret
        exact ⟨_, rfl, HS.out, HBl.out⟩
end Go.Proofs.YtijnjeibnochpaaDoor.Lab
