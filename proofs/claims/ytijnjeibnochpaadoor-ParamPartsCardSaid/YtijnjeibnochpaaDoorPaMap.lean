/- strings.Map with own: bytes of parameters alone. -/
import Derived.Test.YtijnjeibnochpaaDoorPaDrawn
namespace Go.Proofs.YtijnjeibnochpaaDoor.Lab
open Go Go.RowKit Go.Lib

def ownM (x : Int) : Int := if x < 48 ∨ 59 < x then -1 else x
set_option maxHeartbeats 1000000 in
theorem own_fn (x : Nat) (hx : x ≤ 1114111) (w : World) : Calls Tryd.prog 8 #[.int .i32 x] w fun e w' => e = .returned (.int .i32 (ownM x)) ∧ Below w.heap.size w w' := by
  by_cases h1 : x < 48
  · have d1 : (x : Int) < 48 := by omega
    have HM := Lib.hid (show ownM x = -1 by rw [ownM, if_pos (.inl d1)])
    go_enter Tryd.func8, Tryd.ntmps8
    go_wp2
    go_ret
    exact ⟨by rw [HM.out]; rfl, Below.refl _ _⟩
  · have d1 : ¬ (x : Int) < 48 := by omega
    by_cases h2 : 59 < x
    · have d2 : (59 : Int) < x := by omega
      have HM := Lib.hid (show ownM x = -1 by rw [ownM, if_pos (.inr d2)])
      go_enter Tryd.func8, Tryd.ntmps8
      go_wp2
      go_ret
      exact ⟨by rw [HM.out]; rfl, Below.refl _ _⟩
    · have d2 : ¬ (59 : Int) < x := by omega
      have HM := Lib.hid (show ownM x = x by rw [ownM, if_neg (by omega)])
      go_enter Tryd.func8, Tryd.ntmps8
      go_wp2
      go_ret
      exact ⟨by rw [HM.out]; rfl, Below.refl _ _⟩

theorem map_len : ∀ (n : Nat) (l : List UInt8), (Lib.mapGoD ownM n l).length ≤ n
  | 0, l => by simp [Lib.mapGoD]
  | n + 1, l => by
    rw [Lib.mapGoD]
    split
    · simp
    · have := map_len n (l.drop (decodeL l).2)
      rw [List.length_append]
      have h1 : (if 0 ≤ ownM (decodeL l).1 then encodeRune (ownM (decodeL l).1) else []).length ≤ 1 := by
        split
        · rename_i h
          unfold ownM at h ⊢
          split at h
          · omega
          · rename_i h2
            rw [if_neg h2, encodeRune, encodeRuneZ_one (by omega) (by omega)]
            simp
        · simp
      omega
theorem map_good : ∀ (n : Nat) (l : List UInt8), ∀ c ∈ Lib.mapGoD ownM n l, good c
  | 0, l => by simp [Lib.mapGoD]
  | n + 1, l => by
    rw [Lib.mapGoD]
    split
    · simp
    · intro c hc
      rcases List.mem_append.1 hc with hc | hc
      · split at hc
        · rename_i h
          unfold ownM at h hc
          split at h
          · omega
          · rename_i h2
            rw [if_neg h2, encodeRune, encodeRuneZ_one (by omega) (by omega)] at hc
            simp only [List.map_cons, List.map_nil, List.mem_singleton] at hc
            subst hc
            unfold good
            have e : ((((decodeL l).1 : Nat) : Int).toNat.toUInt8).toNat = (decodeL l).1 := by
              simp
              omega
            rw [e]
            omega
        · simp at hc
      · exact map_good n _ c hc

theorem map_any (s : ByteArray) (hs : s.size ≤ 400) (w : World) (hT : Lib.Utf8Tabs 1 2 w) :
    Calls Tryd.prog 7 #[.func (.func 8) #[] #[], .string s] w (StrOut w (fun t => t.size ≤ 400 ∧ AllGood t)) := by
  refine (Tryd.strings_Map_grows 8 #[] (enters_of Tryd.func8 (by kernel_rfl) rfl) ownM s w (by omega) (fun W x hx _ => own_fn x hx W) (fun x hx => ?_) hT).mono ?_
  · unfold ownM
    split <;> omega
  · rintro e w' ⟨rfl, hb⟩
    refine ⟨_, rfl, ⟨?_, fun k hk => ?_⟩, hb⟩
    · show (Lib.mapD ownM s.data.toList).toArray.size ≤ 400
      have := map_len s.data.toList.length s.data.toList
      rw [List.size_toArray]
      unfold Lib.mapD
      have : s.data.toList.length = s.size := (Lib.size_eq s).symm
      omega
    · refine map_good s.data.toList.length s.data.toList _ ?_
      show (Lib.mapD ownM s.data.toList).toArray[k] ∈ _
      unfold Lib.mapD
      simp
end Go.Proofs.YtijnjeibnochpaaDoor.Lab
