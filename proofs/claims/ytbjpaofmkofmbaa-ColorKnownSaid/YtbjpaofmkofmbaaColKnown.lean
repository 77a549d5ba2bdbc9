/- The Go law ColorKnown (the chapter's examples; what is no spec; ends of palettes) returns true, and writes nothing that was there. No condition: it has no argument. -/
import Derived.Test.YtbjpaofmkofmbaaColWorks
import Derived.Test.YtbjpaofmkofmbaaResolve
import Derived.Test.YtbjpaofmkofmbaaRFar
import Derived.Deep.RegionHeld3
namespace Go.Proofs.Ytbjpaofmkofmbaa.Lab
open Go.RowKit

theorem defLow (w : World) : Calls Try.prog 10 #[.int .i64 (-1)] w fun e w' => e = .returned (.tuple #[val 0 0 0, .bool false]) ∧ Below w.heap.size w w' :=
  (default_any (-1) w).mono fun e w' ⟨he, hw⟩ => ⟨by rw [he, show defV (-1) = (0, 0, 0) from by decide, show defB (-1) = false from by decide]; rfl, hw⟩

abbrev pal2 : List V := [(1, 1, 1), (2, 2, 2)]

theorem palNew (w : World) (n : Nat) (hn : n = w.heap.size) (T : TypeId) : PalAt (w.alloc (.cells #[.int .u16 1, .int .u16 1, .int .u16 1, .int .u16 2, .int .u16 2, .int .u16 2] T)) n 0 2 pal2 := by
  refine ⟨by subst hn; simp, by decide, rfl, fun i hi => ?_⟩
  rw [World.cell?_alloc_at _ _ _ _ hn, World.cell?_alloc_at _ _ _ _ hn, World.cell?_alloc_at _ _ _ _ hn]
  obtain rfl | rfl : i = 0 ∨ i = 1 := by omega
  · exact ⟨⟨by decide, by decide, by decide⟩, rfl, rfl, rfl⟩
  · exact ⟨⟨by decide, by decide, by decide⟩, rfl, rfl, rfl⟩
theorem PalAt.one {w : World} {b : Nat} (h : PalAt w b 0 2 pal2) : w.cell? ⟨b, 3, none⟩ = some (.int .u16 2) ∧ w.cell? ⟨b, 4, none⟩ = some (.int .u16 2) ∧ w.cell? ⟨b, 5, none⟩ = some (.int .u16 2) := (h.2.2.2 1 (by decide)).2
theorem PalAt.drew {w : World} {b off n : Nat} {ps : List V} (h : PalAt w b off n ps) : PalAt w.drew b off n ps := h
theorem BadAt.drew {w : World} {b off n : Nat} (h : BadAt w b off n) : BadAt w.drew b off n := h
theorem PalAt.past {w : World} {b off n : Nat} {ps : List V} (h : PalAt w b off n ps) (o : Obj) : PalAt (w.alloc o) b off n ps := h.below ((Below.refl _ _).alloc (Nat.le_refl _) o)

theorem badList : ∀ s ∈ ([⟨#[]⟩, ⟨#[35]⟩, ⟨#[35, 49, 50]⟩, ⟨#[35, 49, 50, 51, 52, 53]⟩, ⟨#[35, 49, 50, 51, 52, 53, 54, 55]⟩, ⟨#[35, 49, 50, 103]⟩, ⟨#[114, 103, 98, 58]⟩, ⟨#[114, 103, 98, 58, 47, 47]⟩, ⟨#[114, 103, 98, 58, 49, 47, 47, 51]⟩, ⟨#[114, 103, 98, 58, 49, 50, 51, 52, 53, 47, 49, 47, 49]⟩, ⟨#[114, 103, 98, 58, 49, 47, 50, 47, 51, 47, 52]⟩, ⟨#[114, 103, 98, 58, 49, 47, 50, 47, 51, 32]⟩, ⟨#[82, 71, 66, 58, 49, 47, 50, 47, 51]⟩, ⟨#[114, 103, 98, 58, 45, 49, 47, 50, 47, 51]⟩, ⟨#[114, 103, 98, 58, 49, 47, 50, 47, 103]⟩, ⟨#[114, 103, 98, 97, 58, 49, 47, 50, 47, 51, 47, 52]⟩] : List ByteArray), s.size ≤ maxLen ∧ parseB s.data.toList = false := by
  intro s hs
  simp only [List.mem_cons, List.not_mem_nil, or_false] at hs
  obtain rfl | rfl | rfl | rfl | rfl | rfl | rfl | rfl | rfl | rfl | rfl | rfl | rfl | rfl | rfl | rfl := hs
  all_goals exact ⟨by decide, by decide +kernel⟩

theorem bad16 (w : World) (n : Nat) (hn : n = w.heap.size) (T : TypeId) : BadAt (w.alloc (.cells #[.string ⟨#[]⟩, .string ⟨#[35]⟩, .string ⟨#[35, 49, 50]⟩, .string ⟨#[35, 49, 50, 51, 52, 53]⟩, .string ⟨#[35, 49, 50, 51, 52, 53, 54, 55]⟩, .string ⟨#[35, 49, 50, 103]⟩, .string ⟨#[114, 103, 98, 58]⟩, .string ⟨#[114, 103, 98, 58, 47, 47]⟩, .string ⟨#[114, 103, 98, 58, 49, 47, 47, 51]⟩, .string ⟨#[114, 103, 98, 58, 49, 50, 51, 52, 53, 47, 49, 47, 49]⟩, .string ⟨#[114, 103, 98, 58, 49, 47, 50, 47, 51, 47, 52]⟩, .string ⟨#[114, 103, 98, 58, 49, 47, 50, 47, 51, 32]⟩, .string ⟨#[82, 71, 66, 58, 49, 47, 50, 47, 51]⟩, .string ⟨#[114, 103, 98, 58, 45, 49, 47, 50, 47, 51]⟩, .string ⟨#[114, 103, 98, 58, 49, 47, 50, 47, 103]⟩, .string ⟨#[114, 103, 98, 97, 58, 49, 47, 50, 47, 51, 47, 52]⟩] T)) n 0 16 :=
  badNew w n hn [⟨#[]⟩, ⟨#[35]⟩, ⟨#[35, 49, 50]⟩, ⟨#[35, 49, 50, 51, 52, 53]⟩, ⟨#[35, 49, 50, 51, 52, 53, 54, 55]⟩, ⟨#[35, 49, 50, 103]⟩, ⟨#[114, 103, 98, 58]⟩, ⟨#[114, 103, 98, 58, 47, 47]⟩, ⟨#[114, 103, 98, 58, 49, 47, 47, 51]⟩, ⟨#[114, 103, 98, 58, 49, 50, 51, 52, 53, 47, 49, 47, 49]⟩, ⟨#[114, 103, 98, 58, 49, 47, 50, 47, 51, 47, 52]⟩, ⟨#[114, 103, 98, 58, 49, 47, 50, 47, 51, 32]⟩, ⟨#[82, 71, 66, 58, 49, 47, 50, 47, 51]⟩, ⟨#[114, 103, 98, 58, 45, 49, 47, 50, 47, 51]⟩, ⟨#[114, 103, 98, 58, 49, 47, 50, 47, 103]⟩, ⟨#[114, 103, 98, 97, 58, 49, 47, 50, 47, 51, 47, 52]⟩] T 16 rfl (by decide) badList

theorem res_lit {k r g b : Nat} {o u : V} (hr : r < 256) (hg : g < 256) (hb : b < 256) (hu : resV k r g b pal2 o = u) {w : World} {B c : Nat} (h : PalAt w B 0 2 pal2) : Calls Try.prog 12 #[colA k r g b, .slice (some ⟨B, 0, none⟩) 2 c, valT o] w fun e w' => e = .returned (valT u) ∧ Below w.heap.size w w' :=
  (resolve_any k r g b hr hg hb (some ⟨B, 0, none⟩) 2 c pal2 o w (.inr ⟨B, 0, rfl, h⟩)).mono fun e w' ⟨he, hw⟩ => ⟨by rw [he, hu], hw⟩

theorem res1 {w : World} {B : Nat} (h : PalAt w B 0 2 pal2) : Calls Try.prog 12 #[colA 1 2 0 0, .slice (some ⟨B, 0, none⟩) 2 2, val 9 0 0] w fun e w' => e = .returned (val 9 0 0) ∧ Below w.heap.size w w' := res_lit (k := 1) (r := 2) (g := 0) (b := 0) (o := (9, 0, 0)) (u := (9, 0, 0)) (by decide) (by decide) (by decide) (by decide) h
theorem res2 {w : World} {B : Nat} (h : PalAt w B 0 2 pal2) : Calls Try.prog 12 #[colA 1 1 0 0, .slice (some ⟨B, 0, none⟩) 2 2, val 9 0 0] w fun e w' => e = .returned (val 2 2 2) ∧ Below w.heap.size w w' := res_lit (k := 1) (r := 1) (g := 0) (b := 0) (o := (9, 0, 0)) (u := (2, 2, 2)) (by decide) (by decide) (by decide) (by decide) h
theorem res3 {w : World} {B : Nat} (h : PalAt w B 0 2 pal2) : Calls Try.prog 12 #[colA 7 1 0 0, .slice (some ⟨B, 0, none⟩) 2 2, val 9 0 0] w fun e w' => e = .returned (val 9 0 0) ∧ Below w.heap.size w w' := res_lit (k := 7) (r := 1) (g := 0) (b := 0) (o := (9, 0, 0)) (u := (9, 0, 0)) (by decide) (by decide) (by decide) (by decide) h

theorem near0 (w : World) : Calls Try.prog 17 #[val 0 0 0, .slice none 0 0] w fun e w' => e = .returned (.int .i64 (-1)) ∧ Below w.heap.size w w' := nearest_nil (0, 0, 0) none 0 w
theorem near2 {w : World} {B : Nat} (h : PalAt w B 0 2 pal2) : Calls Try.prog 17 #[val 500 500 500, .slice (some ⟨B, 0, none⟩) 2 2] w fun e w' => e = .returned (.int .i64 0) ∧ Below w.heap.size w w' :=
  (nearest_any (500, 500, 500) ⟨by decide, by decide, by decide⟩ pal2 B 0 2 2 w h).mono fun e w' ⟨he, hw⟩ => ⟨by rw [he]; exact ret_int (by decide), hw⟩
theorem far3 (w : World) : Calls Try.prog 15 #[val 0 0 0, val 65535 257 514] w fun e w' => e = .returned (.int .i64 65030) ∧ Below w.heap.size w w' :=
  (far_any 0 0 0 65535 257 514 (by decide) (by decide) (by decide) (by decide) (by decide) (by decide) w).mono fun e w' ⟨he, hw⟩ => ⟨by rw [he]; exact ret_int (by decide), hw⟩
theorem rfar0 (w : World) : Calls Try.prog 16 #[val 0 0 0, val 0 0 0] w fun e w' => e = .returned (.int .i64 0) ∧ Below w.heap.size w w' :=
  (rfar_any 0 0 0 0 0 0 (by decide) (by decide) (by decide) (by decide) (by decide) (by decide) w).mono fun e w' ⟨he, hw⟩ => ⟨by rw [he]; exact ret_int (by decide), hw⟩
theorem read3 (w : World) : Calls Try.prog 23 #[.string ⟨#[114, 103, 98, 58, 49, 50, 51, 47, 52, 53, 54, 47, 55, 56, 57]⟩, val 4657 17764 30871] w fun e w' => e = .returned (.bool true) ∧ Below w.heap.size w w' :=
  (reads_any ⟨#[114, 103, 98, 58, 49, 50, 51, 47, 52, 53, 54, 47, 55, 56, 57]⟩ (by decide) (4657, 17764, 30871) w).mono fun e w' ⟨he, hw⟩ => ⟨by rw [he]; exact ret_bool (by decide +kernel), hw⟩

set_option maxRecDepth 100000 in
set_option maxHeartbeats 4000000 in
theorem colorKnown_walk (w : World) : Calls Try.prog 6 #[] w fun e w' => e = .returned (.bool true) ∧ Below w.heap.size w w' := by
  have hq := eqVal
  have q1 : eq3 58853 58853 58853 58853 58853 58853 = true := rfl
  have q2 : eq3 0 0 0 0 0 0 = true := rfl
  have q3 : eq3 9 0 0 9 0 0 = true := rfl
  have q4 : eq3 2 2 2 2 2 2 = true := rfl
  go_enter Try.func6, Try.ntmps6
  go_wp2_with fail
  refine Calls.mono (works_any _) ?_
  rintro e w1 ⟨rfl, hb1⟩
  have E := Lib.hid hb1
  clear hb1
  go_wp2_with fail
  refine Calls.mono (defLow _) ?_
  rintro e w2 ⟨rfl, hb2⟩
  have E' := Lib.hid (bstep E.out hb2)
  clear E
  have E := E'
  clear E'
  clear hb2
  go_wp2_with fail
  have P := Lib.hid (palNew (w2.alloc (.cells #[.int .u16 0, .int .u16 0, .int .u16 0] 35)) (w2.heap.size + 1) (by simp) 35)
  have E' := Lib.hid (beyond (beyond E.out (.cells #[.int .u16 0, .int .u16 0, .int .u16 0] 35)) (.cells #[.int .u16 1, .int .u16 1, .int .u16 1, .int .u16 2, .int .u16 2, .int .u16 2] 35))
  clear E
  have E := E'
  clear E'
  simp only [List.append]
  go_region_held3 (fun w' => w'.cell? ⟨w2.heap.size + 1, 3, none⟩ = some (.int .u16 2) ∧ w'.cell? ⟨w2.heap.size + 1, 4, none⟩ = some (.int .u16 2) ∧ w'.cell? ⟨w2.heap.size + 1, 5, none⟩ = some (.int .u16 2))
    (first | exact PalAt.one P.out | exact PalAt.one (P.out.past _))
    (first
    | (go_at_call 20; refine Calls.mono (bad_any _ 0 16 16 _ ?hbad) ?_; (case hbad => exact (bad16 _ _ (by simp) _).drew); rintro e wn ⟨rfl, hb⟩; have P' := Lib.hid ((P.out.past _).drew.below hb); have E' := Lib.hid (bstep (beyond E.out _).drew hb); clear P E hb; have P := P'; have E := E'; clear P' E')
    | (go_at_call 21; ((with_reducible refine Calls.mono (text_any _) ?_)); rintro e wn ⟨rfl, hb⟩; have P' := Lib.hid (P.out.below hb); have E' := Lib.hid (bstep E.out hb); clear P E hb; have P := P'; have E := E'; clear P' E')
    | (go_at_call 22; ((with_reducible refine Calls.mono (ground_any _) ?_)); rintro e wn ⟨rfl, hb⟩; have P' := Lib.hid (P.out.below hb); have E' := Lib.hid (bstep E.out hb); clear P E hb; have P := P'; have E := E'; clear P' E')
    | (go_at_call 12; ((with_reducible refine Calls.mono (res1 P.out) ?_)); rintro e wn ⟨rfl, hb⟩; have P' := Lib.hid (P.out.below hb); have E' := Lib.hid (bstep E.out hb); clear P E hb; have P := P'; have E := E'; clear P' E')
    | (go_at_call 12; ((with_reducible refine Calls.mono (res2 P.out) ?_)); rintro e wn ⟨rfl, hb⟩; have P' := Lib.hid (P.out.below hb); have E' := Lib.hid (bstep E.out hb); clear P E hb; have P := P'; have E := E'; clear P' E')
    | (go_at_call 12; ((with_reducible refine Calls.mono (res3 P.out) ?_)); rintro e wn ⟨rfl, hb⟩; have P' := Lib.hid (P.out.below hb); have E' := Lib.hid (bstep E.out hb); clear P E hb; have P := P'; have E := E'; clear P' E')
    | (go_at_call 17; ((with_reducible refine Calls.mono (near0 _) ?_)); rintro e wn ⟨rfl, hb⟩; have P' := Lib.hid (P.out.below hb); have E' := Lib.hid (bstep E.out hb); clear P E hb; have P := P'; have E := E'; clear P' E')
    | (go_at_call 17; ((with_reducible refine Calls.mono (near2 P.out) ?_)); rintro e wn ⟨rfl, hb⟩; have P' := Lib.hid (P.out.below hb); have E' := Lib.hid (bstep E.out hb); clear P E hb; have P := P'; have E := E'; clear P' E')
    | (go_at_call 15; ((with_reducible refine Calls.mono (far3 _) ?_)); rintro e wn ⟨rfl, hb⟩; have P' := Lib.hid (P.out.below hb); have E' := Lib.hid (bstep E.out hb); clear P E hb; have P := P'; have E := E'; clear P' E')
    | (go_at_call 23; ((with_reducible refine Calls.mono (read3 _) ?_)); rintro e wn ⟨rfl, hb⟩; have P' := Lib.hid (P.out.below hb); have E' := Lib.hid (bstep E.out hb); clear P E hb; have P := P'; have E := E'; clear P' E')
    | (go_at_call 16; ((with_reducible refine Calls.mono (rfar0 _) ?_)); rintro e wn ⟨rfl, hb⟩; have P' := Lib.hid (P.out.below hb); have E' := Lib.hid (bstep E.out hb); clear P E hb; have P := P'; have E := E'; clear P' E'))
  go_wp2
  go_ret
  exact ⟨rfl, E.out⟩
end Go.Proofs.Ytbjpaofmkofmbaa.Lab
