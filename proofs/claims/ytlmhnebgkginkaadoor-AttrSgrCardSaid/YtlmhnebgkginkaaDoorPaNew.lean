/- New: a list of no bytes. -/
import Derived.Test.YtlmhnebgkginkaaDoorPaTake
namespace Go.Proofs.YtlmhnebgkginkaaDoor.Lab
open Go.RowKit

theorem zero69 : Tryd.zeroCells102 = (List.replicate 288 (Value.int .i64 0) ++ [Value.int .i64 0, Value.bool false]).toArray := by kernel_rfl

theorem LAt.new (w : World) (T : TypeId) : LAt (w.alloc (.cells Tryd.zeroCells102 T)) w.heap.size none := by
  have c : ∀ k, (w.alloc (.cells Tryd.zeroCells102 T)).cell? ⟨w.heap.size, k, none⟩ = (List.replicate 288 (Value.int .i64 0) ++ [Value.int .i64 0, Value.bool false])[k]? := by
    intro k
    rw [zero69, World.cell?_alloc_at _ _ _ _ rfl, List.getElem?_toArray]
  refine ⟨fun _ => 0, fun _ => 0, ⟨fun k hk => ?_, fun k hk => ?_, ?_, ?_, fun k => ?_⟩, Tied.none fun _ _ => rfl⟩
  · rw [c, List.getElem?_append_left (by rw [List.length_replicate]; omega), List.getElem?_replicate, if_pos (by omega)]
  · rw [c, List.getElem?_append_left (by rw [List.length_replicate]; omega), List.getElem?_replicate, if_pos (by omega)]
    rfl
  · rw [c]
    rfl
  · rw [c]
    rfl
  · have hb := heap_alloc_new w (.cells Tryd.zeroCells102 T)
    unfold World.frozen?
    rw [hb]
    show (decide (0 ≤ k) && decide (k < 0)) = false
    simp

set_option maxHeartbeats 1000000 in
theorem new_any (w : World) : Calls Tryd.prog 43 #[] w fun e w' => e = .returned (.pointer (some ⟨w.heap.size, 0, none⟩)) ∧ LAt w' w.heap.size none ∧ Below w.heap.size w w' := by
  have H := LAt.new w 102
  go_enter Tryd.func43, Tryd.ntmps43
  go_wp2
  go_ret
  exact ⟨rfl, H, (Below.refl _ _).alloc (Nat.le_refl _) _⟩
end Go.Proofs.YtlmhnebgkginkaaDoor.Lab
