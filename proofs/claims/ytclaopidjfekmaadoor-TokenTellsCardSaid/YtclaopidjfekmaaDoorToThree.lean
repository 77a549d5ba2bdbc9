/- Contracts with the blocks told; three operations that may come up. -/
import Derived.Test.YtclaopidjfekmaaDoorToIn
import Derived.Test.YtclaopidjfekmaaDoorToRSame
import Derived.Test.YtclaopidjfekmaaDoorToWorks
import Derived.Test.YtclaopidjfekmaaDoorTakes
namespace Go.Proofs.YtclaopidjfekmaaDoor.Lab
open Go Go.RowKit

section
variable {P : Program} {L : List Oper} {Q : Exit → Act → World → Prop} {md : Region.Mode} {S : World → Prop}
/-- Three operations may come up, all wanted. -/
theorem three_at {i j k : Nat} {oi oj ok : Oper} {fuel : Nat} {listed : Array Bool} {a : Act} {w : World} (hi : opAtL L i = some oi) (hj : opAtL L j = some oj) (hk : opAtL L k = some ok) (hr : Region.ready md L.toArray listed = [i, j, k])
    (hwi : Region.wanted oi (yielded L.toArray a.tmps) = true) (hwj : Region.wanted oj (yielded L.toArray a.tmps) = true) (hwk : Region.wanted ok (yielded L.toArray a.tmps) = true)
    (h : ∀ K' : Act → World → Prop, Shut (∀ a w, S w → (S w → wpAnyH P md L.toArray Q S fuel (listed.setIfInBounds i true) a w) → K' a w) → Oper.wp P oi a w K' Q)
    (h' : ∀ K' : Act → World → Prop, Shut (∀ a w, S w → (S w → wpAnyH P md L.toArray Q S fuel (listed.setIfInBounds j true) a w) → K' a w) → Oper.wp P oj a w K' Q)
    (h'' : ∀ K' : Act → World → Prop, Shut (∀ a w, S w → (S w → wpAnyH P md L.toArray Q S fuel (listed.setIfInBounds k true) a w) → K' a w) → Oper.wp P ok a w K' Q) :
    wpAnyH P md L.toArray Q S (fuel + 1) listed a w :=
  wpAnyH_ready hr (by simp) (AllReadyH.cons ((opAtL_eq L i).trans hi) (fun K hK => by rw [if_pos hwi]; exact h K hK) (AllReadyH.cons ((opAtL_eq L j).trans hj) (fun K hK => by rw [if_pos hwj]; exact h' K hK)
    (AllReadyH.cons ((opAtL_eq L k).trans hk) (fun K hK => by rw [if_pos hwk]; exact h'' K hK) AllReadyH.nil)))
end

/-- Blocks that a call has made. -/
def Made (w w' : World) (S : Nat → Prop) : Prop := ∀ g, S g → w.heap.size ≤ g ∧ g < w'.heap.size
theorem draft_in (K p r : Int) (pv iv : Value) (PP : Rws) (I : List Int) (f : Int) (d : ByteArray) (w : World) (h0 : 0 ≤ K) (hK : K ≤ 255) (hp0 : 0 ≤ p) (hf0 : 0 ≤ f) (hf1 : f ≤ 255) (hI : BytAt w iv I) (hPP : ShortsAt w pv PP) :
    Calls Tryd.prog 17 #[drf K p r pv iv f d] w fun e w' => ∃ va vn vc S, e = .returned (tokV (tokD K p r PP I f d) (.slice va vn vc)) ∧ Made w w' S ∧ MatIn w' S (.slice va vn vc) (tokD K p r PP I f d).P ∧ Below w.heap.size w w' := by
  refine (draft_own K p r pv iv PP I f d w h0 hK hp0 hf0 hf1 hI hPP).mono ?_
  rintro e w' ⟨va, vn, vc, rfl, ⟨B, hB, hR⟩, hb⟩
  exact ⟨va, vn, vc, _, rfl, fun g hg => ⟨Nat.le_trans hB hg.1.1, hg.1.2⟩, hR.inn, hb⟩
theorem copy_in (k r p f : Int) (va : Option Addr) (vn vc : Nat) (P : Rws) (i d : ByteArray) (w : World) (hM : MatAt w (.slice va vn vc) P) (hz : ZOk w va P) (hn : P.length ≤ 1000) (hr : ∀ q ∈ P, q.length ≤ 1000) :
    Calls Tryd.prog 15 #[tok7 k r p (.slice va vn vc) i f d] w fun e w' => ∃ ua un uc S, e = .returned (tok7 k r p (.slice ua un uc) i f d) ∧ Made w w' S ∧ (∀ g, S g → ∀ i, w'.frozen? ⟨g, i, none⟩ = false) ∧ MatIn w' S (.slice ua un uc) P ∧ Below w.heap.size w w' := by
  refine (copy_any k r p f va vn vc P i d w hM hz hn hr).mono ?_
  rintro e w' ⟨ua, un, uc, B, rfl, hB, hR, hb⟩
  exact ⟨ua, un, uc, _, rfl, fun g hg => ⟨Nat.le_trans hB hg.1.1, hg.1.2⟩, fun g hg => hg.2, hR.inn, hb⟩
end Go.Proofs.YtclaopidjfekmaaDoor.Lab
