/- The project's Insert, Delete, Resize, Erase. -/
import Derived.Test.YthildghpgajgoaaRpJoin
import Derived.Test.YthildghpgajgoaaRpFill
import Derived.Test.YthildghpgajgoaaRoMove
namespace Go.Proofs.Ythildghpgajgoaa.Lab
open Go Go.RowKit

def OwnRes (w : World) (R : Cls) (e : Ending) (w' : World) : Prop := ∃ v, e = .returned v ∧ CRow w' w.heap.size v R ∧ Below w.heap.size w w'
theorem breaks_two (R : Cls) {p q : Nat} (hp : p ≤ R.length) (hq : q ≤ R.length) : ([(p : Int), (q : Int)]).foldl breakM R = brk (brk R p) q := by
  show breakM (breakM R p) q = _
  unfold breakM
  rw [inN_nat hp, len_brk, inN_nat hq]
theorem resize_eq {R : Cls} (h : Wh R) (i : Int) (b : Cel) : (breakM R i).take (inN i R.length) ++ newM (i - (inN i R.length : Nat)).toNat b = resizeM R i b := by
  unfold resizeM resM newM breakM
  by_cases hi : i.toNat ≤ R.length
  · rw [if_pos hi, show inN i R.length = i.toNat by unfold inN; omega, show (i - (i.toNat : Int)).toNat = 0 by omega]
    simp
  · rw [if_neg hi, show inN i R.length = R.length by unfold inN; omega, show (i - (R.length : Int)).toNat = i.toNat - R.length by omega, brk_clean h (h.end (Nat.le_refl _)), List.take_length]
/-- Erased: broken at both, and blanks between. -/
def eraP (R : Cls) (p q : Nat) (b : Cel) : Cls := place (brk (brk R p) q) p (List.replicate (max p q - p) b)
def erasePM (R : Cls) (i j : Int) (b : Cel) : Cls := eraP R (inN i R.length) (inN j R.length) b
end Go.Proofs.Ythildghpgajgoaa.Lab
