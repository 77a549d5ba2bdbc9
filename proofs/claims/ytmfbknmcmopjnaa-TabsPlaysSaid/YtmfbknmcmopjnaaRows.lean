/-
  No cell of these rows narrows 'for every input' (looked for: loops, veiled, ifaces, maps, wideKeys, modest, calm, conditions, laid).
  DERIVED. THE GIVEN ROWS OF THIS SEAT. 6 by the template 'for every input the law returns true; each argument reads behind the call as it read before'; 0 by the template 'total and deterministic' (their statements: YtmfbknmcmopjnaaTotals.lean).
  GIVEN WITH THE SEED: the statements are not yours to turn. If you find one false, say at which input.
  Laid BY PROGRAM, IN A SANDBOX (cutbox-rows.mjs): the forced cells as the released guide's own fill.sh prints them over the translation d069507ef4cd6a5f… (all of the seat's roots in one cut). By AI agents, Wed Nov 11 2026. No macro, syntax, notation, axiom, sorry.
-/
import Derived.Test.YtmfbknmcmopjnaaChecked
import GoSem.Claim
import GoSem.ClaimJoined
import GoSem.ClaimMapViews
import Derived.JoinedTies
import Derived.KernelRfl
namespace Go.Proofs.Ytmfbknmcmopjnaa
/- THE CELL 'sum', in the pinned program and in every row, IS THE sha256 OF THE DUMP (.gsa) THAT YtmfbknmcmopjnaaProg.lean LOADS. Nothing in Lean hashes anything: it is a label: what it is worth is what the hold of that sum in a sandbox is worth. -/
noncomputable def Try.pinned : Pinned := { name := "ytmfbknmcmopjnaa", sum := "d069507ef4cd6a5f6c498e15c538343845bd55bca9530bd77deb951739b721ea", checked := Try.checked }
namespace Rows
def none {H : Type} : Left H := { results := [], args := [] }

/-- 'marqueelaw14.TabsPlays': WHATEVER THE INPUT: true; the input reads as it did. -/
def tabsPlaysSpec : ChangeSpec := { name := "tabsPlays", fn := fun _ => fun
  | [d1, d2, d3] => { results := [.lit (.bool true)], args := [d1, d2, d3] }
  | _ => none }
def tabsPlaysRow : OpenClaim := { program := "ytmfbknmcmopjnaa", sum := "d069507ef4cd6a5f6c498e15c538343845bd55bca9530bd77deb951739b721ea", func := "marquee/marqueelaw14.TabsPlays", spec := "tabsPlays", unfollowed := true, recurses := true, apart := false }
def TabsPlaysSaid : Prop := tabsPlaysRow.holds Try.pinned (OpenSpec.ofChange tabsPlaysSpec)

/-- ITS FALSE NEIGHBOUR: 'it returns false'. Refute it at one input. -/
def tabsPlaysWrong : ChangeSpec := { name := "tabsPlays", fn := fun _ => fun
  | [d1, d2, d3] => { results := [.lit (.bool false)], args := [d1, d2, d3] }
  | _ => none }
def TabsPlaysWrongFalsely : Prop := tabsPlaysRow.holds Try.pinned (OpenSpec.ofChange tabsPlaysWrong)

/-- 'marqueelaw14.TabsWalks': WHATEVER THE INPUT: true; the input reads as it did. -/
def tabsWalksSpec : ChangeSpec := { name := "tabsWalks", fn := fun _ => fun
  | [d1, d2, d3] => { results := [.lit (.bool true)], args := [d1, d2, d3] }
  | _ => none }
def tabsWalksRow : OpenClaim := { program := "ytmfbknmcmopjnaa", sum := "d069507ef4cd6a5f6c498e15c538343845bd55bca9530bd77deb951739b721ea", func := "marquee/marqueelaw14.TabsWalks", spec := "tabsWalks", unfollowed := true, recurses := true, apart := false }
def TabsWalksSaid : Prop := tabsWalksRow.holds Try.pinned (OpenSpec.ofChange tabsWalksSpec)

/-- ITS FALSE NEIGHBOUR: 'it returns false'. Refute it at one input. -/
def tabsWalksWrong : ChangeSpec := { name := "tabsWalks", fn := fun _ => fun
  | [d1, d2, d3] => { results := [.lit (.bool false)], args := [d1, d2, d3] }
  | _ => none }
def TabsWalksWrongFalsely : Prop := tabsWalksRow.holds Try.pinned (OpenSpec.ofChange tabsWalksWrong)

/-- 'marqueelaw14.TabsBlind': WHATEVER THE INPUT: true; the input reads as it did. -/
def tabsBlindSpec : ChangeSpec := { name := "tabsBlind", fn := fun _ => fun
  | [d1, d2, d3] => { results := [.lit (.bool true)], args := [d1, d2, d3] }
  | _ => none }
def tabsBlindRow : OpenClaim := { program := "ytmfbknmcmopjnaa", sum := "d069507ef4cd6a5f6c498e15c538343845bd55bca9530bd77deb951739b721ea", func := "marquee/marqueelaw14.TabsBlind", spec := "tabsBlind", unfollowed := true, recurses := true, apart := false }
def TabsBlindSaid : Prop := tabsBlindRow.holds Try.pinned (OpenSpec.ofChange tabsBlindSpec)

/-- ITS FALSE NEIGHBOUR: 'it returns false'. Refute it at one input. -/
def tabsBlindWrong : ChangeSpec := { name := "tabsBlind", fn := fun _ => fun
  | [d1, d2, d3] => { results := [.lit (.bool false)], args := [d1, d2, d3] }
  | _ => none }
def TabsBlindWrongFalsely : Prop := tabsBlindRow.holds Try.pinned (OpenSpec.ofChange tabsBlindWrong)

/-- 'marqueelaw14.TabsSets': WHATEVER THE INPUT: true; the input reads as it did. -/
def tabsSetsSpec : ChangeSpec := { name := "tabsSets", fn := fun _ => fun
  | [d1, d2, d3] => { results := [.lit (.bool true)], args := [d1, d2, d3] }
  | _ => none }
def tabsSetsRow : OpenClaim := { program := "ytmfbknmcmopjnaa", sum := "d069507ef4cd6a5f6c498e15c538343845bd55bca9530bd77deb951739b721ea", func := "marquee/marqueelaw14.TabsSets", spec := "tabsSets", unfollowed := true, recurses := true, apart := false }
def TabsSetsSaid : Prop := tabsSetsRow.holds Try.pinned (OpenSpec.ofChange tabsSetsSpec)

/-- ITS FALSE NEIGHBOUR: 'it returns false'. Refute it at one input. -/
def tabsSetsWrong : ChangeSpec := { name := "tabsSets", fn := fun _ => fun
  | [d1, d2, d3] => { results := [.lit (.bool false)], args := [d1, d2, d3] }
  | _ => none }
def TabsSetsWrongFalsely : Prop := tabsSetsRow.holds Try.pinned (OpenSpec.ofChange tabsSetsWrong)

/-- 'marqueelaw14.TabsSizes': WHATEVER THE INPUT: true; the input reads as it did. -/
def tabsSizesSpec : ChangeSpec := { name := "tabsSizes", fn := fun _ => fun
  | [d1, d2] => { results := [.lit (.bool true)], args := [d1, d2] }
  | _ => none }
def tabsSizesRow : OpenClaim := { program := "ytmfbknmcmopjnaa", sum := "d069507ef4cd6a5f6c498e15c538343845bd55bca9530bd77deb951739b721ea", func := "marquee/marqueelaw14.TabsSizes", spec := "tabsSizes", unfollowed := true, recurses := true, apart := false }
def TabsSizesSaid : Prop := tabsSizesRow.holds Try.pinned (OpenSpec.ofChange tabsSizesSpec)

/-- ITS FALSE NEIGHBOUR: 'it returns false'. Refute it at one input. -/
def tabsSizesWrong : ChangeSpec := { name := "tabsSizes", fn := fun _ => fun
  | [d1, d2] => { results := [.lit (.bool false)], args := [d1, d2] }
  | _ => none }
def TabsSizesWrongFalsely : Prop := tabsSizesRow.holds Try.pinned (OpenSpec.ofChange tabsSizesWrong)

/-- 'marqueelaw14.TabsKnown': WHATEVER THE INPUT: true; the input reads as it did. -/
def tabsKnownSpec : ChangeSpec := { name := "tabsKnown", fn := fun _ => fun
  | [] => { results := [.lit (.bool true)], args := [] }
  | _ => none }
def tabsKnownRow : OpenClaim := { program := "ytmfbknmcmopjnaa", sum := "d069507ef4cd6a5f6c498e15c538343845bd55bca9530bd77deb951739b721ea", func := "marquee/marqueelaw14.TabsKnown", spec := "tabsKnown", unfollowed := true, recurses := true, apart := false }
def TabsKnownSaid : Prop := tabsKnownRow.holds Try.pinned (OpenSpec.ofChange tabsKnownSpec)

/-- ITS FALSE NEIGHBOUR: 'it returns false'. Refute it at one input. -/
def tabsKnownWrong : ChangeSpec := { name := "tabsKnown", fn := fun _ => fun
  | [] => { results := [.lit (.bool false)], args := [] }
  | _ => none }
def TabsKnownWrongFalsely : Prop := tabsKnownRow.holds Try.pinned (OpenSpec.ofChange tabsKnownWrong)

/- THE SECOND FORM. 'bulk': how many values and letters a reading holds, each counted each time it is reached (what is shared counts as often as it is met; a slice's spare places count too). A statement '..UptoSaid' is the law's where the arguments, and the package variables that the reading takes, are together of bulk at most 1048576: NARROWER than '..Said'. Prove '..Said' where nothing that the law and all that it calls make is longer than what came in: it says more and counts as full. Else prove '..UptoSaid'. A law counts once. -/
mutual
def uptoBulk {H : Type} : DataW H → Nat
  | .lit (.string bytes) => bytes.length + 1
  | .lit _ => 1
  | .nil => 1
  | .ptr d => uptoBulk d + 1
  | .slice elems spare => uptoBulkAll elems + uptoBulkAll spare + 1
  | .agg parts => uptoBulkAll parts + 1
  | .iface _ d => uptoBulk d + 1
  | .map entries => uptoBulkEntries entries + 1
  | .held _ => 1
def uptoBulkAll {H : Type} : List (DataW H) → Nat
  | [] => 0
  | d :: r => uptoBulk d + uptoBulkAll r
def uptoBulkEntries {H : Type} : List (Lit × DataW H) → Nat
  | [] => 0
  | x :: r => uptoBulkEntry x + uptoBulkEntries r
def uptoBulkEntry {H : Type} : Lit × DataW H → Nat
  | (.string bytes, d) => bytes.length + uptoBulk d + 1
  | (_, d) => uptoBulk d + 1
 end
def uptoSmall : (H : Type) → List (DataW H) → Bool := fun _ ds => decide (uptoBulkAll ds ≤ 1048576)
def OpenSpec.upto (s : _root_.Go.ChangeSpec) : _root_.Go.OpenSpec := { _root_.Go.OpenSpec.ofChange s with cond := some uptoSmall }

/-- 'marqueelaw14.TabsPlays', WHERE WHAT IT READS IS OF BULK AT MOST 1048576: true; the input reads as it did. -/
def tabsPlaysUptoRow : OpenClaim := { program := "ytmfbknmcmopjnaa", sum := "d069507ef4cd6a5f6c498e15c538343845bd55bca9530bd77deb951739b721ea", func := "marquee/marqueelaw14.TabsPlays", spec := "tabsPlays", unfollowed := true, recurses := true, apart := false, narrowed := true }
def TabsPlaysUptoSaid : Prop := tabsPlaysUptoRow.holds Try.pinned (OpenSpec.upto tabsPlaysSpec)

/-- 'marqueelaw14.TabsWalks', WHERE WHAT IT READS IS OF BULK AT MOST 1048576: true; the input reads as it did. -/
def tabsWalksUptoRow : OpenClaim := { program := "ytmfbknmcmopjnaa", sum := "d069507ef4cd6a5f6c498e15c538343845bd55bca9530bd77deb951739b721ea", func := "marquee/marqueelaw14.TabsWalks", spec := "tabsWalks", unfollowed := true, recurses := true, apart := false, narrowed := true }
def TabsWalksUptoSaid : Prop := tabsWalksUptoRow.holds Try.pinned (OpenSpec.upto tabsWalksSpec)

/-- 'marqueelaw14.TabsBlind', WHERE WHAT IT READS IS OF BULK AT MOST 1048576: true; the input reads as it did. -/
def tabsBlindUptoRow : OpenClaim := { program := "ytmfbknmcmopjnaa", sum := "d069507ef4cd6a5f6c498e15c538343845bd55bca9530bd77deb951739b721ea", func := "marquee/marqueelaw14.TabsBlind", spec := "tabsBlind", unfollowed := true, recurses := true, apart := false, narrowed := true }
def TabsBlindUptoSaid : Prop := tabsBlindUptoRow.holds Try.pinned (OpenSpec.upto tabsBlindSpec)

/-- 'marqueelaw14.TabsSets', WHERE WHAT IT READS IS OF BULK AT MOST 1048576: true; the input reads as it did. -/
def tabsSetsUptoRow : OpenClaim := { program := "ytmfbknmcmopjnaa", sum := "d069507ef4cd6a5f6c498e15c538343845bd55bca9530bd77deb951739b721ea", func := "marquee/marqueelaw14.TabsSets", spec := "tabsSets", unfollowed := true, recurses := true, apart := false, narrowed := true }
def TabsSetsUptoSaid : Prop := tabsSetsUptoRow.holds Try.pinned (OpenSpec.upto tabsSetsSpec)

/-- 'marqueelaw14.TabsSizes', WHERE WHAT IT READS IS OF BULK AT MOST 1048576: true; the input reads as it did. -/
def tabsSizesUptoRow : OpenClaim := { program := "ytmfbknmcmopjnaa", sum := "d069507ef4cd6a5f6c498e15c538343845bd55bca9530bd77deb951739b721ea", func := "marquee/marqueelaw14.TabsSizes", spec := "tabsSizes", unfollowed := true, recurses := true, apart := false, narrowed := true }
def TabsSizesUptoSaid : Prop := tabsSizesUptoRow.holds Try.pinned (OpenSpec.upto tabsSizesSpec)

/-- 'marqueelaw14.TabsKnown', WHERE WHAT IT READS IS OF BULK AT MOST 1048576: true; the input reads as it did. -/
def tabsKnownUptoRow : OpenClaim := { program := "ytmfbknmcmopjnaa", sum := "d069507ef4cd6a5f6c498e15c538343845bd55bca9530bd77deb951739b721ea", func := "marquee/marqueelaw14.TabsKnown", spec := "tabsKnown", unfollowed := true, recurses := true, apart := false, narrowed := true }
def TabsKnownUptoSaid : Prop := tabsKnownUptoRow.holds Try.pinned (OpenSpec.upto tabsKnownSpec)

end Rows
end Go.Proofs.Ytmfbknmcmopjnaa
