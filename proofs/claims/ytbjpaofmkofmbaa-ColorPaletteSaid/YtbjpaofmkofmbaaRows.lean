/-
  No cell of these rows narrows 'for every input' (looked for: loops, veiled, ifaces, maps, wideKeys, modest, calm, conditions, laid).
  DERIVED. THE GIVEN ROWS OF THIS SEAT. 4 by the template 'for every input the law returns true; each argument reads behind the call as it read before'; 0 by the template 'total and deterministic' (their statements: YtbjpaofmkofmbaaTotals.lean).
  GIVEN WITH THE SEED: the statements are not yours to turn. If you find one false, say at which input.
  Laid BY PROGRAM, IN A SANDBOX (cutbox-rows.mjs): the forced cells as the released guide's own fill.sh prints them over the translation df687ab942b13924… (all of the seat's roots in one cut). By AI agents, Wed Nov 11 2026. No macro, syntax, notation, axiom, sorry.
-/
import Derived.Test.YtbjpaofmkofmbaaChecked
import GoSem.Claim
import GoSem.ClaimJoined
import GoSem.ClaimMapViews
import Derived.JoinedTies
import Derived.KernelRfl
namespace Go.Proofs.Ytbjpaofmkofmbaa
/- THE CELL 'sum', in the pinned program and in every row, IS THE sha256 OF THE DUMP (.gsa) THAT YtbjpaofmkofmbaaProg.lean LOADS. Nothing in Lean hashes anything: it is a label: what it is worth is what the hold of that sum in a sandbox is worth. -/
noncomputable def Try.pinned : Pinned := { name := "ytbjpaofmkofmbaa", sum := "df687ab942b1392428d0908b5ba79b6c59953db2cdd06624c9088f1d73c921f8", checked := Try.checked }
namespace Rows
def none {H : Type} : Left H := { results := [], args := [] }

/-- 'marqueelaw02.ColorTells': WHATEVER THE INPUT: true; the input reads as it did. -/
def colorTellsSpec : ChangeSpec := { name := "colorTells", fn := fun _ => fun
  | [d1, d2, d3] => { results := [.lit (.bool true)], args := [d1, d2, d3] }
  | _ => none }
def colorTellsRow : OpenClaim := { program := "ytbjpaofmkofmbaa", sum := "df687ab942b1392428d0908b5ba79b6c59953db2cdd06624c9088f1d73c921f8", func := "marquee/marqueelaw02.ColorTells", spec := "colorTells", inPlace := ["internal/bytealg.IndexByteString", "internal/bytealg.IndexString"], unfollowed := true, recurses := true, named := ["internal/bytealg.MaxLen"], plainKeys := false, apart := false }
def ColorTellsSaid : Prop := colorTellsRow.holds Try.pinned (OpenSpec.ofChange colorTellsSpec)

/-- ITS FALSE NEIGHBOUR: 'it returns false'. Refute it at one input. -/
def colorTellsWrong : ChangeSpec := { name := "colorTells", fn := fun _ => fun
  | [d1, d2, d3] => { results := [.lit (.bool false)], args := [d1, d2, d3] }
  | _ => none }
def ColorTellsWrongFalsely : Prop := colorTellsRow.holds Try.pinned (OpenSpec.ofChange colorTellsWrong)

/-- 'marqueelaw02.ColorNear': WHATEVER THE INPUT: true; the input reads as it did. -/
def colorNearSpec : ChangeSpec := { name := "colorNear", fn := fun _ => fun
  | [d1, d2, d3] => { results := [.lit (.bool true)], args := [d1, d2, d3] }
  | _ => none }
def colorNearRow : OpenClaim := { program := "ytbjpaofmkofmbaa", sum := "df687ab942b1392428d0908b5ba79b6c59953db2cdd06624c9088f1d73c921f8", func := "marquee/marqueelaw02.ColorNear", spec := "colorNear", inPlace := ["internal/bytealg.IndexByteString", "internal/bytealg.IndexString"], unfollowed := true, recurses := true, named := ["internal/bytealg.MaxLen"], plainKeys := false, apart := false }
def ColorNearSaid : Prop := colorNearRow.holds Try.pinned (OpenSpec.ofChange colorNearSpec)

/-- ITS FALSE NEIGHBOUR: 'it returns false'. Refute it at one input. -/
def colorNearWrong : ChangeSpec := { name := "colorNear", fn := fun _ => fun
  | [d1, d2, d3] => { results := [.lit (.bool false)], args := [d1, d2, d3] }
  | _ => none }
def ColorNearWrongFalsely : Prop := colorNearRow.holds Try.pinned (OpenSpec.ofChange colorNearWrong)

/-- 'marqueelaw02.ColorPalette': WHATEVER THE INPUT: true; the input reads as it did. -/
def colorPaletteSpec : ChangeSpec := { name := "colorPalette", fn := fun _ => fun
  | [d1, d2, d3] => { results := [.lit (.bool true)], args := [d1, d2, d3] }
  | _ => none }
def colorPaletteRow : OpenClaim := { program := "ytbjpaofmkofmbaa", sum := "df687ab942b1392428d0908b5ba79b6c59953db2cdd06624c9088f1d73c921f8", func := "marquee/marqueelaw02.ColorPalette", spec := "colorPalette", inPlace := ["internal/bytealg.IndexByteString", "internal/bytealg.IndexString"], unfollowed := true, recurses := true, named := ["internal/bytealg.MaxLen"], plainKeys := false, apart := false }
def ColorPaletteSaid : Prop := colorPaletteRow.holds Try.pinned (OpenSpec.ofChange colorPaletteSpec)

/-- ITS FALSE NEIGHBOUR: 'it returns false'. Refute it at one input. -/
def colorPaletteWrong : ChangeSpec := { name := "colorPalette", fn := fun _ => fun
  | [d1, d2, d3] => { results := [.lit (.bool false)], args := [d1, d2, d3] }
  | _ => none }
def ColorPaletteWrongFalsely : Prop := colorPaletteRow.holds Try.pinned (OpenSpec.ofChange colorPaletteWrong)

/-- 'marqueelaw02.ColorKnown': WHATEVER THE INPUT: true; the input reads as it did. -/
def colorKnownSpec : ChangeSpec := { name := "colorKnown", fn := fun _ => fun
  | [] => { results := [.lit (.bool true)], args := [] }
  | _ => none }
def colorKnownRow : OpenClaim := { program := "ytbjpaofmkofmbaa", sum := "df687ab942b1392428d0908b5ba79b6c59953db2cdd06624c9088f1d73c921f8", func := "marquee/marqueelaw02.ColorKnown", spec := "colorKnown", inPlace := ["internal/bytealg.IndexByteString", "internal/bytealg.IndexString"], unfollowed := true, recurses := true, named := ["internal/bytealg.MaxLen"], plainKeys := false, apart := false }
def ColorKnownSaid : Prop := colorKnownRow.holds Try.pinned (OpenSpec.ofChange colorKnownSpec)

/-- ITS FALSE NEIGHBOUR: 'it returns false'. Refute it at one input. -/
def colorKnownWrong : ChangeSpec := { name := "colorKnown", fn := fun _ => fun
  | [] => { results := [.lit (.bool false)], args := [] }
  | _ => none }
def ColorKnownWrongFalsely : Prop := colorKnownRow.holds Try.pinned (OpenSpec.ofChange colorKnownWrong)

/- THE SECOND FORM. 'bulk': how many values and letters a reading holds, each counted each time it is reached (what is shared counts as often as it is met; a slice's spare places count too). A statement '..UptoSaid' is the law's where the arguments, and the package variables that the reading takes, are together of bulk at most 1048576: NARROWER than '..Said'. Prove '..Said' where nothing that the law and all that it calls make is longer than what came in: it says more and counts as full. Else prove '..UptoSaid'. A law counts once. -/
mutual
def uptoBulk {H : Type} : DataW H → Nat
  | .lit (.string bytes) => bytes.length + 1
  | .lit _ => 1
  | .nil => 1
  | .ptr d => uptoBulk d + 1
  | .slice elems spare => uptoBulkAll elems + uptoBulkAll spare + 1
  | .agg parts => uptoBulkAll parts + 1
  | .iface _ d => uptoBulk d + 1
  | .map entries => uptoBulkEntries entries + 1
  | .held _ => 1
def uptoBulkAll {H : Type} : List (DataW H) → Nat
  | [] => 0
  | d :: r => uptoBulk d + uptoBulkAll r
def uptoBulkEntries {H : Type} : List (Lit × DataW H) → Nat
  | [] => 0
  | x :: r => uptoBulkEntry x + uptoBulkEntries r
def uptoBulkEntry {H : Type} : Lit × DataW H → Nat
  | (.string bytes, d) => bytes.length + uptoBulk d + 1
  | (_, d) => uptoBulk d + 1
 end
def uptoSmall : (H : Type) → List (DataW H) → Bool := fun _ ds => decide (uptoBulkAll ds ≤ 1048576)
def OpenSpec.upto (s : _root_.Go.ChangeSpec) : _root_.Go.OpenSpec := { _root_.Go.OpenSpec.ofChange s with cond := some uptoSmall }

/-- 'marqueelaw02.ColorTells', WHERE WHAT IT READS IS OF BULK AT MOST 1048576: true; the input reads as it did. -/
def colorTellsUptoRow : OpenClaim := { program := "ytbjpaofmkofmbaa", sum := "df687ab942b1392428d0908b5ba79b6c59953db2cdd06624c9088f1d73c921f8", func := "marquee/marqueelaw02.ColorTells", spec := "colorTells", inPlace := ["internal/bytealg.IndexByteString", "internal/bytealg.IndexString"], unfollowed := true, recurses := true, named := ["internal/bytealg.MaxLen"], plainKeys := false, apart := false, narrowed := true }
def ColorTellsUptoSaid : Prop := colorTellsUptoRow.holds Try.pinned (OpenSpec.upto colorTellsSpec)

/-- 'marqueelaw02.ColorNear', WHERE WHAT IT READS IS OF BULK AT MOST 1048576: true; the input reads as it did. -/
def colorNearUptoRow : OpenClaim := { program := "ytbjpaofmkofmbaa", sum := "df687ab942b1392428d0908b5ba79b6c59953db2cdd06624c9088f1d73c921f8", func := "marquee/marqueelaw02.ColorNear", spec := "colorNear", inPlace := ["internal/bytealg.IndexByteString", "internal/bytealg.IndexString"], unfollowed := true, recurses := true, named := ["internal/bytealg.MaxLen"], plainKeys := false, apart := false, narrowed := true }
def ColorNearUptoSaid : Prop := colorNearUptoRow.holds Try.pinned (OpenSpec.upto colorNearSpec)

/-- 'marqueelaw02.ColorPalette', WHERE WHAT IT READS IS OF BULK AT MOST 1048576: true; the input reads as it did. -/
def colorPaletteUptoRow : OpenClaim := { program := "ytbjpaofmkofmbaa", sum := "df687ab942b1392428d0908b5ba79b6c59953db2cdd06624c9088f1d73c921f8", func := "marquee/marqueelaw02.ColorPalette", spec := "colorPalette", inPlace := ["internal/bytealg.IndexByteString", "internal/bytealg.IndexString"], unfollowed := true, recurses := true, named := ["internal/bytealg.MaxLen"], plainKeys := false, apart := false, narrowed := true }
def ColorPaletteUptoSaid : Prop := colorPaletteUptoRow.holds Try.pinned (OpenSpec.upto colorPaletteSpec)

/-- 'marqueelaw02.ColorKnown', WHERE WHAT IT READS IS OF BULK AT MOST 1048576: true; the input reads as it did. -/
def colorKnownUptoRow : OpenClaim := { program := "ytbjpaofmkofmbaa", sum := "df687ab942b1392428d0908b5ba79b6c59953db2cdd06624c9088f1d73c921f8", func := "marquee/marqueelaw02.ColorKnown", spec := "colorKnown", inPlace := ["internal/bytealg.IndexByteString", "internal/bytealg.IndexString"], unfollowed := true, recurses := true, named := ["internal/bytealg.MaxLen"], plainKeys := false, apart := false, narrowed := true }
def ColorKnownUptoSaid : Prop := colorKnownUptoRow.holds Try.pinned (OpenSpec.upto colorKnownSpec)

end Rows
end Go.Proofs.Ytbjpaofmkofmbaa
