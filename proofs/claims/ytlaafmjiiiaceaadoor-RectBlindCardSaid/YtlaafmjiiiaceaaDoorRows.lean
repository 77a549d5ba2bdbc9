/-
  NARROWER THAN 'FOR EVERY INPUT', by the rows' own cells (each row's printed sentence says how): RectWhole: laid · RectBlind: laid · RectSums: laid · RectMoves: laid · RectKnown: laid.
  DERIVED. THE GIVEN ROWS OF THIS SEAT. 5 by the template 'for every input the law returns true; each argument reads behind the call as it read before'; 0 by the template 'total and deterministic' (their statements: YtlaafmjiiiaceaaDoorTotals.lean).
  GIVEN WITH THE SEED: the statements are not yours to turn. If you find one false, say at which input.
  Laid BY PROGRAM, IN A SANDBOX (cutbox-rows.mjs): the forced cells as the released guide's own fill.sh prints them over the translation bdf83fbf10a8f47f… (all of the seat's roots in one cut). By AI agents, Wed Nov 11 2026. No macro, syntax, notation, axiom, sorry.
-/
import Derived.Test.YtlaafmjiiiaceaaDoorChecked
import GoSem.Claim
import GoSem.ClaimJoined
import GoSem.ClaimMapViews
import Derived.JoinedTies
import Derived.KernelRfl
namespace Go.Proofs.YtlaafmjiiiaceaaDoor
/- THE CELL 'sum', in the pinned program and in every row, IS THE sha256 OF THE DUMP (.gsa) THAT YtlaafmjiiiaceaaDoorProg.lean LOADS. Nothing in Lean hashes anything: it is a label: what it is worth is what the hold of that sum in a sandbox is worth. -/
noncomputable def Tryd.pinned : Pinned := { name := "ytlaafmjiiiaceaadoor", sum := "bdf83fbf10a8f47f8d6d284baea88ffdc15f48076e13fca835cb6f219d6df50b", checked := Tryd.checked }
namespace Rows
def none {H : Type} : Left H := { results := [], args := [] }

/- WHAT THE LISTED PACKAGE-LEVEL VARIABLES READ AS WHEN THE CALL BEGINS. Each datum BY PROGRAM (the guide's laid-datum.mjs) off the statement by which the dump's own 'gosem.cut.vars' lays the variable. In a bare row this is a premise. The card (YtlaafmjiiiaceaaDoorCards.lean) ties it to the program's text. -/
def laid_marquee_width_unshown {H : Type} : DataW H := .agg [.agg [.lit (.int .i32 (-2147483648)), .lit (.int .i32 31)], .agg [.lit (.int .i32 127), .lit (.int .i32 159)], .agg [.lit (.int .i32 55296), .lit (.int .i32 57343)], .agg [.lit (.int .i32 1114112), .lit (.int .i32 2147483647)]]
def laid_marquee_width_marks {H : Type} : DataW H := .agg [.agg [.lit (.int .i32 768), .lit (.int .i32 879)], .agg [.lit (.int .i32 1155), .lit (.int .i32 1161)], .agg [.lit (.int .i32 1425), .lit (.int .i32 1469)], .agg [.lit (.int .i32 1471), .lit (.int .i32 1471)], .agg [.lit (.int .i32 1473), .lit (.int .i32 1474)], .agg [.lit (.int .i32 1476), .lit (.int .i32 1477)], .agg [.lit (.int .i32 1479), .lit (.int .i32 1479)], .agg [.lit (.int .i32 1552), .lit (.int .i32 1562)], .agg [.lit (.int .i32 1611), .lit (.int .i32 1631)], .agg [.lit (.int .i32 1648), .lit (.int .i32 1648)], .agg [.lit (.int .i32 1750), .lit (.int .i32 1756)], .agg [.lit (.int .i32 1759), .lit (.int .i32 1764)], .agg [.lit (.int .i32 1767), .lit (.int .i32 1768)], .agg [.lit (.int .i32 1770), .lit (.int .i32 1773)], .agg [.lit (.int .i32 1809), .lit (.int .i32 1809)], .agg [.lit (.int .i32 1840), .lit (.int .i32 1866)], .agg [.lit (.int .i32 1958), .lit (.int .i32 1968)], .agg [.lit (.int .i32 3633), .lit (.int .i32 3633)], .agg [.lit (.int .i32 3636), .lit (.int .i32 3642)], .agg [.lit (.int .i32 3655), .lit (.int .i32 3662)], .agg [.lit (.int .i32 6832), .lit (.int .i32 6862)], .agg [.lit (.int .i32 7616), .lit (.int .i32 7679)], .agg [.lit (.int .i32 8203), .lit (.int .i32 8207)], .agg [.lit (.int .i32 8234), .lit (.int .i32 8238)], .agg [.lit (.int .i32 8288), .lit (.int .i32 8292)], .agg [.lit (.int .i32 8400), .lit (.int .i32 8432)], .agg [.lit (.int .i32 12330), .lit (.int .i32 12333)], .agg [.lit (.int .i32 12441), .lit (.int .i32 12442)], .agg [.lit (.int .i32 65024), .lit (.int .i32 65039)], .agg [.lit (.int .i32 65056), .lit (.int .i32 65071)], .agg [.lit (.int .i32 65279), .lit (.int .i32 65279)], .agg [.lit (.int .i32 917760), .lit (.int .i32 917999)]]
def laid_marquee_width_broad {H : Type} : DataW H := .agg [.agg [.lit (.int .i32 4352), .lit (.int .i32 4447)], .agg [.lit (.int .i32 9001), .lit (.int .i32 9002)], .agg [.lit (.int .i32 11904), .lit (.int .i32 12350)], .agg [.lit (.int .i32 12353), .lit (.int .i32 19903)], .agg [.lit (.int .i32 19968), .lit (.int .i32 42182)], .agg [.lit (.int .i32 44032), .lit (.int .i32 55203)], .agg [.lit (.int .i32 63744), .lit (.int .i32 64255)], .agg [.lit (.int .i32 65040), .lit (.int .i32 65049)], .agg [.lit (.int .i32 65072), .lit (.int .i32 65135)], .agg [.lit (.int .i32 65281), .lit (.int .i32 65376)], .agg [.lit (.int .i32 65504), .lit (.int .i32 65510)], .agg [.lit (.int .i32 127744), .lit (.int .i32 128591)], .agg [.lit (.int .i32 129280), .lit (.int .i32 129535)], .agg [.lit (.int .i32 131072), .lit (.int .i32 196605)], .agg [.lit (.int .i32 196608), .lit (.int .i32 262141)]]

/-- 'marqueelaw12.RectWhole': WHATEVER THE INPUT: true; the input reads as it did. -/
def rectWholeSpec : ChangeSpec := { name := "rectWhole", fn := fun _ => fun
  | [d1, d2] => { results := [.lit (.bool true)], args := [d1, d2] }
  | _ => none }
def rectWholeRow : OpenClaim := { program := "ytlaafmjiiiaceaadoor", sum := "bdf83fbf10a8f47f8d6d284baea88ffdc15f48076e13fca835cb6f219d6df50b", func := "marquee/marqueelaw12.RectWhole", spec := "rectWhole", inPlace := ["internal/abi.NoEscape"], unfollowed := true, recurses := true, named := ["marquee/width.unshown", "marquee/width.marks", "marquee/width.broad"], plainKeys := false, apart := false, laid := [("marquee/width.unshown", laid_marquee_width_unshown), ("marquee/width.marks", laid_marquee_width_marks), ("marquee/width.broad", laid_marquee_width_broad)] }
def RectWholeSaid : Prop := rectWholeRow.holds Tryd.pinned (OpenSpec.ofChange rectWholeSpec)

/-- ITS FALSE NEIGHBOUR: 'it returns false'. Refute it at one input. -/
def rectWholeWrong : ChangeSpec := { name := "rectWhole", fn := fun _ => fun
  | [d1, d2] => { results := [.lit (.bool false)], args := [d1, d2] }
  | _ => none }
def RectWholeWrongFalsely : Prop := rectWholeRow.holds Tryd.pinned (OpenSpec.ofChange rectWholeWrong)

/-- 'marqueelaw12.RectBlind': WHATEVER THE INPUT: true; the input reads as it did. -/
def rectBlindSpec : ChangeSpec := { name := "rectBlind", fn := fun _ => fun
  | [d1, d2, d3] => { results := [.lit (.bool true)], args := [d1, d2, d3] }
  | _ => none }
def rectBlindRow : OpenClaim := { program := "ytlaafmjiiiaceaadoor", sum := "bdf83fbf10a8f47f8d6d284baea88ffdc15f48076e13fca835cb6f219d6df50b", func := "marquee/marqueelaw12.RectBlind", spec := "rectBlind", inPlace := ["internal/abi.NoEscape"], unfollowed := true, recurses := true, named := ["marquee/width.unshown", "marquee/width.marks", "marquee/width.broad"], plainKeys := false, apart := false, laid := [("marquee/width.unshown", laid_marquee_width_unshown), ("marquee/width.marks", laid_marquee_width_marks), ("marquee/width.broad", laid_marquee_width_broad)] }
def RectBlindSaid : Prop := rectBlindRow.holds Tryd.pinned (OpenSpec.ofChange rectBlindSpec)

/-- ITS FALSE NEIGHBOUR: 'it returns false'. Refute it at one input. -/
def rectBlindWrong : ChangeSpec := { name := "rectBlind", fn := fun _ => fun
  | [d1, d2, d3] => { results := [.lit (.bool false)], args := [d1, d2, d3] }
  | _ => none }
def RectBlindWrongFalsely : Prop := rectBlindRow.holds Tryd.pinned (OpenSpec.ofChange rectBlindWrong)

/-- 'marqueelaw12.RectSums': WHATEVER THE INPUT: true; the input reads as it did. -/
def rectSumsSpec : ChangeSpec := { name := "rectSums", fn := fun _ => fun
  | [d1, d2, d3] => { results := [.lit (.bool true)], args := [d1, d2, d3] }
  | _ => none }
def rectSumsRow : OpenClaim := { program := "ytlaafmjiiiaceaadoor", sum := "bdf83fbf10a8f47f8d6d284baea88ffdc15f48076e13fca835cb6f219d6df50b", func := "marquee/marqueelaw12.RectSums", spec := "rectSums", inPlace := ["internal/abi.NoEscape"], unfollowed := true, recurses := true, named := ["marquee/width.unshown", "marquee/width.marks", "marquee/width.broad"], plainKeys := false, apart := false, laid := [("marquee/width.unshown", laid_marquee_width_unshown), ("marquee/width.marks", laid_marquee_width_marks), ("marquee/width.broad", laid_marquee_width_broad)] }
def RectSumsSaid : Prop := rectSumsRow.holds Tryd.pinned (OpenSpec.ofChange rectSumsSpec)

/-- ITS FALSE NEIGHBOUR: 'it returns false'. Refute it at one input. -/
def rectSumsWrong : ChangeSpec := { name := "rectSums", fn := fun _ => fun
  | [d1, d2, d3] => { results := [.lit (.bool false)], args := [d1, d2, d3] }
  | _ => none }
def RectSumsWrongFalsely : Prop := rectSumsRow.holds Tryd.pinned (OpenSpec.ofChange rectSumsWrong)

/-- 'marqueelaw12.RectMoves': WHATEVER THE INPUT: true; the input reads as it did. -/
def rectMovesSpec : ChangeSpec := { name := "rectMoves", fn := fun _ => fun
  | [d1, d2] => { results := [.lit (.bool true)], args := [d1, d2] }
  | _ => none }
def rectMovesRow : OpenClaim := { program := "ytlaafmjiiiaceaadoor", sum := "bdf83fbf10a8f47f8d6d284baea88ffdc15f48076e13fca835cb6f219d6df50b", func := "marquee/marqueelaw12.RectMoves", spec := "rectMoves", inPlace := ["internal/abi.NoEscape"], unfollowed := true, recurses := true, named := ["marquee/width.unshown", "marquee/width.marks", "marquee/width.broad"], plainKeys := false, apart := false, laid := [("marquee/width.unshown", laid_marquee_width_unshown), ("marquee/width.marks", laid_marquee_width_marks), ("marquee/width.broad", laid_marquee_width_broad)] }
def RectMovesSaid : Prop := rectMovesRow.holds Tryd.pinned (OpenSpec.ofChange rectMovesSpec)

/-- ITS FALSE NEIGHBOUR: 'it returns false'. Refute it at one input. -/
def rectMovesWrong : ChangeSpec := { name := "rectMoves", fn := fun _ => fun
  | [d1, d2] => { results := [.lit (.bool false)], args := [d1, d2] }
  | _ => none }
def RectMovesWrongFalsely : Prop := rectMovesRow.holds Tryd.pinned (OpenSpec.ofChange rectMovesWrong)

/-- 'marqueelaw12.RectKnown': WHATEVER THE INPUT: true; the input reads as it did. -/
def rectKnownSpec : ChangeSpec := { name := "rectKnown", fn := fun _ => fun
  | [] => { results := [.lit (.bool true)], args := [] }
  | _ => none }
def rectKnownRow : OpenClaim := { program := "ytlaafmjiiiaceaadoor", sum := "bdf83fbf10a8f47f8d6d284baea88ffdc15f48076e13fca835cb6f219d6df50b", func := "marquee/marqueelaw12.RectKnown", spec := "rectKnown", inPlace := ["internal/abi.NoEscape"], unfollowed := true, recurses := true, named := ["marquee/width.unshown", "marquee/width.marks", "marquee/width.broad"], plainKeys := false, apart := false, laid := [("marquee/width.unshown", laid_marquee_width_unshown), ("marquee/width.marks", laid_marquee_width_marks), ("marquee/width.broad", laid_marquee_width_broad)] }
def RectKnownSaid : Prop := rectKnownRow.holds Tryd.pinned (OpenSpec.ofChange rectKnownSpec)

/-- ITS FALSE NEIGHBOUR: 'it returns false'. Refute it at one input. -/
def rectKnownWrong : ChangeSpec := { name := "rectKnown", fn := fun _ => fun
  | [] => { results := [.lit (.bool false)], args := [] }
  | _ => none }
def RectKnownWrongFalsely : Prop := rectKnownRow.holds Tryd.pinned (OpenSpec.ofChange rectKnownWrong)

/- THE SECOND FORM. 'bulk': how many values and letters a reading holds, each counted each time it is reached (what is shared counts as often as it is met; a slice's spare places count too). A statement '..UptoSaid' is the law's where the arguments, and the package variables that the reading takes, are together of bulk at most 1048576: NARROWER than '..Said'. Prove '..Said' where nothing that the law and all that it calls make is longer than what came in: it says more and counts as full. Else prove '..UptoSaid'. A law counts once. -/
mutual
def uptoBulk {H : Type} : DataW H → Nat
  | .lit (.string bytes) => bytes.length + 1
  | .lit _ => 1
  | .nil => 1
  | .ptr d => uptoBulk d + 1
  | .slice elems spare => uptoBulkAll elems + uptoBulkAll spare + 1
  | .agg parts => uptoBulkAll parts + 1
  | .iface _ d => uptoBulk d + 1
  | .map entries => uptoBulkEntries entries + 1
  | .held _ => 1
def uptoBulkAll {H : Type} : List (DataW H) → Nat
  | [] => 0
  | d :: r => uptoBulk d + uptoBulkAll r
def uptoBulkEntries {H : Type} : List (Lit × DataW H) → Nat
  | [] => 0
  | x :: r => uptoBulkEntry x + uptoBulkEntries r
def uptoBulkEntry {H : Type} : Lit × DataW H → Nat
  | (.string bytes, d) => bytes.length + uptoBulk d + 1
  | (_, d) => uptoBulk d + 1
 end
def uptoSmall : (H : Type) → List (DataW H) → Bool := fun _ ds => decide (uptoBulkAll ds ≤ 1048576)
def OpenSpec.upto (s : _root_.Go.ChangeSpec) : _root_.Go.OpenSpec := { _root_.Go.OpenSpec.ofChange s with cond := some uptoSmall }

/-- 'marqueelaw12.RectWhole', WHERE WHAT IT READS IS OF BULK AT MOST 1048576: true; the input reads as it did. -/
def rectWholeUptoRow : OpenClaim := { program := "ytlaafmjiiiaceaadoor", sum := "bdf83fbf10a8f47f8d6d284baea88ffdc15f48076e13fca835cb6f219d6df50b", func := "marquee/marqueelaw12.RectWhole", spec := "rectWhole", inPlace := ["internal/abi.NoEscape"], unfollowed := true, recurses := true, named := ["marquee/width.unshown", "marquee/width.marks", "marquee/width.broad"], plainKeys := false, apart := false, laid := [("marquee/width.unshown", laid_marquee_width_unshown), ("marquee/width.marks", laid_marquee_width_marks), ("marquee/width.broad", laid_marquee_width_broad)], narrowed := true }
def RectWholeUptoSaid : Prop := rectWholeUptoRow.holds Tryd.pinned (OpenSpec.upto rectWholeSpec)

/-- 'marqueelaw12.RectBlind', WHERE WHAT IT READS IS OF BULK AT MOST 1048576: true; the input reads as it did. -/
def rectBlindUptoRow : OpenClaim := { program := "ytlaafmjiiiaceaadoor", sum := "bdf83fbf10a8f47f8d6d284baea88ffdc15f48076e13fca835cb6f219d6df50b", func := "marquee/marqueelaw12.RectBlind", spec := "rectBlind", inPlace := ["internal/abi.NoEscape"], unfollowed := true, recurses := true, named := ["marquee/width.unshown", "marquee/width.marks", "marquee/width.broad"], plainKeys := false, apart := false, laid := [("marquee/width.unshown", laid_marquee_width_unshown), ("marquee/width.marks", laid_marquee_width_marks), ("marquee/width.broad", laid_marquee_width_broad)], narrowed := true }
def RectBlindUptoSaid : Prop := rectBlindUptoRow.holds Tryd.pinned (OpenSpec.upto rectBlindSpec)

/-- 'marqueelaw12.RectSums', WHERE WHAT IT READS IS OF BULK AT MOST 1048576: true; the input reads as it did. -/
def rectSumsUptoRow : OpenClaim := { program := "ytlaafmjiiiaceaadoor", sum := "bdf83fbf10a8f47f8d6d284baea88ffdc15f48076e13fca835cb6f219d6df50b", func := "marquee/marqueelaw12.RectSums", spec := "rectSums", inPlace := ["internal/abi.NoEscape"], unfollowed := true, recurses := true, named := ["marquee/width.unshown", "marquee/width.marks", "marquee/width.broad"], plainKeys := false, apart := false, laid := [("marquee/width.unshown", laid_marquee_width_unshown), ("marquee/width.marks", laid_marquee_width_marks), ("marquee/width.broad", laid_marquee_width_broad)], narrowed := true }
def RectSumsUptoSaid : Prop := rectSumsUptoRow.holds Tryd.pinned (OpenSpec.upto rectSumsSpec)

/-- 'marqueelaw12.RectMoves', WHERE WHAT IT READS IS OF BULK AT MOST 1048576: true; the input reads as it did. -/
def rectMovesUptoRow : OpenClaim := { program := "ytlaafmjiiiaceaadoor", sum := "bdf83fbf10a8f47f8d6d284baea88ffdc15f48076e13fca835cb6f219d6df50b", func := "marquee/marqueelaw12.RectMoves", spec := "rectMoves", inPlace := ["internal/abi.NoEscape"], unfollowed := true, recurses := true, named := ["marquee/width.unshown", "marquee/width.marks", "marquee/width.broad"], plainKeys := false, apart := false, laid := [("marquee/width.unshown", laid_marquee_width_unshown), ("marquee/width.marks", laid_marquee_width_marks), ("marquee/width.broad", laid_marquee_width_broad)], narrowed := true }
def RectMovesUptoSaid : Prop := rectMovesUptoRow.holds Tryd.pinned (OpenSpec.upto rectMovesSpec)

/-- 'marqueelaw12.RectKnown', WHERE WHAT IT READS IS OF BULK AT MOST 1048576: true; the input reads as it did. -/
def rectKnownUptoRow : OpenClaim := { program := "ytlaafmjiiiaceaadoor", sum := "bdf83fbf10a8f47f8d6d284baea88ffdc15f48076e13fca835cb6f219d6df50b", func := "marquee/marqueelaw12.RectKnown", spec := "rectKnown", inPlace := ["internal/abi.NoEscape"], unfollowed := true, recurses := true, named := ["marquee/width.unshown", "marquee/width.marks", "marquee/width.broad"], plainKeys := false, apart := false, laid := [("marquee/width.unshown", laid_marquee_width_unshown), ("marquee/width.marks", laid_marquee_width_marks), ("marquee/width.broad", laid_marquee_width_broad)], narrowed := true }
def RectKnownUptoSaid : Prop := rectKnownUptoRow.holds Tryd.pinned (OpenSpec.upto rectKnownSpec)

end Rows
end Go.Proofs.YtlaafmjiiiaceaaDoor
