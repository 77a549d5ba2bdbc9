/-
  NARROWER THAN 'FOR EVERY INPUT', by the rows' own cells (each row's printed sentence says how): WidthFits: laid · WidthAdds: laid · WidthRanges: laid · WidthKnown: laid.
  DERIVED. THE GIVEN ROWS OF THIS SEAT. 4 by the template 'for every input the law returns true; each argument reads behind the call as it read before'; 0 by the template 'total and deterministic' (their statements: YtegkoncpoghbfaaDoorTotals.lean).
  GIVEN WITH THE SEED: the statements are not yours to turn. If you find one false, say at which input.
  Laid BY PROGRAM, IN A SANDBOX (cutbox-rows.mjs): the forced cells as the released guide's own fill.sh prints them over the translation d712c16577bb24e6… (all of the seat's roots in one cut). By AI agents, Wed Nov 11 2026. No macro, syntax, notation, axiom, sorry.
-/
import Derived.Test.YtegkoncpoghbfaaDoorChecked
import GoSem.PinnedTables
import GoSem.Claim
import GoSem.ClaimJoined
import GoSem.ClaimMapViews
import Derived.JoinedTies
import Derived.KernelRfl
namespace Go.Proofs.YtegkoncpoghbfaaDoor
/- THE CELL 'sum', in the pinned program and in every row, IS THE sha256 OF THE DUMP (.gsa) THAT YtegkoncpoghbfaaDoorProg.lean LOADS. Nothing in Lean hashes anything: it is a label: what it is worth is what the hold of that sum in a sandbox is worth. -/
noncomputable def Tryd.pinned : Pinned := { name := "ytegkoncpoghbfaadoor", sum := "d712c16577bb24e636314ccb1403108ea4d8ba954ad5844515c40ddf7923da2f", checked := Tryd.checked }
namespace Rows
def none {H : Type} : Left H := { results := [], args := [] }

/- WHAT THE LISTED PACKAGE-LEVEL VARIABLES READ AS WHEN THE CALL BEGINS. Each datum BY PROGRAM (the guide's laid-datum.mjs) off the statement by which the dump's own 'gosem.cut.vars' lays the variable. In a bare row this is a premise. The card (YtegkoncpoghbfaaDoorCards.lean) ties it to the program's text. -/
def laid_unicode_utf8_acceptRanges {H : Type} : DataW H := .agg [.agg [.lit (.int .u8 128), .lit (.int .u8 191)], .agg [.lit (.int .u8 160), .lit (.int .u8 191)], .agg [.lit (.int .u8 128), .lit (.int .u8 159)], .agg [.lit (.int .u8 144), .lit (.int .u8 191)], .agg [.lit (.int .u8 128), .lit (.int .u8 143)], .agg [.lit (.int .u8 0), .lit (.int .u8 0)], .agg [.lit (.int .u8 0), .lit (.int .u8 0)], .agg [.lit (.int .u8 0), .lit (.int .u8 0)], .agg [.lit (.int .u8 0), .lit (.int .u8 0)], .agg [.lit (.int .u8 0), .lit (.int .u8 0)], .agg [.lit (.int .u8 0), .lit (.int .u8 0)], .agg [.lit (.int .u8 0), .lit (.int .u8 0)], .agg [.lit (.int .u8 0), .lit (.int .u8 0)], .agg [.lit (.int .u8 0), .lit (.int .u8 0)], .agg [.lit (.int .u8 0), .lit (.int .u8 0)], .agg [.lit (.int .u8 0), .lit (.int .u8 0)]]
def laid_marquee_width_unshown {H : Type} : DataW H := .agg [.agg [.lit (.int .i32 (-2147483648)), .lit (.int .i32 31)], .agg [.lit (.int .i32 127), .lit (.int .i32 159)], .agg [.lit (.int .i32 55296), .lit (.int .i32 57343)], .agg [.lit (.int .i32 1114112), .lit (.int .i32 2147483647)]]
def laid_marquee_width_marks {H : Type} : DataW H := .agg [.agg [.lit (.int .i32 768), .lit (.int .i32 879)], .agg [.lit (.int .i32 1155), .lit (.int .i32 1161)], .agg [.lit (.int .i32 1425), .lit (.int .i32 1469)], .agg [.lit (.int .i32 1471), .lit (.int .i32 1471)], .agg [.lit (.int .i32 1473), .lit (.int .i32 1474)], .agg [.lit (.int .i32 1476), .lit (.int .i32 1477)], .agg [.lit (.int .i32 1479), .lit (.int .i32 1479)], .agg [.lit (.int .i32 1552), .lit (.int .i32 1562)], .agg [.lit (.int .i32 1611), .lit (.int .i32 1631)], .agg [.lit (.int .i32 1648), .lit (.int .i32 1648)], .agg [.lit (.int .i32 1750), .lit (.int .i32 1756)], .agg [.lit (.int .i32 1759), .lit (.int .i32 1764)], .agg [.lit (.int .i32 1767), .lit (.int .i32 1768)], .agg [.lit (.int .i32 1770), .lit (.int .i32 1773)], .agg [.lit (.int .i32 1809), .lit (.int .i32 1809)], .agg [.lit (.int .i32 1840), .lit (.int .i32 1866)], .agg [.lit (.int .i32 1958), .lit (.int .i32 1968)], .agg [.lit (.int .i32 3633), .lit (.int .i32 3633)], .agg [.lit (.int .i32 3636), .lit (.int .i32 3642)], .agg [.lit (.int .i32 3655), .lit (.int .i32 3662)], .agg [.lit (.int .i32 6832), .lit (.int .i32 6862)], .agg [.lit (.int .i32 7616), .lit (.int .i32 7679)], .agg [.lit (.int .i32 8203), .lit (.int .i32 8207)], .agg [.lit (.int .i32 8234), .lit (.int .i32 8238)], .agg [.lit (.int .i32 8288), .lit (.int .i32 8292)], .agg [.lit (.int .i32 8400), .lit (.int .i32 8432)], .agg [.lit (.int .i32 12330), .lit (.int .i32 12333)], .agg [.lit (.int .i32 12441), .lit (.int .i32 12442)], .agg [.lit (.int .i32 65024), .lit (.int .i32 65039)], .agg [.lit (.int .i32 65056), .lit (.int .i32 65071)], .agg [.lit (.int .i32 65279), .lit (.int .i32 65279)], .agg [.lit (.int .i32 917760), .lit (.int .i32 917999)]]
def laid_marquee_width_broad {H : Type} : DataW H := .agg [.agg [.lit (.int .i32 4352), .lit (.int .i32 4447)], .agg [.lit (.int .i32 9001), .lit (.int .i32 9002)], .agg [.lit (.int .i32 11904), .lit (.int .i32 12350)], .agg [.lit (.int .i32 12353), .lit (.int .i32 19903)], .agg [.lit (.int .i32 19968), .lit (.int .i32 42182)], .agg [.lit (.int .i32 44032), .lit (.int .i32 55203)], .agg [.lit (.int .i32 63744), .lit (.int .i32 64255)], .agg [.lit (.int .i32 65040), .lit (.int .i32 65049)], .agg [.lit (.int .i32 65072), .lit (.int .i32 65135)], .agg [.lit (.int .i32 65281), .lit (.int .i32 65376)], .agg [.lit (.int .i32 65504), .lit (.int .i32 65510)], .agg [.lit (.int .i32 127744), .lit (.int .i32 128591)], .agg [.lit (.int .i32 129280), .lit (.int .i32 129535)], .agg [.lit (.int .i32 131072), .lit (.int .i32 196605)], .agg [.lit (.int .i32 196608), .lit (.int .i32 262141)]]
/-- One of Go's own tables, pinned by name: the form's constant. -/
def laid_unicode_utf8_first : DataW Unit := Go.Pinned.utf8First

/-- 'marqueelaw04.WidthFits': WHATEVER THE INPUT: true; the input reads as it did. -/
def widthFitsSpec : ChangeSpec := { name := "widthFits", fn := fun _ => fun
  | [d1, d2] => { results := [.lit (.bool true)], args := [d1, d2] }
  | _ => none }
def widthFitsRow : OpenClaim := { program := "ytegkoncpoghbfaadoor", sum := "d712c16577bb24e636314ccb1403108ea4d8ba954ad5844515c40ddf7923da2f", func := "marquee/marqueelaw04.WidthFits", spec := "widthFits", unfollowed := true, recurses := true, named := ["marquee/width.unshown", "marquee/width.marks", "marquee/width.broad", "unicode/utf8.first", "unicode/utf8.acceptRanges"], apart := false, laid := [("unicode/utf8.acceptRanges", laid_unicode_utf8_acceptRanges), ("marquee/width.unshown", laid_marquee_width_unshown), ("marquee/width.marks", laid_marquee_width_marks), ("marquee/width.broad", laid_marquee_width_broad), ("unicode/utf8.first", laid_unicode_utf8_first)] }
def WidthFitsSaid : Prop := widthFitsRow.holds Tryd.pinned (OpenSpec.ofChange widthFitsSpec)

/-- ITS FALSE NEIGHBOUR: 'it returns false'. Refute it at one input. -/
def widthFitsWrong : ChangeSpec := { name := "widthFits", fn := fun _ => fun
  | [d1, d2] => { results := [.lit (.bool false)], args := [d1, d2] }
  | _ => none }
def WidthFitsWrongFalsely : Prop := widthFitsRow.holds Tryd.pinned (OpenSpec.ofChange widthFitsWrong)

/-- 'marqueelaw04.WidthAdds': WHATEVER THE INPUT: true; the input reads as it did. -/
def widthAddsSpec : ChangeSpec := { name := "widthAdds", fn := fun _ => fun
  | [d1, d2] => { results := [.lit (.bool true)], args := [d1, d2] }
  | _ => none }
def widthAddsRow : OpenClaim := { program := "ytegkoncpoghbfaadoor", sum := "d712c16577bb24e636314ccb1403108ea4d8ba954ad5844515c40ddf7923da2f", func := "marquee/marqueelaw04.WidthAdds", spec := "widthAdds", unfollowed := true, recurses := true, named := ["marquee/width.unshown", "marquee/width.marks", "marquee/width.broad"], apart := false, laid := [("marquee/width.unshown", laid_marquee_width_unshown), ("marquee/width.marks", laid_marquee_width_marks), ("marquee/width.broad", laid_marquee_width_broad)] }
def WidthAddsSaid : Prop := widthAddsRow.holds Tryd.pinned (OpenSpec.ofChange widthAddsSpec)

/-- ITS FALSE NEIGHBOUR: 'it returns false'. Refute it at one input. -/
def widthAddsWrong : ChangeSpec := { name := "widthAdds", fn := fun _ => fun
  | [d1, d2] => { results := [.lit (.bool false)], args := [d1, d2] }
  | _ => none }
def WidthAddsWrongFalsely : Prop := widthAddsRow.holds Tryd.pinned (OpenSpec.ofChange widthAddsWrong)

/-- 'marqueelaw04.WidthRanges': WHATEVER THE INPUT: true; the input reads as it did. -/
def widthRangesSpec : ChangeSpec := { name := "widthRanges", fn := fun _ => fun
  | [d] => { results := [.lit (.bool true)], args := [d] }
  | _ => none }
def widthRangesRow : OpenClaim := { program := "ytegkoncpoghbfaadoor", sum := "d712c16577bb24e636314ccb1403108ea4d8ba954ad5844515c40ddf7923da2f", func := "marquee/marqueelaw04.WidthRanges", spec := "widthRanges", unfollowed := true, recurses := true, named := ["marquee/width.unshown", "marquee/width.marks", "marquee/width.broad"], apart := false, laid := [("marquee/width.unshown", laid_marquee_width_unshown), ("marquee/width.marks", laid_marquee_width_marks), ("marquee/width.broad", laid_marquee_width_broad)] }
def WidthRangesSaid : Prop := widthRangesRow.holds Tryd.pinned (OpenSpec.ofChange widthRangesSpec)

/-- ITS FALSE NEIGHBOUR: 'it returns false'. Refute it at one input. -/
def widthRangesWrong : ChangeSpec := { name := "widthRanges", fn := fun _ => fun
  | [d] => { results := [.lit (.bool false)], args := [d] }
  | _ => none }
def WidthRangesWrongFalsely : Prop := widthRangesRow.holds Tryd.pinned (OpenSpec.ofChange widthRangesWrong)

/-- 'marqueelaw04.WidthKnown': WHATEVER THE INPUT: true; the input reads as it did. -/
def widthKnownSpec : ChangeSpec := { name := "widthKnown", fn := fun _ => fun
  | [] => { results := [.lit (.bool true)], args := [] }
  | _ => none }
def widthKnownRow : OpenClaim := { program := "ytegkoncpoghbfaadoor", sum := "d712c16577bb24e636314ccb1403108ea4d8ba954ad5844515c40ddf7923da2f", func := "marquee/marqueelaw04.WidthKnown", spec := "widthKnown", unfollowed := true, recurses := true, named := ["marquee/width.unshown", "marquee/width.marks", "marquee/width.broad"], apart := false, laid := [("marquee/width.unshown", laid_marquee_width_unshown), ("marquee/width.marks", laid_marquee_width_marks), ("marquee/width.broad", laid_marquee_width_broad)] }
def WidthKnownSaid : Prop := widthKnownRow.holds Tryd.pinned (OpenSpec.ofChange widthKnownSpec)

/-- ITS FALSE NEIGHBOUR: 'it returns false'. Refute it at one input. -/
def widthKnownWrong : ChangeSpec := { name := "widthKnown", fn := fun _ => fun
  | [] => { results := [.lit (.bool false)], args := [] }
  | _ => none }
def WidthKnownWrongFalsely : Prop := widthKnownRow.holds Tryd.pinned (OpenSpec.ofChange widthKnownWrong)

/- THE SECOND FORM. 'bulk': how many values and letters a reading holds, each counted each time it is reached (what is shared counts as often as it is met; a slice's spare places count too). A statement '..UptoSaid' is the law's where the arguments, and the package variables that the reading takes, are together of bulk at most 1048576: NARROWER than '..Said'. Prove '..Said' where nothing that the law and all that it calls make is longer than what came in: it says more and counts as full. Else prove '..UptoSaid'. A law counts once. -/
mutual
def uptoBulk {H : Type} : DataW H → Nat
  | .lit (.string bytes) => bytes.length + 1
  | .lit _ => 1
  | .nil => 1
  | .ptr d => uptoBulk d + 1
  | .slice elems spare => uptoBulkAll elems + uptoBulkAll spare + 1
  | .agg parts => uptoBulkAll parts + 1
  | .iface _ d => uptoBulk d + 1
  | .map entries => uptoBulkEntries entries + 1
  | .held _ => 1
def uptoBulkAll {H : Type} : List (DataW H) → Nat
  | [] => 0
  | d :: r => uptoBulk d + uptoBulkAll r
def uptoBulkEntries {H : Type} : List (Lit × DataW H) → Nat
  | [] => 0
  | x :: r => uptoBulkEntry x + uptoBulkEntries r
def uptoBulkEntry {H : Type} : Lit × DataW H → Nat
  | (.string bytes, d) => bytes.length + uptoBulk d + 1
  | (_, d) => uptoBulk d + 1
 end
def uptoSmall : (H : Type) → List (DataW H) → Bool := fun _ ds => decide (uptoBulkAll ds ≤ 1048576)
def OpenSpec.upto (s : _root_.Go.ChangeSpec) : _root_.Go.OpenSpec := { _root_.Go.OpenSpec.ofChange s with cond := some uptoSmall }

/-- 'marqueelaw04.WidthFits', WHERE WHAT IT READS IS OF BULK AT MOST 1048576: true; the input reads as it did. -/
def widthFitsUptoRow : OpenClaim := { program := "ytegkoncpoghbfaadoor", sum := "d712c16577bb24e636314ccb1403108ea4d8ba954ad5844515c40ddf7923da2f", func := "marquee/marqueelaw04.WidthFits", spec := "widthFits", unfollowed := true, recurses := true, named := ["marquee/width.unshown", "marquee/width.marks", "marquee/width.broad", "unicode/utf8.first", "unicode/utf8.acceptRanges"], apart := false, laid := [("unicode/utf8.acceptRanges", laid_unicode_utf8_acceptRanges), ("marquee/width.unshown", laid_marquee_width_unshown), ("marquee/width.marks", laid_marquee_width_marks), ("marquee/width.broad", laid_marquee_width_broad), ("unicode/utf8.first", laid_unicode_utf8_first)], narrowed := true }
def WidthFitsUptoSaid : Prop := widthFitsUptoRow.holds Tryd.pinned (OpenSpec.upto widthFitsSpec)

/-- 'marqueelaw04.WidthAdds', WHERE WHAT IT READS IS OF BULK AT MOST 1048576: true; the input reads as it did. -/
def widthAddsUptoRow : OpenClaim := { program := "ytegkoncpoghbfaadoor", sum := "d712c16577bb24e636314ccb1403108ea4d8ba954ad5844515c40ddf7923da2f", func := "marquee/marqueelaw04.WidthAdds", spec := "widthAdds", unfollowed := true, recurses := true, named := ["marquee/width.unshown", "marquee/width.marks", "marquee/width.broad"], apart := false, laid := [("marquee/width.unshown", laid_marquee_width_unshown), ("marquee/width.marks", laid_marquee_width_marks), ("marquee/width.broad", laid_marquee_width_broad)], narrowed := true }
def WidthAddsUptoSaid : Prop := widthAddsUptoRow.holds Tryd.pinned (OpenSpec.upto widthAddsSpec)

/-- 'marqueelaw04.WidthRanges', WHERE WHAT IT READS IS OF BULK AT MOST 1048576: true; the input reads as it did. -/
def widthRangesUptoRow : OpenClaim := { program := "ytegkoncpoghbfaadoor", sum := "d712c16577bb24e636314ccb1403108ea4d8ba954ad5844515c40ddf7923da2f", func := "marquee/marqueelaw04.WidthRanges", spec := "widthRanges", unfollowed := true, recurses := true, named := ["marquee/width.unshown", "marquee/width.marks", "marquee/width.broad"], apart := false, laid := [("marquee/width.unshown", laid_marquee_width_unshown), ("marquee/width.marks", laid_marquee_width_marks), ("marquee/width.broad", laid_marquee_width_broad)], narrowed := true }
def WidthRangesUptoSaid : Prop := widthRangesUptoRow.holds Tryd.pinned (OpenSpec.upto widthRangesSpec)

/-- 'marqueelaw04.WidthKnown', WHERE WHAT IT READS IS OF BULK AT MOST 1048576: true; the input reads as it did. -/
def widthKnownUptoRow : OpenClaim := { program := "ytegkoncpoghbfaadoor", sum := "d712c16577bb24e636314ccb1403108ea4d8ba954ad5844515c40ddf7923da2f", func := "marquee/marqueelaw04.WidthKnown", spec := "widthKnown", unfollowed := true, recurses := true, named := ["marquee/width.unshown", "marquee/width.marks", "marquee/width.broad"], apart := false, laid := [("marquee/width.unshown", laid_marquee_width_unshown), ("marquee/width.marks", laid_marquee_width_marks), ("marquee/width.broad", laid_marquee_width_broad)], narrowed := true }
def WidthKnownUptoSaid : Prop := widthKnownUptoRow.holds Tryd.pinned (OpenSpec.upto widthKnownSpec)

end Rows
end Go.Proofs.YtegkoncpoghbfaaDoor
