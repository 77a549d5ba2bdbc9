/-
  DERIVED. GIVEN WITH THE SEED: THE CARDS: each row of YthcncghhjlaicaaDoorRows.lean that lists a variable, with what it lists TIED to the program's text (the seventh form; the later family's looks); each row that meets fmt, with fmt's text TOLD by the authors' own Lean function (tested against real Go, not proved from fmt's source: count such statements apart). THE CARD IS WHAT COUNTS. Prove the row's statement (the work); the ties are given (YthcncghhjlaicaaDoorTie.lean); close each card by the builder's one call (the guide's Derived/Test/ToyasCard.lean, 'card_holds'). Laid BY PROGRAM, IN A SANDBOX (cutbox-door.mjs). By AI agents, Wed Nov 11 2026. No macro, syntax, notation, axiom, sorry.
-/
import Derived.Test.YthcncghhjlaicaaDoorRows
import GoSem.ClaimSeven
namespace Go.Proofs.YthcncghhjlaicaaDoor
namespace Rows

/-- THE TIED CARD OF 'marqueelaw02.ColorBack'. -/
def colorBackCard : Claim7 := { stood := { row := colorBackRow, standIns := [], harness := (true, "5891684685c8759ae57ef40b292376075b1a5dde9576ebd57908df30f0bb203f"), looks := false }, kinds := [], alts := [], laidByText := true, laidKinds := [.data, .pinned, .pinned], laidTests := true, laidLooks := .later }
def ColorBackCardSaid : Prop := Claim7.holds Tryd.pinned (.plain (OpenSpec.ofChange colorBackSpec)) colorBackCard

/-- THE TIED CARD OF 'marqueelaw02.ColorScales'. -/
def colorScalesCard : Claim7 := { stood := { row := colorScalesRow, standIns := [], harness := (true, "5891684685c8759ae57ef40b292376075b1a5dde9576ebd57908df30f0bb203f"), looks := false }, kinds := [], alts := [], laidByText := true, laidKinds := [.data, .pinned], laidTests := true, laidLooks := .later }
def ColorScalesCardSaid : Prop := Claim7.holds Tryd.pinned (.plain (OpenSpec.ofChange colorScalesSpec)) colorScalesCard

/-- THE SECOND FORM's CARD OF 'marqueelaw02.ColorBack'. -/
def colorBackUptoCard : Claim7 := { stood := { row := colorBackUptoRow, standIns := [], harness := (true, "5891684685c8759ae57ef40b292376075b1a5dde9576ebd57908df30f0bb203f"), looks := false }, kinds := [], alts := [], laidByText := true, laidKinds := [.data, .pinned, .pinned], laidTests := true, laidLooks := .later }
def ColorBackUptoCardSaid : Prop := Claim7.holds Tryd.pinned (.plain (OpenSpec.upto colorBackSpec)) colorBackUptoCard

/-- THE SECOND FORM's CARD OF 'marqueelaw02.ColorScales'. -/
def colorScalesUptoCard : Claim7 := { stood := { row := colorScalesUptoRow, standIns := [], harness := (true, "5891684685c8759ae57ef40b292376075b1a5dde9576ebd57908df30f0bb203f"), looks := false }, kinds := [], alts := [], laidByText := true, laidKinds := [.data, .pinned], laidTests := true, laidLooks := .later }
def ColorScalesUptoCardSaid : Prop := Claim7.holds Tryd.pinned (.plain (OpenSpec.upto colorScalesSpec)) colorScalesUptoCard
end Rows
end Go.Proofs.YthcncghhjlaicaaDoor
