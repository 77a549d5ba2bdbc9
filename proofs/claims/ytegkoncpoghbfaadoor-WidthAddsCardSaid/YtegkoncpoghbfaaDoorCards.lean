/-
  DERIVED. GIVEN WITH THE SEED: THE CARDS: each row of YtegkoncpoghbfaaDoorRows.lean that lists a variable, with what it lists TIED to the program's text (the seventh form; the later family's looks); each row that meets fmt, with fmt's text TOLD by the authors' own Lean function (tested against real Go, not proved from fmt's source: count such statements apart). THE CARD IS WHAT COUNTS. Prove the row's statement (the work); the ties are given (YtegkoncpoghbfaaDoorTie.lean); close each card by the builder's one call (the guide's Derived/Test/ToyasCard.lean, 'card_holds'). Laid BY PROGRAM, IN A SANDBOX (cutbox-door.mjs). By AI agents, Wed Nov 11 2026. No macro, syntax, notation, axiom, sorry.
-/
import Derived.Test.YtegkoncpoghbfaaDoorRows
import GoSem.ClaimSeven
namespace Go.Proofs.YtegkoncpoghbfaaDoor
namespace Rows

/-- THE TIED CARD OF 'marqueelaw04.WidthFits'. -/
def widthFitsCard : Claim7 := { stood := { row := widthFitsRow, standIns := [], harness := (true, "ab4be2f0186d340513f0266e04469742797fad6579aae0819c2062eee9bb97c5"), looks := false }, kinds := [], alts := [], laidByText := true, laidKinds := [.data, .data, .data, .data, .pinned], laidTests := true, laidLooks := .later }
def WidthFitsCardSaid : Prop := Claim7.holds Tryd.pinned (.plain (OpenSpec.ofChange widthFitsSpec)) widthFitsCard

/-- THE TIED CARD OF 'marqueelaw04.WidthAdds'. -/
def widthAddsCard : Claim7 := { stood := { row := widthAddsRow, standIns := [], harness := (true, "ab4be2f0186d340513f0266e04469742797fad6579aae0819c2062eee9bb97c5"), looks := false }, kinds := [], alts := [], laidByText := true, laidKinds := [.data, .data, .data], laidTests := true, laidLooks := .later }
def WidthAddsCardSaid : Prop := Claim7.holds Tryd.pinned (.plain (OpenSpec.ofChange widthAddsSpec)) widthAddsCard

/-- THE TIED CARD OF 'marqueelaw04.WidthRanges'. -/
def widthRangesCard : Claim7 := { stood := { row := widthRangesRow, standIns := [], harness := (true, "ab4be2f0186d340513f0266e04469742797fad6579aae0819c2062eee9bb97c5"), looks := false }, kinds := [], alts := [], laidByText := true, laidKinds := [.data, .data, .data], laidTests := true, laidLooks := .later }
def WidthRangesCardSaid : Prop := Claim7.holds Tryd.pinned (.plain (OpenSpec.ofChange widthRangesSpec)) widthRangesCard

/-- THE TIED CARD OF 'marqueelaw04.WidthKnown'. -/
def widthKnownCard : Claim7 := { stood := { row := widthKnownRow, standIns := [], harness := (true, "ab4be2f0186d340513f0266e04469742797fad6579aae0819c2062eee9bb97c5"), looks := false }, kinds := [], alts := [], laidByText := true, laidKinds := [.data, .data, .data], laidTests := true, laidLooks := .later }
def WidthKnownCardSaid : Prop := Claim7.holds Tryd.pinned (.plain (OpenSpec.ofChange widthKnownSpec)) widthKnownCard

/-- THE SECOND FORM's CARD OF 'marqueelaw04.WidthFits'. -/
def widthFitsUptoCard : Claim7 := { stood := { row := widthFitsUptoRow, standIns := [], harness := (true, "ab4be2f0186d340513f0266e04469742797fad6579aae0819c2062eee9bb97c5"), looks := false }, kinds := [], alts := [], laidByText := true, laidKinds := [.data, .data, .data, .data, .pinned], laidTests := true, laidLooks := .later }
def WidthFitsUptoCardSaid : Prop := Claim7.holds Tryd.pinned (.plain (OpenSpec.upto widthFitsSpec)) widthFitsUptoCard

/-- THE SECOND FORM's CARD OF 'marqueelaw04.WidthAdds'. -/
def widthAddsUptoCard : Claim7 := { stood := { row := widthAddsUptoRow, standIns := [], harness := (true, "ab4be2f0186d340513f0266e04469742797fad6579aae0819c2062eee9bb97c5"), looks := false }, kinds := [], alts := [], laidByText := true, laidKinds := [.data, .data, .data], laidTests := true, laidLooks := .later }
def WidthAddsUptoCardSaid : Prop := Claim7.holds Tryd.pinned (.plain (OpenSpec.upto widthAddsSpec)) widthAddsUptoCard

/-- THE SECOND FORM's CARD OF 'marqueelaw04.WidthRanges'. -/
def widthRangesUptoCard : Claim7 := { stood := { row := widthRangesUptoRow, standIns := [], harness := (true, "ab4be2f0186d340513f0266e04469742797fad6579aae0819c2062eee9bb97c5"), looks := false }, kinds := [], alts := [], laidByText := true, laidKinds := [.data, .data, .data], laidTests := true, laidLooks := .later }
def WidthRangesUptoCardSaid : Prop := Claim7.holds Tryd.pinned (.plain (OpenSpec.upto widthRangesSpec)) widthRangesUptoCard

/-- THE SECOND FORM's CARD OF 'marqueelaw04.WidthKnown'. -/
def widthKnownUptoCard : Claim7 := { stood := { row := widthKnownUptoRow, standIns := [], harness := (true, "ab4be2f0186d340513f0266e04469742797fad6579aae0819c2062eee9bb97c5"), looks := false }, kinds := [], alts := [], laidByText := true, laidKinds := [.data, .data, .data], laidTests := true, laidLooks := .later }
def WidthKnownUptoCardSaid : Prop := Claim7.holds Tryd.pinned (.plain (OpenSpec.upto widthKnownSpec)) widthKnownUptoCard
end Rows
end Go.Proofs.YtegkoncpoghbfaaDoor
