/-
  DERIVED. GIVEN WITH THE SEED: THE CARDS: each row of YtlaafmjiiiaceaaDoorRows.lean that lists a variable, with what it lists TIED to the program's text (the seventh form; the later family's looks); each row that meets fmt, with fmt's text TOLD by the authors' own Lean function (tested against real Go, not proved from fmt's source: count such statements apart). THE CARD IS WHAT COUNTS. Prove the row's statement (the work); the ties are given (YtlaafmjiiiaceaaDoorTie.lean); close each card by the builder's one call (the guide's Derived/Test/ToyasCard.lean, 'card_holds'). Laid BY PROGRAM, IN A SANDBOX (cutbox-door.mjs). By AI agents, Wed Nov 11 2026. No macro, syntax, notation, axiom, sorry.
-/
import Derived.Test.YtlaafmjiiiaceaaDoorRows
import GoSem.ClaimSeven
namespace Go.Proofs.YtlaafmjiiiaceaaDoor
namespace Rows

/-- THE TIED CARD OF 'marqueelaw12.RectWhole'. -/
def rectWholeCard : Claim7 := { stood := { row := rectWholeRow, standIns := [], harness := (true, "c33abe4d826655ae2885530c4771564fb61809db11574d1dc6a011f4cbfb80c7"), looks := false }, kinds := [], alts := [], laidByText := true, laidKinds := [.data, .data, .data], laidTests := true, laidLooks := .later }
def RectWholeCardSaid : Prop := Claim7.holds Tryd.pinned (.plain (OpenSpec.ofChange rectWholeSpec)) rectWholeCard

/-- THE TIED CARD OF 'marqueelaw12.RectBlind'. -/
def rectBlindCard : Claim7 := { stood := { row := rectBlindRow, standIns := [], harness := (true, "c33abe4d826655ae2885530c4771564fb61809db11574d1dc6a011f4cbfb80c7"), looks := false }, kinds := [], alts := [], laidByText := true, laidKinds := [.data, .data, .data], laidTests := true, laidLooks := .later }
def RectBlindCardSaid : Prop := Claim7.holds Tryd.pinned (.plain (OpenSpec.ofChange rectBlindSpec)) rectBlindCard

/-- THE TIED CARD OF 'marqueelaw12.RectSums'. -/
def rectSumsCard : Claim7 := { stood := { row := rectSumsRow, standIns := [], harness := (true, "c33abe4d826655ae2885530c4771564fb61809db11574d1dc6a011f4cbfb80c7"), looks := false }, kinds := [], alts := [], laidByText := true, laidKinds := [.data, .data, .data], laidTests := true, laidLooks := .later }
def RectSumsCardSaid : Prop := Claim7.holds Tryd.pinned (.plain (OpenSpec.ofChange rectSumsSpec)) rectSumsCard

/-- THE TIED CARD OF 'marqueelaw12.RectMoves'. -/
def rectMovesCard : Claim7 := { stood := { row := rectMovesRow, standIns := [], harness := (true, "c33abe4d826655ae2885530c4771564fb61809db11574d1dc6a011f4cbfb80c7"), looks := false }, kinds := [], alts := [], laidByText := true, laidKinds := [.data, .data, .data], laidTests := true, laidLooks := .later }
def RectMovesCardSaid : Prop := Claim7.holds Tryd.pinned (.plain (OpenSpec.ofChange rectMovesSpec)) rectMovesCard

/-- THE TIED CARD OF 'marqueelaw12.RectKnown'. -/
def rectKnownCard : Claim7 := { stood := { row := rectKnownRow, standIns := [], harness := (true, "c33abe4d826655ae2885530c4771564fb61809db11574d1dc6a011f4cbfb80c7"), looks := false }, kinds := [], alts := [], laidByText := true, laidKinds := [.data, .data, .data], laidTests := true, laidLooks := .later }
def RectKnownCardSaid : Prop := Claim7.holds Tryd.pinned (.plain (OpenSpec.ofChange rectKnownSpec)) rectKnownCard

/-- THE SECOND FORM's CARD OF 'marqueelaw12.RectWhole'. -/
def rectWholeUptoCard : Claim7 := { stood := { row := rectWholeUptoRow, standIns := [], harness := (true, "c33abe4d826655ae2885530c4771564fb61809db11574d1dc6a011f4cbfb80c7"), looks := false }, kinds := [], alts := [], laidByText := true, laidKinds := [.data, .data, .data], laidTests := true, laidLooks := .later }
def RectWholeUptoCardSaid : Prop := Claim7.holds Tryd.pinned (.plain (OpenSpec.upto rectWholeSpec)) rectWholeUptoCard

/-- THE SECOND FORM's CARD OF 'marqueelaw12.RectBlind'. -/
def rectBlindUptoCard : Claim7 := { stood := { row := rectBlindUptoRow, standIns := [], harness := (true, "c33abe4d826655ae2885530c4771564fb61809db11574d1dc6a011f4cbfb80c7"), looks := false }, kinds := [], alts := [], laidByText := true, laidKinds := [.data, .data, .data], laidTests := true, laidLooks := .later }
def RectBlindUptoCardSaid : Prop := Claim7.holds Tryd.pinned (.plain (OpenSpec.upto rectBlindSpec)) rectBlindUptoCard

/-- THE SECOND FORM's CARD OF 'marqueelaw12.RectSums'. -/
def rectSumsUptoCard : Claim7 := { stood := { row := rectSumsUptoRow, standIns := [], harness := (true, "c33abe4d826655ae2885530c4771564fb61809db11574d1dc6a011f4cbfb80c7"), looks := false }, kinds := [], alts := [], laidByText := true, laidKinds := [.data, .data, .data], laidTests := true, laidLooks := .later }
def RectSumsUptoCardSaid : Prop := Claim7.holds Tryd.pinned (.plain (OpenSpec.upto rectSumsSpec)) rectSumsUptoCard

/-- THE SECOND FORM's CARD OF 'marqueelaw12.RectMoves'. -/
def rectMovesUptoCard : Claim7 := { stood := { row := rectMovesUptoRow, standIns := [], harness := (true, "c33abe4d826655ae2885530c4771564fb61809db11574d1dc6a011f4cbfb80c7"), looks := false }, kinds := [], alts := [], laidByText := true, laidKinds := [.data, .data, .data], laidTests := true, laidLooks := .later }
def RectMovesUptoCardSaid : Prop := Claim7.holds Tryd.pinned (.plain (OpenSpec.upto rectMovesSpec)) rectMovesUptoCard

/-- THE SECOND FORM's CARD OF 'marqueelaw12.RectKnown'. -/
def rectKnownUptoCard : Claim7 := { stood := { row := rectKnownUptoRow, standIns := [], harness := (true, "c33abe4d826655ae2885530c4771564fb61809db11574d1dc6a011f4cbfb80c7"), looks := false }, kinds := [], alts := [], laidByText := true, laidKinds := [.data, .data, .data], laidTests := true, laidLooks := .later }
def RectKnownUptoCardSaid : Prop := Claim7.holds Tryd.pinned (.plain (OpenSpec.upto rectKnownSpec)) rectKnownUptoCard
end Rows
end Go.Proofs.YtlaafmjiiiaceaaDoor
