/-
  DERIVED. GIVEN WITH THE SEED: THE CARDS: each row of YthehpnhjfnenoabDoorRows.lean that lists a variable, with what it lists TIED to the program's text (the seventh form; the later family's looks); each row that meets fmt, with fmt's text TOLD by the authors' own Lean function (tested against real Go, not proved from fmt's source: count such statements apart). THE CARD IS WHAT COUNTS. Prove the row's statement (the work); the ties are given (YthehpnhjfnenoabDoorTie.lean); close each card by the builder's one call (the guide's Derived/Test/ToyasCard.lean, 'card_holds'). Laid BY PROGRAM, IN A SANDBOX (cutbox-door.mjs). By AI agents, Wed Nov 11 2026. No macro, syntax, notation, axiom, sorry.
-/
import Derived.Test.YthehpnhjfnenoabDoorRows
import GoSem.ClaimSeven
namespace Go.Proofs.YthehpnhjfnenoabDoor
namespace Rows

/-- THE TIED CARD OF 'herepathlaw1.SetParts'. -/
def setPartsCard : Claim7 := { stood := { row := setPartsRow, standIns := [], harness := (true, "1abe1373a83163803089ff1dfbaeb9bc1d250135e3d291c156dffba9c13fc117"), looks := true }, kinds := [], alts := [], laidByText := true, laidKinds := [.data, .data, .sentinel, .sentinel], laidTests := true, laidLooks := .later }
def SetPartsCardSaid : Prop := Claim7.holds Tryd.pinned (.plain (OpenSpec.ofChange setPartsSpec)) setPartsCard

/-- THE TIED CARD OF 'herepathlaw1.FibLongest'. -/
def fibLongestCard : Claim7 := { stood := { row := fibLongestRow, standIns := [], harness := (true, "1abe1373a83163803089ff1dfbaeb9bc1d250135e3d291c156dffba9c13fc117"), looks := true }, kinds := [], alts := [], laidByText := true, laidKinds := [.sentinel, .sentinel, .sentinel, .sentinel, .sentinel], laidTests := true, laidLooks := .later }
def FibLongestCardSaid : Prop := Claim7.holds Tryd.pinned (.plain (OpenSpec.ofChange fibLongestSpec)) fibLongestCard

/-- THE TIED CARD OF 'herepathlaw1.FibOrder'. -/
def fibOrderCard : Claim7 := { stood := { row := fibOrderRow, standIns := [], harness := (true, "1abe1373a83163803089ff1dfbaeb9bc1d250135e3d291c156dffba9c13fc117"), looks := true }, kinds := [], alts := [], laidByText := true, laidKinds := [.sentinel, .sentinel, .sentinel, .sentinel], laidTests := true, laidLooks := .later }
def FibOrderCardSaid : Prop := Claim7.holds Tryd.pinned (.plain (OpenSpec.ofChange fibOrderSpec)) fibOrderCard

/-- THE TIED CARD OF 'herepathlaw1.FibActs'. -/
def fibActsCard : Claim7 := { stood := { row := fibActsRow, standIns := [], harness := (true, "1abe1373a83163803089ff1dfbaeb9bc1d250135e3d291c156dffba9c13fc117"), looks := true }, kinds := [], alts := [], laidByText := true, laidKinds := [.handle, .sentinel, .sentinel, .sentinel, .sentinel, .sentinel, .sentinel, .sentinel, .sentinel, .sentinel], laidTests := true, laidLooks := .later }
def FibActsCardSaid : Prop := Claim7.holds Tryd.pinned (.plain (OpenSpec.ofChange fibActsSpec)) fibActsCard

/-- THE SECOND FORM's CARD OF 'herepathlaw1.SetParts'. -/
def setPartsUptoCard : Claim7 := { stood := { row := setPartsUptoRow, standIns := [], harness := (true, "1abe1373a83163803089ff1dfbaeb9bc1d250135e3d291c156dffba9c13fc117"), looks := true }, kinds := [], alts := [], laidByText := true, laidKinds := [.data, .data, .sentinel, .sentinel], laidTests := true, laidLooks := .later }
def SetPartsUptoCardSaid : Prop := Claim7.holds Tryd.pinned (.plain (OpenSpec.upto setPartsSpec)) setPartsUptoCard

/-- THE SECOND FORM's CARD OF 'herepathlaw1.FibLongest'. -/
def fibLongestUptoCard : Claim7 := { stood := { row := fibLongestUptoRow, standIns := [], harness := (true, "1abe1373a83163803089ff1dfbaeb9bc1d250135e3d291c156dffba9c13fc117"), looks := true }, kinds := [], alts := [], laidByText := true, laidKinds := [.sentinel, .sentinel, .sentinel, .sentinel, .sentinel], laidTests := true, laidLooks := .later }
def FibLongestUptoCardSaid : Prop := Claim7.holds Tryd.pinned (.plain (OpenSpec.upto fibLongestSpec)) fibLongestUptoCard

/-- THE SECOND FORM's CARD OF 'herepathlaw1.FibOrder'. -/
def fibOrderUptoCard : Claim7 := { stood := { row := fibOrderUptoRow, standIns := [], harness := (true, "1abe1373a83163803089ff1dfbaeb9bc1d250135e3d291c156dffba9c13fc117"), looks := true }, kinds := [], alts := [], laidByText := true, laidKinds := [.sentinel, .sentinel, .sentinel, .sentinel], laidTests := true, laidLooks := .later }
def FibOrderUptoCardSaid : Prop := Claim7.holds Tryd.pinned (.plain (OpenSpec.upto fibOrderSpec)) fibOrderUptoCard

/-- THE SECOND FORM's CARD OF 'herepathlaw1.FibActs'. -/
def fibActsUptoCard : Claim7 := { stood := { row := fibActsUptoRow, standIns := [], harness := (true, "1abe1373a83163803089ff1dfbaeb9bc1d250135e3d291c156dffba9c13fc117"), looks := true }, kinds := [], alts := [], laidByText := true, laidKinds := [.handle, .sentinel, .sentinel, .sentinel, .sentinel, .sentinel, .sentinel, .sentinel, .sentinel, .sentinel], laidTests := true, laidLooks := .later }
def FibActsUptoCardSaid : Prop := Claim7.holds Tryd.pinned (.plain (OpenSpec.upto fibActsSpec)) fibActsUptoCard
end Rows
end Go.Proofs.YthehpnhjfnenoabDoor
