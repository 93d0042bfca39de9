/-
  DERIVED. GIVEN WITH THE SEED: THE CARDS: each row of YtfkklekmkginfaaDoorRows.lean that lists a variable, with what it lists TIED to the program's text (the seventh form; the later family's looks); each row that meets fmt, with fmt's text TOLD by the authors' own Lean function (tested against real Go, not proved from fmt's source: count such statements apart). THE CARD IS WHAT COUNTS. Prove the row's statement (the work); the ties are given (YtfkklekmkginfaaDoorTie.lean); close each card by the builder's one call (the guide's Derived/Test/ToyasCard.lean, 'card_holds'). Laid BY PROGRAM, IN A SANDBOX (cutbox-door.mjs). By AI agents, Wed Nov 11 2026. No macro, syntax, notation, axiom, sorry.
-/
import Derived.Test.YtfkklekmkginfaaDoorRows
import GoSem.ClaimSeven
namespace Go.Proofs.YtfkklekmkginfaaDoor
namespace Rows

/-- THE TIED CARD OF 'herepathlaw1.FibLongest'. -/
def fibLongestCard : Claim7 := { stood := { row := fibLongestRow, standIns := [], harness := (true, "e871dc5bb193d09e86362f1096174039cdb626d141fd3bc4707081752fa230a0"), looks := true }, kinds := [], alts := [], laidByText := true, laidKinds := [.sentinel, .sentinel, .sentinel, .sentinel, .sentinel], laidTests := true, laidLooks := .later }
def FibLongestCardSaid : Prop := Claim7.holds Tryd.pinned (.plain (OpenSpec.ofChange fibLongestSpec)) fibLongestCard

/-- THE TIED CARD OF 'herepathlaw1.FibOrder'. -/
def fibOrderCard : Claim7 := { stood := { row := fibOrderRow, standIns := [], harness := (true, "e871dc5bb193d09e86362f1096174039cdb626d141fd3bc4707081752fa230a0"), looks := true }, kinds := [], alts := [], laidByText := true, laidKinds := [.sentinel, .sentinel, .sentinel, .sentinel], laidTests := true, laidLooks := .later }
def FibOrderCardSaid : Prop := Claim7.holds Tryd.pinned (.plain (OpenSpec.ofChange fibOrderSpec)) fibOrderCard

/-- THE TIED CARD OF 'herepathlaw1.FibActs'. -/
def fibActsCard : Claim7 := { stood := { row := fibActsRow, standIns := [], harness := (true, "e871dc5bb193d09e86362f1096174039cdb626d141fd3bc4707081752fa230a0"), looks := true }, kinds := [], alts := [], laidByText := true, laidKinds := [.handle, .sentinel, .sentinel, .sentinel, .sentinel, .sentinel, .sentinel, .sentinel, .sentinel, .sentinel], laidTests := true, laidLooks := .later }
def FibActsCardSaid : Prop := Claim7.holds Tryd.pinned (.plain (OpenSpec.ofChange fibActsSpec)) fibActsCard

/-- THE SECOND FORM's CARD OF 'herepathlaw1.FibLongest'. -/
def fibLongestUptoCard : Claim7 := { stood := { row := fibLongestUptoRow, standIns := [], harness := (true, "e871dc5bb193d09e86362f1096174039cdb626d141fd3bc4707081752fa230a0"), looks := true }, kinds := [], alts := [], laidByText := true, laidKinds := [.sentinel, .sentinel, .sentinel, .sentinel, .sentinel], laidTests := true, laidLooks := .later }
def FibLongestUptoCardSaid : Prop := Claim7.holds Tryd.pinned (.plain (OpenSpec.upto fibLongestSpec)) fibLongestUptoCard

/-- THE SECOND FORM's CARD OF 'herepathlaw1.FibOrder'. -/
def fibOrderUptoCard : Claim7 := { stood := { row := fibOrderUptoRow, standIns := [], harness := (true, "e871dc5bb193d09e86362f1096174039cdb626d141fd3bc4707081752fa230a0"), looks := true }, kinds := [], alts := [], laidByText := true, laidKinds := [.sentinel, .sentinel, .sentinel, .sentinel], laidTests := true, laidLooks := .later }
def FibOrderUptoCardSaid : Prop := Claim7.holds Tryd.pinned (.plain (OpenSpec.upto fibOrderSpec)) fibOrderUptoCard

/-- THE SECOND FORM's CARD OF 'herepathlaw1.FibActs'. -/
def fibActsUptoCard : Claim7 := { stood := { row := fibActsUptoRow, standIns := [], harness := (true, "e871dc5bb193d09e86362f1096174039cdb626d141fd3bc4707081752fa230a0"), looks := true }, kinds := [], alts := [], laidByText := true, laidKinds := [.handle, .sentinel, .sentinel, .sentinel, .sentinel, .sentinel, .sentinel, .sentinel, .sentinel, .sentinel], laidTests := true, laidLooks := .later }
def FibActsUptoCardSaid : Prop := Claim7.holds Tryd.pinned (.plain (OpenSpec.upto fibActsSpec)) fibActsUptoCard
end Rows
end Go.Proofs.YtfkklekmkginfaaDoor
