/-
  DERIVED. GIVEN WITH THE SEED: THE CARDS: each row of YthehpnhjfnenoaaDoorRows.lean that lists a variable, with what it lists TIED to the program's text (the seventh form; the later family's looks); each row that meets fmt, with fmt's text TOLD by the authors' own Lean function (tested against real Go, not proved from fmt's source: count such statements apart). THE CARD IS WHAT COUNTS. Prove the row's statement (the work); the ties are given (YthehpnhjfnenoaaDoorTie.lean); close each card by the builder's one call (the guide's Derived/Test/ToyasCard.lean, 'card_holds'). Laid BY PROGRAM, IN A SANDBOX (cutbox-door.mjs). By AI agents, Wed Nov 11 2026. No macro, syntax, notation, axiom, sorry.
-/
import Derived.Test.YthehpnhjfnenoaaDoorRows
import GoSem.ClaimSeven
namespace Go.Proofs.YthehpnhjfnenoaaDoor
namespace Rows

/-- THE TIED CARD OF 'herepathlaw1.Names'. -/
def namesCard : Claim7 := { stood := { row := namesRow, standIns := [], harness := (true, "4a15be06a5042870082d5c4fa713a87f8f627542b3e03614ba8041b43e3f2a5a"), looks := true }, kinds := [], alts := [], laidByText := true, laidKinds := [.handle, .sentinel, .sentinel, .sentinel, .sentinel, .sentinel, .sentinel, .sentinel, .sentinel, .sentinel], laidTests := true, laidLooks := .later }
def NamesCardSaid : Prop := Claim7.holds Tryd.pinned (.plain (OpenSpec.ofChange namesSpec)) namesCard

/-- THE TIED CARD OF 'herepathlaw1.IpHalves'. -/
def ipHalvesCard : Claim7 := { stood := { row := ipHalvesRow, standIns := [], harness := (true, "4a15be06a5042870082d5c4fa713a87f8f627542b3e03614ba8041b43e3f2a5a"), looks := true }, kinds := [], alts := [], laidByText := true, laidKinds := [.data, .data, .data, .data, .sentinel, .sentinel, .sentinel, .sentinel, .pinned], laidTests := true, laidLooks := .later }
def IpHalvesCardSaid : Prop := Claim7.holds Tryd.pinned (.plain (OpenSpec.ofChange ipHalvesSpec)) ipHalvesCard

/-- THE TIED CARD OF 'herepathlaw1.IpTells'. -/
def ipTellsCard : Claim7 := { stood := { row := ipTellsRow, standIns := [], harness := (true, "4a15be06a5042870082d5c4fa713a87f8f627542b3e03614ba8041b43e3f2a5a"), looks := true }, kinds := [], alts := [], laidByText := true, laidKinds := [.data, .data, .data, .data, .handle, .sentinel, .sentinel, .sentinel, .sentinel, .sentinel, .sentinel, .sentinel, .sentinel, .sentinel, .pinned], laidTests := true, laidLooks := .later }
def IpTellsCardSaid : Prop := Claim7.holds Tryd.pinned (.plain (OpenSpec.ofChange ipTellsSpec)) ipTellsCard

/-- THE TIED CARD OF 'herepathlaw1.IpOrder'. -/
def ipOrderCard : Claim7 := { stood := { row := ipOrderRow, standIns := [], harness := (true, "4a15be06a5042870082d5c4fa713a87f8f627542b3e03614ba8041b43e3f2a5a"), looks := true }, kinds := [], alts := [], laidByText := true, laidKinds := [.data, .data, .data, .data, .sentinel, .sentinel, .sentinel, .pinned], laidTests := true, laidLooks := .later }
def IpOrderCardSaid : Prop := Claim7.holds Tryd.pinned (.plain (OpenSpec.ofChange ipOrderSpec)) ipOrderCard

/-- THE TIED CARD OF 'herepathlaw1.SetNormal'. -/
def setNormalCard : Claim7 := { stood := { row := setNormalRow, standIns := [], harness := (true, "4a15be06a5042870082d5c4fa713a87f8f627542b3e03614ba8041b43e3f2a5a"), looks := true }, kinds := [], alts := [], laidByText := true, laidKinds := [.data, .data, .sentinel, .sentinel, .sentinel], laidTests := true, laidLooks := .later }
def SetNormalCardSaid : Prop := Claim7.holds Tryd.pinned (.plain (OpenSpec.ofChange setNormalSpec)) setNormalCard

/-- THE SECOND FORM's CARD OF 'herepathlaw1.Names'. -/
def namesUptoCard : Claim7 := { stood := { row := namesUptoRow, standIns := [], harness := (true, "4a15be06a5042870082d5c4fa713a87f8f627542b3e03614ba8041b43e3f2a5a"), looks := true }, kinds := [], alts := [], laidByText := true, laidKinds := [.handle, .sentinel, .sentinel, .sentinel, .sentinel, .sentinel, .sentinel, .sentinel, .sentinel, .sentinel], laidTests := true, laidLooks := .later }
def NamesUptoCardSaid : Prop := Claim7.holds Tryd.pinned (.plain (OpenSpec.upto namesSpec)) namesUptoCard

/-- THE SECOND FORM's CARD OF 'herepathlaw1.IpHalves'. -/
def ipHalvesUptoCard : Claim7 := { stood := { row := ipHalvesUptoRow, standIns := [], harness := (true, "4a15be06a5042870082d5c4fa713a87f8f627542b3e03614ba8041b43e3f2a5a"), looks := true }, kinds := [], alts := [], laidByText := true, laidKinds := [.data, .data, .data, .data, .sentinel, .sentinel, .sentinel, .sentinel, .pinned], laidTests := true, laidLooks := .later }
def IpHalvesUptoCardSaid : Prop := Claim7.holds Tryd.pinned (.plain (OpenSpec.upto ipHalvesSpec)) ipHalvesUptoCard

/-- THE SECOND FORM's CARD OF 'herepathlaw1.IpTells'. -/
def ipTellsUptoCard : Claim7 := { stood := { row := ipTellsUptoRow, standIns := [], harness := (true, "4a15be06a5042870082d5c4fa713a87f8f627542b3e03614ba8041b43e3f2a5a"), looks := true }, kinds := [], alts := [], laidByText := true, laidKinds := [.data, .data, .data, .data, .handle, .sentinel, .sentinel, .sentinel, .sentinel, .sentinel, .sentinel, .sentinel, .sentinel, .sentinel, .pinned], laidTests := true, laidLooks := .later }
def IpTellsUptoCardSaid : Prop := Claim7.holds Tryd.pinned (.plain (OpenSpec.upto ipTellsSpec)) ipTellsUptoCard

/-- THE SECOND FORM's CARD OF 'herepathlaw1.IpOrder'. -/
def ipOrderUptoCard : Claim7 := { stood := { row := ipOrderUptoRow, standIns := [], harness := (true, "4a15be06a5042870082d5c4fa713a87f8f627542b3e03614ba8041b43e3f2a5a"), looks := true }, kinds := [], alts := [], laidByText := true, laidKinds := [.data, .data, .data, .data, .sentinel, .sentinel, .sentinel, .pinned], laidTests := true, laidLooks := .later }
def IpOrderUptoCardSaid : Prop := Claim7.holds Tryd.pinned (.plain (OpenSpec.upto ipOrderSpec)) ipOrderUptoCard

/-- THE SECOND FORM's CARD OF 'herepathlaw1.SetNormal'. -/
def setNormalUptoCard : Claim7 := { stood := { row := setNormalUptoRow, standIns := [], harness := (true, "4a15be06a5042870082d5c4fa713a87f8f627542b3e03614ba8041b43e3f2a5a"), looks := true }, kinds := [], alts := [], laidByText := true, laidKinds := [.data, .data, .sentinel, .sentinel, .sentinel], laidTests := true, laidLooks := .later }
def SetNormalUptoCardSaid : Prop := Claim7.holds Tryd.pinned (.plain (OpenSpec.upto setNormalSpec)) setNormalUptoCard
end Rows
end Go.Proofs.YthehpnhjfnenoaaDoor
