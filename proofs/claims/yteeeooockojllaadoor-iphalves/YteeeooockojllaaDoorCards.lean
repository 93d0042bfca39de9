/-
  DERIVED. GIVEN WITH THE SEED: THE CARDS: each row of YteeeooockojllaaDoorRows.lean that lists a variable, with what it lists TIED to the program's text (the seventh form; the later family's looks); each row that meets fmt, with fmt's text TOLD by the authors' own Lean function (tested against real Go, not proved from fmt's source: count such statements apart). THE CARD IS WHAT COUNTS. Prove the row's statement (the work); the ties are given (YteeeooockojllaaDoorTie.lean); close each card by the builder's one call (the guide's Derived/Test/ToyasCard.lean, 'card_holds'). Laid BY PROGRAM, IN A SANDBOX (cutbox-door.mjs). By AI agents, Wed Nov 11 2026. No macro, syntax, notation, axiom, sorry.
-/
import Derived.Test.YteeeooockojllaaDoorRows
import GoSem.ClaimSeven
namespace Go.Proofs.YteeeooockojllaaDoor
namespace Rows

/-- THE TIED CARD OF 'herepathlaw1.IpHalves'. -/
def ipHalvesCard : Claim7 := { stood := { row := ipHalvesRow, standIns := [], harness := (true, "e33b1b4d0da879a0c6e3e4e9055c7f645308192d7c24efe91cd17e8da77ee960"), looks := true }, kinds := [], alts := [], laidByText := true, laidKinds := [.data, .data, .data, .data, .sentinel, .sentinel, .sentinel, .sentinel, .pinned], laidTests := true, laidLooks := .later }
def IpHalvesCardSaid : Prop := Claim7.holds Tryd.pinned (.plain (OpenSpec.ofChange ipHalvesSpec)) ipHalvesCard

/-- THE TIED CARD OF 'herepathlaw1.IpTells'. -/
def ipTellsCard : Claim7 := { stood := { row := ipTellsRow, standIns := [], harness := (true, "e33b1b4d0da879a0c6e3e4e9055c7f645308192d7c24efe91cd17e8da77ee960"), looks := true }, kinds := [], alts := [], laidByText := true, laidKinds := [.data, .data, .data, .data, .handle, .sentinel, .sentinel, .sentinel, .sentinel, .sentinel, .sentinel, .sentinel, .sentinel, .sentinel, .pinned], laidTests := true, laidLooks := .later }
def IpTellsCardSaid : Prop := Claim7.holds Tryd.pinned (.plain (OpenSpec.ofChange ipTellsSpec)) ipTellsCard

/-- THE TIED CARD OF 'herepathlaw1.IpOrder'. -/
def ipOrderCard : Claim7 := { stood := { row := ipOrderRow, standIns := [], harness := (true, "e33b1b4d0da879a0c6e3e4e9055c7f645308192d7c24efe91cd17e8da77ee960"), looks := true }, kinds := [], alts := [], laidByText := true, laidKinds := [.data, .data, .data, .data, .sentinel, .sentinel, .sentinel, .pinned], laidTests := true, laidLooks := .later }
def IpOrderCardSaid : Prop := Claim7.holds Tryd.pinned (.plain (OpenSpec.ofChange ipOrderSpec)) ipOrderCard

/-- THE SECOND FORM's CARD OF 'herepathlaw1.IpHalves'. -/
def ipHalvesUptoCard : Claim7 := { stood := { row := ipHalvesUptoRow, standIns := [], harness := (true, "e33b1b4d0da879a0c6e3e4e9055c7f645308192d7c24efe91cd17e8da77ee960"), looks := true }, kinds := [], alts := [], laidByText := true, laidKinds := [.data, .data, .data, .data, .sentinel, .sentinel, .sentinel, .sentinel, .pinned], laidTests := true, laidLooks := .later }
def IpHalvesUptoCardSaid : Prop := Claim7.holds Tryd.pinned (.plain (OpenSpec.upto ipHalvesSpec)) ipHalvesUptoCard

/-- THE SECOND FORM's CARD OF 'herepathlaw1.IpTells'. -/
def ipTellsUptoCard : Claim7 := { stood := { row := ipTellsUptoRow, standIns := [], harness := (true, "e33b1b4d0da879a0c6e3e4e9055c7f645308192d7c24efe91cd17e8da77ee960"), looks := true }, kinds := [], alts := [], laidByText := true, laidKinds := [.data, .data, .data, .data, .handle, .sentinel, .sentinel, .sentinel, .sentinel, .sentinel, .sentinel, .sentinel, .sentinel, .sentinel, .pinned], laidTests := true, laidLooks := .later }
def IpTellsUptoCardSaid : Prop := Claim7.holds Tryd.pinned (.plain (OpenSpec.upto ipTellsSpec)) ipTellsUptoCard

/-- THE SECOND FORM's CARD OF 'herepathlaw1.IpOrder'. -/
def ipOrderUptoCard : Claim7 := { stood := { row := ipOrderUptoRow, standIns := [], harness := (true, "e33b1b4d0da879a0c6e3e4e9055c7f645308192d7c24efe91cd17e8da77ee960"), looks := true }, kinds := [], alts := [], laidByText := true, laidKinds := [.data, .data, .data, .data, .sentinel, .sentinel, .sentinel, .pinned], laidTests := true, laidLooks := .later }
def IpOrderUptoCardSaid : Prop := Claim7.holds Tryd.pinned (.plain (OpenSpec.upto ipOrderSpec)) ipOrderUptoCard
end Rows
end Go.Proofs.YteeeooockojllaaDoor
