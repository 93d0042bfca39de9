/-
  PROVED: herepathlaw1.Names returns true, whatever memory the call enters in (the numbers of package api, and those of its errors by plain.Code, are those of the document). CONDITIONS: errors.errorType and the nine errors of package api read as the program's own initialisers lay them when the call begins: tied to the program's text by the given tie (the card 'Rows.NamesCardSaid').
-/
import Derived.Test.YthehpnhjfnenoaaDoorCards
import Derived.Test.YthehpnhjfnenoaaDoorTie
import Derived.Test.YthehpnhjfnenoaaDoorNamesProof
import Derived.SevenTiedAt
namespace Go.Proofs.YthehpnhjfnenoaaDoor
open Go

theorem names_card : Rows.NamesCardSaid :=
  Claim7.holds_tied_plain_at .later [] _ _ _ _
    names_holds (fun _ h => by cases h) (by kernel_rfl) (fun _ h => by cases h) names_row_tie rfl ⟨rfl, rfl⟩ (by kernel_rfl) rfl
    (fun f fn hf hfn => by
      obtain rfl : f = 3 := Option.some.inj ((show Tryd.prog.funcNamed "herepath/herepathlaw1.Names" = some 3 by kernel_rfl).symm.trans hf) |>.symm
      obtain rfl : fn = Tryd.f3 := (Option.some.inj (Tryd.func3.symm.trans hfn)).symm
      exact ⟨by kernel_rfl, fun j t ht => by
        rw [Tryd.params3] at ht
        simp at ht⟩)
    (by kernel_rfl)
#print axioms names_card
end Go.Proofs.YthehpnhjfnenoaaDoor
