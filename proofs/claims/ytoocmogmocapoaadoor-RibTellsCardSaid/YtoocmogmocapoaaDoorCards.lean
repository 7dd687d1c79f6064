/-
  DERIVED. GIVEN WITH THE SEED: THE CARDS: each row of YtoocmogmocapoaaDoorRows.lean that lists a variable, with what it lists TIED to the program's text (the seventh form; the later family's looks); each row that meets fmt, with fmt's text TOLD by the authors' own Lean function (tested against real Go, not proved from fmt's source: count such statements apart). THE CARD IS WHAT COUNTS. Prove the row's statement (the work); the ties are given (YtoocmogmocapoaaDoorTie.lean); close each card by the builder's one call (the guide's Derived/Test/ToyasCard.lean, 'card_holds'). Laid BY PROGRAM, IN A SANDBOX (cutbox-door.mjs). By AI agents, Wed Nov 11 2026. No macro, syntax, notation, axiom, sorry.
-/
import Derived.Test.YtoocmogmocapoaaDoorRows
import GoSem.ClaimSeven
namespace Go.Proofs.YtoocmogmocapoaaDoor
namespace Rows

/-- THE TIED CARD OF 'waywardenlaw3.RibTells'. -/
def ribTellsCard : Claim7 := { stood := { row := ribTellsRow, standIns := [], harness := (true, "a2b56a0dda8a70492d57028ccfb04c6ab35c0470a7ca10a93015afc65d654d47"), looks := true }, kinds := [], alts := [], laidByText := true, laidKinds := [.handle], laidTests := true, laidLooks := .later }
def RibTellsCardSaid : Prop := Claim7.holds Tryd.pinned (.plain (OpenSpec.ofChange ribTellsSpec)) ribTellsCard

/-- THE SECOND FORM's CARD OF 'waywardenlaw3.RibTells'. -/
def ribTellsUptoCard : Claim7 := { stood := { row := ribTellsUptoRow, standIns := [], harness := (true, "a2b56a0dda8a70492d57028ccfb04c6ab35c0470a7ca10a93015afc65d654d47"), looks := true }, kinds := [], alts := [], laidByText := true, laidKinds := [.handle], laidTests := true, laidLooks := .later }
def RibTellsUptoCardSaid : Prop := Claim7.holds Tryd.pinned (.plain (OpenSpec.upto ribTellsSpec)) ribTellsUptoCard
end Rows
end Go.Proofs.YtoocmogmocapoaaDoor
