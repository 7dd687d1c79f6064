/-
  DERIVED. GIVEN WITH THE SEED: THE CARDS: each row of YtjgmehmhhplkaaaDoorRows.lean that lists a variable, with what it lists TIED to the program's text (the seventh form; the later family's looks); each row that meets fmt, with fmt's text TOLD by the authors' own Lean function (tested against real Go, not proved from fmt's source: count such statements apart). THE CARD IS WHAT COUNTS. Prove the row's statement (the work); the ties are given (YtjgmehmhhplkaaaDoorTie.lean); close each card by the builder's one call (the guide's Derived/Test/ToyasCard.lean, 'card_holds'). Laid BY PROGRAM, IN A SANDBOX (cutbox-door.mjs). By AI agents, Wed Nov 11 2026. No macro, syntax, notation, axiom, sorry.
-/
import Derived.Test.YtjgmehmhhplkaaaDoorRows
import GoSem.ClaimSeven
namespace Go.Proofs.YtjgmehmhhplkaaaDoor
namespace Rows

/-- THE TIED CARD OF 'waywardenlaw2.SpfTells'. -/
def spfTellsCard : Claim7 := { stood := { row := spfTellsRow, standIns := [], harness := (true, "7599b70658fa1e425b54059a1c3d102b6cbf62411812452300f197fec0880d15"), looks := true }, kinds := [], alts := [], laidByText := true, laidKinds := [.handle], laidTests := true, laidLooks := .later }
def SpfTellsCardSaid : Prop := Claim7.holds Tryd.pinned (.plain (OpenSpec.ofChange spfTellsSpec)) spfTellsCard

/-- THE TIED CARD OF 'waywardenlaw7.SpfOwn'. -/
def spfOwnCard : Claim7 := { stood := { row := spfOwnRow, standIns := [], harness := (true, "7599b70658fa1e425b54059a1c3d102b6cbf62411812452300f197fec0880d15"), looks := true }, kinds := [], alts := [], laidByText := true, laidKinds := [.handle], laidTests := true, laidLooks := .later }
def SpfOwnCardSaid : Prop := Claim7.holds Tryd.pinned (.plain (OpenSpec.ofChange spfOwnSpec)) spfOwnCard

/-- THE SECOND FORM's CARD OF 'waywardenlaw2.SpfTells'. -/
def spfTellsUptoCard : Claim7 := { stood := { row := spfTellsUptoRow, standIns := [], harness := (true, "7599b70658fa1e425b54059a1c3d102b6cbf62411812452300f197fec0880d15"), looks := true }, kinds := [], alts := [], laidByText := true, laidKinds := [.handle], laidTests := true, laidLooks := .later }
def SpfTellsUptoCardSaid : Prop := Claim7.holds Tryd.pinned (.plain (OpenSpec.upto spfTellsSpec)) spfTellsUptoCard

/-- THE SECOND FORM's CARD OF 'waywardenlaw7.SpfOwn'. -/
def spfOwnUptoCard : Claim7 := { stood := { row := spfOwnUptoRow, standIns := [], harness := (true, "7599b70658fa1e425b54059a1c3d102b6cbf62411812452300f197fec0880d15"), looks := true }, kinds := [], alts := [], laidByText := true, laidKinds := [.handle], laidTests := true, laidLooks := .later }
def SpfOwnUptoCardSaid : Prop := Claim7.holds Tryd.pinned (.plain (OpenSpec.upto spfOwnSpec)) spfOwnUptoCard
end Rows
end Go.Proofs.YtjgmehmhhplkaaaDoor
