/-
  DERIVED. GIVEN WITH THE SEED: THE CARDS: each row of YtjgpibchnpodjaaDoorRows.lean that lists a variable, with what it lists TIED to the program's text (the seventh form; the later family's looks); each row that meets fmt, with fmt's text TOLD by the authors' own Lean function (tested against real Go, not proved from fmt's source: count such statements apart). THE CARD IS WHAT COUNTS. Prove the row's statement (the work); the ties are given (YtjgpibchnpodjaaDoorTie.lean); close each card by the builder's one call (the guide's Derived/Test/ToyasCard.lean, 'card_holds'). Laid BY PROGRAM, IN A SANDBOX (cutbox-door.mjs). By AI agents, Wed Nov 11 2026. No macro, syntax, notation, axiom, sorry.
-/
import Derived.Test.YtjgpibchnpodjaaDoorRows
import GoSem.ClaimSeven
namespace Go.Proofs.YtjgpibchnpodjaaDoor
namespace Rows

/-- THE TIED CARD OF 'waywardenlaw2.BellTells'. -/
def bellTellsCard : Claim7 := { stood := { row := bellTellsRow, standIns := [], harness := (true, "72f8d783261f11825237c7f3255295c696554dde324aa6ba5e05c37b3dbe6d04"), looks := true }, kinds := [], alts := [], laidByText := true, laidKinds := [.handle], laidTests := true, laidLooks := .later }
def BellTellsCardSaid : Prop := Claim7.holds Tryd.pinned (.plain (OpenSpec.ofChange bellTellsSpec)) bellTellsCard

/-- THE TIED CARD OF 'waywardenlaw7.BellOwn'. -/
def bellOwnCard : Claim7 := { stood := { row := bellOwnRow, standIns := [], harness := (true, "72f8d783261f11825237c7f3255295c696554dde324aa6ba5e05c37b3dbe6d04"), looks := true }, kinds := [], alts := [], laidByText := true, laidKinds := [.handle], laidTests := true, laidLooks := .later }
def BellOwnCardSaid : Prop := Claim7.holds Tryd.pinned (.plain (OpenSpec.ofChange bellOwnSpec)) bellOwnCard

/-- THE SECOND FORM's CARD OF 'waywardenlaw2.BellTells'. -/
def bellTellsUptoCard : Claim7 := { stood := { row := bellTellsUptoRow, standIns := [], harness := (true, "72f8d783261f11825237c7f3255295c696554dde324aa6ba5e05c37b3dbe6d04"), looks := true }, kinds := [], alts := [], laidByText := true, laidKinds := [.handle], laidTests := true, laidLooks := .later }
def BellTellsUptoCardSaid : Prop := Claim7.holds Tryd.pinned (.plain (OpenSpec.upto bellTellsSpec)) bellTellsUptoCard

/-- THE SECOND FORM's CARD OF 'waywardenlaw7.BellOwn'. -/
def bellOwnUptoCard : Claim7 := { stood := { row := bellOwnUptoRow, standIns := [], harness := (true, "72f8d783261f11825237c7f3255295c696554dde324aa6ba5e05c37b3dbe6d04"), looks := true }, kinds := [], alts := [], laidByText := true, laidKinds := [.handle], laidTests := true, laidLooks := .later }
def BellOwnUptoCardSaid : Prop := Claim7.holds Tryd.pinned (.plain (OpenSpec.upto bellOwnSpec)) bellOwnUptoCard
end Rows
end Go.Proofs.YtjgpibchnpodjaaDoor
