/-
  DERIVED. GIVEN WITH THE SEED: THE CARDS: each row of YtbadelfnjmcfoaaDoorRows.lean that lists a variable, with what it lists TIED to the program's text (the seventh form; the later family's looks); each row that meets fmt, with fmt's text TOLD by the authors' own Lean function (tested against real Go, not proved from fmt's source: count such statements apart). THE CARD IS WHAT COUNTS. Prove the row's statement (the work); the ties are given (YtbadelfnjmcfoaaDoorTie.lean); close each card by the builder's one call (the guide's Derived/Test/ToyasCard.lean, 'card_holds'). Laid BY PROGRAM, IN A SANDBOX (cutbox-door.mjs). By AI agents, Wed Nov 11 2026. No macro, syntax, notation, axiom, sorry.
-/
import Derived.Test.YtbadelfnjmcfoaaDoorRows
import GoSem.ClaimSeven
namespace Go.Proofs.YtbadelfnjmcfoaaDoor
namespace Rows

/-- THE TIED CARD OF 'waywardenlaw2.DistTells'. -/
def distTellsCard : Claim7 := { stood := { row := distTellsRow, standIns := [], harness := (true, "6946af487a18c4ca92da23ac51e3768563d5eb156a1d9c00e3dc1c981073ee72"), looks := true }, kinds := [], alts := [], laidByText := true, laidKinds := [.handle], laidTests := true, laidLooks := .later }
def DistTellsCardSaid : Prop := Claim7.holds Tryd.pinned (.plain (OpenSpec.ofChange distTellsSpec)) distTellsCard

/-- THE SECOND FORM's CARD OF 'waywardenlaw2.DistTells'. -/
def distTellsUptoCard : Claim7 := { stood := { row := distTellsUptoRow, standIns := [], harness := (true, "6946af487a18c4ca92da23ac51e3768563d5eb156a1d9c00e3dc1c981073ee72"), looks := true }, kinds := [], alts := [], laidByText := true, laidKinds := [.handle], laidTests := true, laidLooks := .later }
def DistTellsUptoCardSaid : Prop := Claim7.holds Tryd.pinned (.plain (OpenSpec.upto distTellsSpec)) distTellsUptoCard
end Rows
end Go.Proofs.YtbadelfnjmcfoaaDoor
