/-
  DERIVED. GIVEN WITH THE SEED: THE CARDS: each row of YtomfkmclgabcpaaDoorRows.lean that lists a variable, with what it lists TIED to the program's text (the seventh form; the later family's looks); each row that meets fmt, with fmt's text TOLD by the authors' own Lean function (tested against real Go, not proved from fmt's source: count such statements apart). THE CARD IS WHAT COUNTS. Prove the row's statement (the work); the ties are given (YtomfkmclgabcpaaDoorTie.lean); close each card by the builder's one call (the guide's Derived/Test/ToyasCard.lean, 'card_holds'). Laid BY PROGRAM, IN A SANDBOX (cutbox-door.mjs). By AI agents, Wed Nov 11 2026. No macro, syntax, notation, axiom, sorry.
-/
import Derived.Test.YtomfkmclgabcpaaDoorRows
import GoSem.ClaimSeven
namespace Go.Proofs.YtomfkmclgabcpaaDoor
namespace Rows

/-- THE TIED CARD OF 'waywardenlaw2.WaysTell'. -/
def waysTellCard : Claim7 := { stood := { row := waysTellRow, standIns := [], harness := (true, "0a93cf0ebe22bb2d4fd2df0066de9e33dd33860ad41f46a9b45c5c1eb62be1e2"), looks := true }, kinds := [], alts := [], laidByText := true, laidKinds := [.handle], laidTests := true, laidLooks := .later }
def WaysTellCardSaid : Prop := Claim7.holds Tryd.pinned (.plain (OpenSpec.ofChange waysTellSpec)) waysTellCard

/-- THE TIED CARD OF 'waywardenlaw7.WaysOwn'. -/
def waysOwnCard : Claim7 := { stood := { row := waysOwnRow, standIns := [], harness := (true, "0a93cf0ebe22bb2d4fd2df0066de9e33dd33860ad41f46a9b45c5c1eb62be1e2"), looks := true }, kinds := [], alts := [], laidByText := true, laidKinds := [.handle], laidTests := true, laidLooks := .later }
def WaysOwnCardSaid : Prop := Claim7.holds Tryd.pinned (.plain (OpenSpec.ofChange waysOwnSpec)) waysOwnCard

/-- THE SECOND FORM's CARD OF 'waywardenlaw2.WaysTell'. -/
def waysTellUptoCard : Claim7 := { stood := { row := waysTellUptoRow, standIns := [], harness := (true, "0a93cf0ebe22bb2d4fd2df0066de9e33dd33860ad41f46a9b45c5c1eb62be1e2"), looks := true }, kinds := [], alts := [], laidByText := true, laidKinds := [.handle], laidTests := true, laidLooks := .later }
def WaysTellUptoCardSaid : Prop := Claim7.holds Tryd.pinned (.plain (OpenSpec.upto waysTellSpec)) waysTellUptoCard

/-- THE SECOND FORM's CARD OF 'waywardenlaw7.WaysOwn'. -/
def waysOwnUptoCard : Claim7 := { stood := { row := waysOwnUptoRow, standIns := [], harness := (true, "0a93cf0ebe22bb2d4fd2df0066de9e33dd33860ad41f46a9b45c5c1eb62be1e2"), looks := true }, kinds := [], alts := [], laidByText := true, laidKinds := [.handle], laidTests := true, laidLooks := .later }
def WaysOwnUptoCardSaid : Prop := Claim7.holds Tryd.pinned (.plain (OpenSpec.upto waysOwnSpec)) waysOwnUptoCard
end Rows
end Go.Proofs.YtomfkmclgabcpaaDoor
