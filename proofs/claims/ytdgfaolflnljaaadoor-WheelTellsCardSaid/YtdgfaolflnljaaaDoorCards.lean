/-
  DERIVED. GIVEN WITH THE SEED: THE CARDS: each row of YtdgfaolflnljaaaDoorRows.lean that lists a variable, with what it lists TIED to the program's text (the seventh form; the later family's looks); each row that meets fmt, with fmt's text TOLD by the authors' own Lean function (tested against real Go, not proved from fmt's source: count such statements apart). THE CARD IS WHAT COUNTS. Prove the row's statement (the work); the ties are given (YtdgfaolflnljaaaDoorTie.lean); close each card by the builder's one call (the guide's Derived/Test/ToyasCard.lean, 'card_holds'). Laid BY PROGRAM, IN A SANDBOX (cutbox-door.mjs). By AI agents, Wed Nov 11 2026. No macro, syntax, notation, axiom, sorry.
-/
import Derived.Test.YtdgfaolflnljaaaDoorRows
import GoSem.ClaimSeven
namespace Go.Proofs.YtdgfaolflnljaaaDoor
namespace Rows

/-- THE TIED CARD OF 'waywardenlaw2.WheelTells'. -/
def wheelTellsCard : Claim7 := { stood := { row := wheelTellsRow, standIns := [], harness := (true, "42f502a576d9ca84764e74079179653d4014be4083ad0be73e8cd0f60062f418"), looks := true }, kinds := [], alts := [], laidByText := true, laidKinds := [.handle], laidTests := true, laidLooks := .later }
def WheelTellsCardSaid : Prop := Claim7.holds Tryd.pinned (.plain (OpenSpec.ofChange wheelTellsSpec)) wheelTellsCard

/-- THE TIED CARD OF 'waywardenlaw6.WheelClears'. -/
def wheelClearsCard : Claim7 := { stood := { row := wheelClearsRow, standIns := [], harness := (true, "42f502a576d9ca84764e74079179653d4014be4083ad0be73e8cd0f60062f418"), looks := true }, kinds := [], alts := [], laidByText := true, laidKinds := [.handle], laidTests := true, laidLooks := .later }
def WheelClearsCardSaid : Prop := Claim7.holds Tryd.pinned (.plain (OpenSpec.ofChange wheelClearsSpec)) wheelClearsCard

/-- THE SECOND FORM's CARD OF 'waywardenlaw2.WheelTells'. -/
def wheelTellsUptoCard : Claim7 := { stood := { row := wheelTellsUptoRow, standIns := [], harness := (true, "42f502a576d9ca84764e74079179653d4014be4083ad0be73e8cd0f60062f418"), looks := true }, kinds := [], alts := [], laidByText := true, laidKinds := [.handle], laidTests := true, laidLooks := .later }
def WheelTellsUptoCardSaid : Prop := Claim7.holds Tryd.pinned (.plain (OpenSpec.upto wheelTellsSpec)) wheelTellsUptoCard

/-- THE SECOND FORM's CARD OF 'waywardenlaw6.WheelClears'. -/
def wheelClearsUptoCard : Claim7 := { stood := { row := wheelClearsUptoRow, standIns := [], harness := (true, "42f502a576d9ca84764e74079179653d4014be4083ad0be73e8cd0f60062f418"), looks := true }, kinds := [], alts := [], laidByText := true, laidKinds := [.handle], laidTests := true, laidLooks := .later }
def WheelClearsUptoCardSaid : Prop := Claim7.holds Tryd.pinned (.plain (OpenSpec.upto wheelClearsSpec)) wheelClearsUptoCard
end Rows
end Go.Proofs.YtdgfaolflnljaaaDoor
