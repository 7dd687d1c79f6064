/-
  DERIVED. GIVEN WITH THE SEED: THE CARDS: each row of YtbdmfcnlfmnmdaaDoorRows.lean that lists a variable, with what it lists TIED to the program's text (the seventh form; the later family's looks); each row that meets fmt, with fmt's text TOLD by the authors' own Lean function (tested against real Go, not proved from fmt's source: count such statements apart). THE CARD IS WHAT COUNTS. Prove the row's statement (the work); the ties are given (YtbdmfcnlfmnmdaaDoorTie.lean); close each card by the builder's one call (the guide's Derived/Test/ToyasCard.lean, 'card_holds'). Laid BY PROGRAM, IN A SANDBOX (cutbox-door.mjs). By AI agents, Wed Nov 11 2026. No macro, syntax, notation, axiom, sorry.
-/
import Derived.Test.YtbdmfcnlfmnmdaaDoorRows
import GoSem.ClaimSeven
namespace Go.Proofs.YtbdmfcnlfmnmdaaDoor
namespace Rows

/-- THE TIED CARD OF 'waywardenlaw1.TrieTells'. -/
def trieTellsCard : Claim7 := { stood := { row := trieTellsRow, standIns := [], harness := (true, "78fd3e435c3901fd6059794810d45d4f2936cb39f4c14479982d6f081c9376b8"), looks := true }, kinds := [], alts := [], laidByText := true, laidKinds := [.handle], laidTests := true, laidLooks := .later }
def TrieTellsCardSaid : Prop := Claim7.holds Tryd.pinned (.plain (OpenSpec.ofChange trieTellsSpec)) trieTellsCard

/-- THE TIED CARD OF 'waywardenlaw1.TrieDrops'. -/
def trieDropsCard : Claim7 := { stood := { row := trieDropsRow, standIns := [], harness := (true, "78fd3e435c3901fd6059794810d45d4f2936cb39f4c14479982d6f081c9376b8"), looks := true }, kinds := [], alts := [], laidByText := true, laidKinds := [.handle], laidTests := true, laidLooks := .later }
def TrieDropsCardSaid : Prop := Claim7.holds Tryd.pinned (.plain (OpenSpec.ofChange trieDropsSpec)) trieDropsCard

/-- THE TIED CARD OF 'waywardenlaw6.TrieOrder'. -/
def trieOrderCard : Claim7 := { stood := { row := trieOrderRow, standIns := [], harness := (true, "78fd3e435c3901fd6059794810d45d4f2936cb39f4c14479982d6f081c9376b8"), looks := true }, kinds := [], alts := [], laidByText := true, laidKinds := [.handle], laidTests := true, laidLooks := .later }
def TrieOrderCardSaid : Prop := Claim7.holds Tryd.pinned (.plain (OpenSpec.ofChange trieOrderSpec)) trieOrderCard

/-- THE TIED CARD OF 'waywardentop.TopFinds'. -/
def topFindsCard : Claim7 := { stood := { row := topFindsRow, standIns := [], harness := (true, "78fd3e435c3901fd6059794810d45d4f2936cb39f4c14479982d6f081c9376b8"), looks := true }, kinds := [], alts := [], laidByText := true, laidKinds := [.handle], laidTests := true, laidLooks := .later }
def TopFindsCardSaid : Prop := Claim7.holds Tryd.pinned (.plain (OpenSpec.ofChange topFindsSpec)) topFindsCard

/-- THE SECOND FORM's CARD OF 'waywardenlaw1.TrieTells'. -/
def trieTellsUptoCard : Claim7 := { stood := { row := trieTellsUptoRow, standIns := [], harness := (true, "78fd3e435c3901fd6059794810d45d4f2936cb39f4c14479982d6f081c9376b8"), looks := true }, kinds := [], alts := [], laidByText := true, laidKinds := [.handle], laidTests := true, laidLooks := .later }
def TrieTellsUptoCardSaid : Prop := Claim7.holds Tryd.pinned (.plain (OpenSpec.upto trieTellsSpec)) trieTellsUptoCard

/-- THE SECOND FORM's CARD OF 'waywardenlaw1.TrieDrops'. -/
def trieDropsUptoCard : Claim7 := { stood := { row := trieDropsUptoRow, standIns := [], harness := (true, "78fd3e435c3901fd6059794810d45d4f2936cb39f4c14479982d6f081c9376b8"), looks := true }, kinds := [], alts := [], laidByText := true, laidKinds := [.handle], laidTests := true, laidLooks := .later }
def TrieDropsUptoCardSaid : Prop := Claim7.holds Tryd.pinned (.plain (OpenSpec.upto trieDropsSpec)) trieDropsUptoCard

/-- THE SECOND FORM's CARD OF 'waywardenlaw6.TrieOrder'. -/
def trieOrderUptoCard : Claim7 := { stood := { row := trieOrderUptoRow, standIns := [], harness := (true, "78fd3e435c3901fd6059794810d45d4f2936cb39f4c14479982d6f081c9376b8"), looks := true }, kinds := [], alts := [], laidByText := true, laidKinds := [.handle], laidTests := true, laidLooks := .later }
def TrieOrderUptoCardSaid : Prop := Claim7.holds Tryd.pinned (.plain (OpenSpec.upto trieOrderSpec)) trieOrderUptoCard

/-- THE SECOND FORM's CARD OF 'waywardentop.TopFinds'. -/
def topFindsUptoCard : Claim7 := { stood := { row := topFindsUptoRow, standIns := [], harness := (true, "78fd3e435c3901fd6059794810d45d4f2936cb39f4c14479982d6f081c9376b8"), looks := true }, kinds := [], alts := [], laidByText := true, laidKinds := [.handle], laidTests := true, laidLooks := .later }
def TopFindsUptoCardSaid : Prop := Claim7.holds Tryd.pinned (.plain (OpenSpec.upto topFindsSpec)) topFindsUptoCard
end Rows
end Go.Proofs.YtbdmfcnlfmnmdaaDoor
