/-
  DERIVED. GIVEN WITH THE SEED: THE CARDS: each row of YtegfjdpibpmdmaaDoorRows.lean that lists a variable, with what it lists TIED to the program's text (the seventh form; the later family's looks); each row that meets fmt, with fmt's text TOLD by the authors' own Lean function (tested against real Go, not proved from fmt's source: count such statements apart). THE CARD IS WHAT COUNTS. Prove the row's statement (the work); the ties are given (YtegfjdpibpmdmaaDoorTie.lean); close each card by the builder's one call (the guide's Derived/Test/ToyasCard.lean, 'card_holds'). Laid BY PROGRAM, IN A SANDBOX (cutbox-door.mjs). By AI agents, Wed Nov 11 2026. No macro, syntax, notation, axiom, sorry.
-/
import Derived.Test.YtegfjdpibpmdmaaDoorRows
import GoSem.ClaimSeven
namespace Go.Proofs.YtegfjdpibpmdmaaDoor
namespace Rows

/-- THE TIED CARD OF 'waywardenlaw1.PrefBack'. -/
def prefBackCard : Claim7 := { stood := { row := prefBackRow, standIns := [], harness := (true, "6920b478ca3b6eb7c27c40c0c3386a7b3270bf2330d510ecb8012948887ec034"), looks := true }, kinds := [], alts := [], laidByText := true, laidKinds := [.data, .data, .data, .data, .sentinel, .sentinel, .pinned], laidTests := true, laidLooks := .later }
def PrefBackCardSaid : Prop := Claim7.holds Tryd.pinned (.plain (OpenSpec.ofChange prefBackSpec)) prefBackCard

/-- THE TIED CARD OF 'waywardenlaw1.PrefNests'. -/
def prefNestsCard : Claim7 := { stood := { row := prefNestsRow, standIns := [], harness := (true, "6920b478ca3b6eb7c27c40c0c3386a7b3270bf2330d510ecb8012948887ec034"), looks := true }, kinds := [], alts := [], laidByText := true, laidKinds := [.data, .data, .data, .data, .sentinel, .sentinel, .pinned], laidTests := true, laidLooks := .later }
def PrefNestsCardSaid : Prop := Claim7.holds Tryd.pinned (.plain (OpenSpec.ofChange prefNestsSpec)) prefNestsCard

/-- THE TIED CARD OF 'waywardenlaw1.PrefHalves'. -/
def prefHalvesCard : Claim7 := { stood := { row := prefHalvesRow, standIns := [], harness := (true, "6920b478ca3b6eb7c27c40c0c3386a7b3270bf2330d510ecb8012948887ec034"), looks := true }, kinds := [], alts := [], laidByText := true, laidKinds := [.data, .data, .data, .data, .sentinel, .sentinel, .pinned], laidTests := true, laidLooks := .later }
def PrefHalvesCardSaid : Prop := Claim7.holds Tryd.pinned (.plain (OpenSpec.ofChange prefHalvesSpec)) prefHalvesCard

/-- THE TIED CARD OF 'waywardenlaw1.PrefCommon'. -/
def prefCommonCard : Claim7 := { stood := { row := prefCommonRow, standIns := [], harness := (true, "6920b478ca3b6eb7c27c40c0c3386a7b3270bf2330d510ecb8012948887ec034"), looks := true }, kinds := [], alts := [], laidByText := true, laidKinds := [.data, .data, .data, .data, .sentinel, .sentinel, .pinned], laidTests := true, laidLooks := .later }
def PrefCommonCardSaid : Prop := Claim7.holds Tryd.pinned (.plain (OpenSpec.ofChange prefCommonSpec)) prefCommonCard

/-- THE TIED CARD OF 'waywardenlaw1.PrefOrder'. -/
def prefOrderCard : Claim7 := { stood := { row := prefOrderRow, standIns := [], harness := (true, "6920b478ca3b6eb7c27c40c0c3386a7b3270bf2330d510ecb8012948887ec034"), looks := true }, kinds := [], alts := [], laidByText := true, laidKinds := [.data, .data, .data, .data, .sentinel, .sentinel, .pinned], laidTests := true, laidLooks := .later }
def PrefOrderCardSaid : Prop := Claim7.holds Tryd.pinned (.plain (OpenSpec.ofChange prefOrderSpec)) prefOrderCard

/-- THE TIED CARD OF 'waywardenlaw6.PrefUps'. -/
def prefUpsCard : Claim7 := { stood := { row := prefUpsRow, standIns := [], harness := (true, "6920b478ca3b6eb7c27c40c0c3386a7b3270bf2330d510ecb8012948887ec034"), looks := true }, kinds := [], alts := [], laidByText := true, laidKinds := [.handle], laidTests := true, laidLooks := .later }
def PrefUpsCardSaid : Prop := Claim7.holds Tryd.pinned (.plain (OpenSpec.ofChange prefUpsSpec)) prefUpsCard

/-- THE SECOND FORM's CARD OF 'waywardenlaw1.PrefBack'. -/
def prefBackUptoCard : Claim7 := { stood := { row := prefBackUptoRow, standIns := [], harness := (true, "6920b478ca3b6eb7c27c40c0c3386a7b3270bf2330d510ecb8012948887ec034"), looks := true }, kinds := [], alts := [], laidByText := true, laidKinds := [.data, .data, .data, .data, .sentinel, .sentinel, .pinned], laidTests := true, laidLooks := .later }
def PrefBackUptoCardSaid : Prop := Claim7.holds Tryd.pinned (.plain (OpenSpec.upto prefBackSpec)) prefBackUptoCard

/-- THE SECOND FORM's CARD OF 'waywardenlaw1.PrefNests'. -/
def prefNestsUptoCard : Claim7 := { stood := { row := prefNestsUptoRow, standIns := [], harness := (true, "6920b478ca3b6eb7c27c40c0c3386a7b3270bf2330d510ecb8012948887ec034"), looks := true }, kinds := [], alts := [], laidByText := true, laidKinds := [.data, .data, .data, .data, .sentinel, .sentinel, .pinned], laidTests := true, laidLooks := .later }
def PrefNestsUptoCardSaid : Prop := Claim7.holds Tryd.pinned (.plain (OpenSpec.upto prefNestsSpec)) prefNestsUptoCard

/-- THE SECOND FORM's CARD OF 'waywardenlaw1.PrefHalves'. -/
def prefHalvesUptoCard : Claim7 := { stood := { row := prefHalvesUptoRow, standIns := [], harness := (true, "6920b478ca3b6eb7c27c40c0c3386a7b3270bf2330d510ecb8012948887ec034"), looks := true }, kinds := [], alts := [], laidByText := true, laidKinds := [.data, .data, .data, .data, .sentinel, .sentinel, .pinned], laidTests := true, laidLooks := .later }
def PrefHalvesUptoCardSaid : Prop := Claim7.holds Tryd.pinned (.plain (OpenSpec.upto prefHalvesSpec)) prefHalvesUptoCard

/-- THE SECOND FORM's CARD OF 'waywardenlaw1.PrefCommon'. -/
def prefCommonUptoCard : Claim7 := { stood := { row := prefCommonUptoRow, standIns := [], harness := (true, "6920b478ca3b6eb7c27c40c0c3386a7b3270bf2330d510ecb8012948887ec034"), looks := true }, kinds := [], alts := [], laidByText := true, laidKinds := [.data, .data, .data, .data, .sentinel, .sentinel, .pinned], laidTests := true, laidLooks := .later }
def PrefCommonUptoCardSaid : Prop := Claim7.holds Tryd.pinned (.plain (OpenSpec.upto prefCommonSpec)) prefCommonUptoCard

/-- THE SECOND FORM's CARD OF 'waywardenlaw1.PrefOrder'. -/
def prefOrderUptoCard : Claim7 := { stood := { row := prefOrderUptoRow, standIns := [], harness := (true, "6920b478ca3b6eb7c27c40c0c3386a7b3270bf2330d510ecb8012948887ec034"), looks := true }, kinds := [], alts := [], laidByText := true, laidKinds := [.data, .data, .data, .data, .sentinel, .sentinel, .pinned], laidTests := true, laidLooks := .later }
def PrefOrderUptoCardSaid : Prop := Claim7.holds Tryd.pinned (.plain (OpenSpec.upto prefOrderSpec)) prefOrderUptoCard

/-- THE SECOND FORM's CARD OF 'waywardenlaw6.PrefUps'. -/
def prefUpsUptoCard : Claim7 := { stood := { row := prefUpsUptoRow, standIns := [], harness := (true, "6920b478ca3b6eb7c27c40c0c3386a7b3270bf2330d510ecb8012948887ec034"), looks := true }, kinds := [], alts := [], laidByText := true, laidKinds := [.handle], laidTests := true, laidLooks := .later }
def PrefUpsUptoCardSaid : Prop := Claim7.holds Tryd.pinned (.plain (OpenSpec.upto prefUpsSpec)) prefUpsUptoCard
end Rows
end Go.Proofs.YtegfjdpibpmdmaaDoor
