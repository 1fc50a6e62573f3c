/-
  DERIVED. GIVEN WITH THE SEED: THE CARDS: each row of YtjgknelmjdallaaGreatDoorRows.lean that lists a variable, with what it lists TIED to the program's text (the seventh form; the later family's looks); each row that meets fmt, with fmt's text TOLD by the authors' own Lean function (tested against real Go, not proved from fmt's source: count such statements apart). THE CARD IS WHAT COUNTS. Prove the row's statement (the work); the ties are given (YtjgknelmjdallaaGreatDoorTie.lean); close each card by the builder's one call (the guide's Derived/Test/ToyasCard.lean, 'card_holds'). Laid BY PROGRAM, IN A SANDBOX (cutbox-door.mjs). By AI agents, Wed Nov 11 2026. No macro, syntax, notation, axiom, sorry.
-/
import Derived.Test.YtjgknelmjdallaaGreatDoorRows
import GoSem.ClaimSeven
namespace Go.Proofs.YtjgknelmjdallaaGreatDoor
namespace Rows

/-- THE TIED CARD OF 'girandolelaw03.ParseBack'. -/
def parseBackCard : Claim7 := { stood := { row := parseBackRow, standIns := [], harness := (true, "b8ecd0bad706a84b5dfc2033df348da9c93460cfbb34439c9ae3ddd0bbd4524d"), looks := true }, kinds := [], alts := [], laidByText := true, laidKinds := [.data, .data, .data, .sentinel, .sentinel], laidTests := true, laidLooks := .later }
def ParseBackCardSaid : Prop := Claim7.holds Tryz.pinned (.plain (OpenSpec.ofChange parseBackSpec)) parseBackCard

/-- THE TIED CARD OF 'girandolelaw03.ParsePrints'. -/
def parsePrintsCard : Claim7 := { stood := { row := parsePrintsRow, standIns := [], harness := (true, "b8ecd0bad706a84b5dfc2033df348da9c93460cfbb34439c9ae3ddd0bbd4524d"), looks := true }, kinds := [], alts := [], laidByText := true, laidKinds := [.data, .data, .data, .sentinel, .sentinel], laidTests := true, laidLooks := .later }
def ParsePrintsCardSaid : Prop := Claim7.holds Tryz.pinned (.plain (OpenSpec.ofChange parsePrintsSpec)) parsePrintsCard

/-- THE TIED CARD OF 'girandolelaw03.ParsePlaces'. -/
def parsePlacesCard : Claim7 := { stood := { row := parsePlacesRow, standIns := [], harness := (true, "b8ecd0bad706a84b5dfc2033df348da9c93460cfbb34439c9ae3ddd0bbd4524d"), looks := true }, kinds := [], alts := [], laidByText := true, laidKinds := [.data, .data, .data, .sentinel, .sentinel], laidTests := true, laidLooks := .later }
def ParsePlacesCardSaid : Prop := Claim7.holds Tryz.pinned (.plain (OpenSpec.ofChange parsePlacesSpec)) parsePlacesCard

/-- THE TIED CARD OF 'girandolelaw03.ParseBlanks'. -/
def parseBlanksCard : Claim7 := { stood := { row := parseBlanksRow, standIns := [], harness := (true, "b8ecd0bad706a84b5dfc2033df348da9c93460cfbb34439c9ae3ddd0bbd4524d"), looks := true }, kinds := [], alts := [], laidByText := true, laidKinds := [.data, .data, .data, .sentinel, .sentinel], laidTests := true, laidLooks := .later }
def ParseBlanksCardSaid : Prop := Claim7.holds Tryz.pinned (.plain (OpenSpec.ofChange parseBlanksSpec)) parseBlanksCard

/-- THE TIED CARD OF 'girandolelaw05.TypesAwaits'. -/
def typesAwaitsCard : Claim7 := { stood := { row := typesAwaitsRow, standIns := [], harness := (true, "b8ecd0bad706a84b5dfc2033df348da9c93460cfbb34439c9ae3ddd0bbd4524d"), looks := true }, kinds := [], alts := [], laidByText := true, laidKinds := [.data, .data, .data, .sentinel, .sentinel], laidTests := true, laidLooks := .later }
def TypesAwaitsCardSaid : Prop := Claim7.holds Tryz.pinned (.plain (OpenSpec.ofChange typesAwaitsSpec)) typesAwaitsCard

/-- THE TIED CARD OF 'girandolelaw05.TypesCalls'. -/
def typesCallsCard : Claim7 := { stood := { row := typesCallsRow, standIns := [], harness := (true, "b8ecd0bad706a84b5dfc2033df348da9c93460cfbb34439c9ae3ddd0bbd4524d"), looks := true }, kinds := [], alts := [], laidByText := true, laidKinds := [.data, .data, .data, .sentinel, .sentinel], laidTests := true, laidLooks := .later }
def TypesCallsCardSaid : Prop := Claim7.holds Tryz.pinned (.plain (OpenSpec.ofChange typesCallsSpec)) typesCallsCard

/-- THE TIED CARD OF 'girandolelaw06.ClocksDeep'. -/
def clocksDeepCard : Claim7 := { stood := { row := clocksDeepRow, standIns := [], harness := (true, "b8ecd0bad706a84b5dfc2033df348da9c93460cfbb34439c9ae3ddd0bbd4524d"), looks := true }, kinds := [], alts := [], laidByText := true, laidKinds := [.data, .data, .data, .sentinel, .sentinel], laidTests := true, laidLooks := .later }
def ClocksDeepCardSaid : Prop := Claim7.holds Tryz.pinned (.plain (OpenSpec.ofChange clocksDeepSpec)) clocksDeepCard

/-- THE TIED CARD OF 'girandolelaw08.FlatDoubles'. -/
def flatDoublesCard : Claim7 := { stood := { row := flatDoublesRow, standIns := [], harness := (true, "b8ecd0bad706a84b5dfc2033df348da9c93460cfbb34439c9ae3ddd0bbd4524d"), looks := true }, kinds := [], alts := [], laidByText := true, laidKinds := [.data, .data, .data, .sentinel, .sentinel], laidTests := true, laidLooks := .later }
def FlatDoublesCardSaid : Prop := Claim7.holds Tryz.pinned (.plain (OpenSpec.ofChange flatDoublesSpec)) flatDoublesCard

/-- THE TIED CARD OF 'girandolelaw08.FlatClocks'. -/
def flatClocksCard : Claim7 := { stood := { row := flatClocksRow, standIns := [], harness := (true, "b8ecd0bad706a84b5dfc2033df348da9c93460cfbb34439c9ae3ddd0bbd4524d"), looks := true }, kinds := [], alts := [], laidByText := true, laidKinds := [.data, .data, .data, .sentinel, .sentinel], laidTests := true, laidLooks := .later }
def FlatClocksCardSaid : Prop := Claim7.holds Tryz.pinned (.plain (OpenSpec.ofChange flatClocksSpec)) flatClocksCard

/-- THE SECOND FORM's CARD OF 'girandolelaw03.ParseBack'. -/
def parseBackUptoCard : Claim7 := { stood := { row := parseBackUptoRow, standIns := [], harness := (true, "b8ecd0bad706a84b5dfc2033df348da9c93460cfbb34439c9ae3ddd0bbd4524d"), looks := true }, kinds := [], alts := [], laidByText := true, laidKinds := [.data, .data, .data, .sentinel, .sentinel], laidTests := true, laidLooks := .later }
def ParseBackUptoCardSaid : Prop := Claim7.holds Tryz.pinned (.plain (OpenSpec.upto parseBackSpec)) parseBackUptoCard

/-- THE SECOND FORM's CARD OF 'girandolelaw03.ParsePrints'. -/
def parsePrintsUptoCard : Claim7 := { stood := { row := parsePrintsUptoRow, standIns := [], harness := (true, "b8ecd0bad706a84b5dfc2033df348da9c93460cfbb34439c9ae3ddd0bbd4524d"), looks := true }, kinds := [], alts := [], laidByText := true, laidKinds := [.data, .data, .data, .sentinel, .sentinel], laidTests := true, laidLooks := .later }
def ParsePrintsUptoCardSaid : Prop := Claim7.holds Tryz.pinned (.plain (OpenSpec.upto parsePrintsSpec)) parsePrintsUptoCard

/-- THE SECOND FORM's CARD OF 'girandolelaw03.ParsePlaces'. -/
def parsePlacesUptoCard : Claim7 := { stood := { row := parsePlacesUptoRow, standIns := [], harness := (true, "b8ecd0bad706a84b5dfc2033df348da9c93460cfbb34439c9ae3ddd0bbd4524d"), looks := true }, kinds := [], alts := [], laidByText := true, laidKinds := [.data, .data, .data, .sentinel, .sentinel], laidTests := true, laidLooks := .later }
def ParsePlacesUptoCardSaid : Prop := Claim7.holds Tryz.pinned (.plain (OpenSpec.upto parsePlacesSpec)) parsePlacesUptoCard

/-- THE SECOND FORM's CARD OF 'girandolelaw03.ParseBlanks'. -/
def parseBlanksUptoCard : Claim7 := { stood := { row := parseBlanksUptoRow, standIns := [], harness := (true, "b8ecd0bad706a84b5dfc2033df348da9c93460cfbb34439c9ae3ddd0bbd4524d"), looks := true }, kinds := [], alts := [], laidByText := true, laidKinds := [.data, .data, .data, .sentinel, .sentinel], laidTests := true, laidLooks := .later }
def ParseBlanksUptoCardSaid : Prop := Claim7.holds Tryz.pinned (.plain (OpenSpec.upto parseBlanksSpec)) parseBlanksUptoCard

/-- THE SECOND FORM's CARD OF 'girandolelaw05.TypesAwaits'. -/
def typesAwaitsUptoCard : Claim7 := { stood := { row := typesAwaitsUptoRow, standIns := [], harness := (true, "b8ecd0bad706a84b5dfc2033df348da9c93460cfbb34439c9ae3ddd0bbd4524d"), looks := true }, kinds := [], alts := [], laidByText := true, laidKinds := [.data, .data, .data, .sentinel, .sentinel], laidTests := true, laidLooks := .later }
def TypesAwaitsUptoCardSaid : Prop := Claim7.holds Tryz.pinned (.plain (OpenSpec.upto typesAwaitsSpec)) typesAwaitsUptoCard

/-- THE SECOND FORM's CARD OF 'girandolelaw05.TypesCalls'. -/
def typesCallsUptoCard : Claim7 := { stood := { row := typesCallsUptoRow, standIns := [], harness := (true, "b8ecd0bad706a84b5dfc2033df348da9c93460cfbb34439c9ae3ddd0bbd4524d"), looks := true }, kinds := [], alts := [], laidByText := true, laidKinds := [.data, .data, .data, .sentinel, .sentinel], laidTests := true, laidLooks := .later }
def TypesCallsUptoCardSaid : Prop := Claim7.holds Tryz.pinned (.plain (OpenSpec.upto typesCallsSpec)) typesCallsUptoCard

/-- THE SECOND FORM's CARD OF 'girandolelaw06.ClocksDeep'. -/
def clocksDeepUptoCard : Claim7 := { stood := { row := clocksDeepUptoRow, standIns := [], harness := (true, "b8ecd0bad706a84b5dfc2033df348da9c93460cfbb34439c9ae3ddd0bbd4524d"), looks := true }, kinds := [], alts := [], laidByText := true, laidKinds := [.data, .data, .data, .sentinel, .sentinel], laidTests := true, laidLooks := .later }
def ClocksDeepUptoCardSaid : Prop := Claim7.holds Tryz.pinned (.plain (OpenSpec.upto clocksDeepSpec)) clocksDeepUptoCard

/-- THE SECOND FORM's CARD OF 'girandolelaw08.FlatDoubles'. -/
def flatDoublesUptoCard : Claim7 := { stood := { row := flatDoublesUptoRow, standIns := [], harness := (true, "b8ecd0bad706a84b5dfc2033df348da9c93460cfbb34439c9ae3ddd0bbd4524d"), looks := true }, kinds := [], alts := [], laidByText := true, laidKinds := [.data, .data, .data, .sentinel, .sentinel], laidTests := true, laidLooks := .later }
def FlatDoublesUptoCardSaid : Prop := Claim7.holds Tryz.pinned (.plain (OpenSpec.upto flatDoublesSpec)) flatDoublesUptoCard

/-- THE SECOND FORM's CARD OF 'girandolelaw08.FlatClocks'. -/
def flatClocksUptoCard : Claim7 := { stood := { row := flatClocksUptoRow, standIns := [], harness := (true, "b8ecd0bad706a84b5dfc2033df348da9c93460cfbb34439c9ae3ddd0bbd4524d"), looks := true }, kinds := [], alts := [], laidByText := true, laidKinds := [.data, .data, .data, .sentinel, .sentinel], laidTests := true, laidLooks := .later }
def FlatClocksUptoCardSaid : Prop := Claim7.holds Tryz.pinned (.plain (OpenSpec.upto flatClocksSpec)) flatClocksUptoCard
end Rows
end Go.Proofs.YtjgknelmjdallaaGreatDoor
