/-
  DERIVED. GIVEN WITH THE SEED: THE CARDS: each row of YtmlelgncmjpcoaaGreatDoorRows.lean that lists a variable, with what it lists TIED to the program's text (the seventh form; the later family's looks); each row that meets fmt, with fmt's text TOLD by the authors' own Lean function (tested against real Go, not proved from fmt's source: count such statements apart). THE CARD IS WHAT COUNTS. Prove the row's statement (the work); the ties are given (YtmlelgncmjpcoaaGreatDoorTie.lean); close each card by the builder's one call (the guide's Derived/Test/ToyasCard.lean, 'card_holds'). Laid BY PROGRAM, IN A SANDBOX (cutbox-door.mjs). By AI agents, Wed Nov 11 2026. No macro, syntax, notation, axiom, sorry.
-/
import Derived.Test.YtmlelgncmjpcoaaGreatDoorRows
import GoSem.ClaimSeven
namespace Go.Proofs.YtmlelgncmjpcoaaGreatDoor
namespace Rows

/-- THE TIED CARD OF 'girandolelaw12.SplitMany'. -/
def splitManyCard : Claim7 := { stood := { row := splitManyRow, standIns := [], harness := (true, "8882c2c620d71e1b709f2c49d0ea46db75fa5a2be80792c81baa8cd7a17137a8"), looks := true }, kinds := [], alts := [], laidByText := true, laidKinds := [.data, .data, .data, .sentinel, .sentinel], laidTests := true, laidLooks := .later }
def SplitManyCardSaid : Prop := Claim7.holds Tryz.pinned (.plain (OpenSpec.ofChange splitManySpec)) splitManyCard

/-- THE TIED CARD OF 'girandolelaw12.SplitHanded'. -/
def splitHandedCard : Claim7 := { stood := { row := splitHandedRow, standIns := [], harness := (true, "8882c2c620d71e1b709f2c49d0ea46db75fa5a2be80792c81baa8cd7a17137a8"), looks := true }, kinds := [], alts := [], laidByText := true, laidKinds := [.data, .data, .data, .sentinel, .sentinel], laidTests := true, laidLooks := .later }
def SplitHandedCardSaid : Prop := Claim7.holds Tryz.pinned (.plain (OpenSpec.ofChange splitHandedSpec)) splitHandedCard

/-- THE TIED CARD OF 'girandolelaw13.BalanceRings'. -/
def balanceRingsCard : Claim7 := { stood := { row := balanceRingsRow, standIns := [], harness := (true, "8882c2c620d71e1b709f2c49d0ea46db75fa5a2be80792c81baa8cd7a17137a8"), looks := true }, kinds := [], alts := [], laidByText := true, laidKinds := [.data, .data, .data, .sentinel, .sentinel], laidTests := true, laidLooks := .later }
def BalanceRingsCardSaid : Prop := Claim7.holds Tryz.pinned (.plain (OpenSpec.ofChange balanceRingsSpec)) balanceRingsCard

/-- THE TIED CARD OF 'girandolelaw09.OrderChains'. -/
def orderChainsCard : Claim7 := { stood := { row := orderChainsRow, standIns := [], harness := (true, "8882c2c620d71e1b709f2c49d0ea46db75fa5a2be80792c81baa8cd7a17137a8"), looks := true }, kinds := [], alts := [], laidByText := true, laidKinds := [.data, .data, .data, .sentinel, .sentinel], laidTests := true, laidLooks := .later }
def OrderChainsCardSaid : Prop := Claim7.holds Tryz.pinned (.plain (OpenSpec.ofChange orderChainsSpec)) orderChainsCard

/-- THE SECOND FORM's CARD OF 'girandolelaw12.SplitMany'. -/
def splitManyUptoCard : Claim7 := { stood := { row := splitManyUptoRow, standIns := [], harness := (true, "8882c2c620d71e1b709f2c49d0ea46db75fa5a2be80792c81baa8cd7a17137a8"), looks := true }, kinds := [], alts := [], laidByText := true, laidKinds := [.data, .data, .data, .sentinel, .sentinel], laidTests := true, laidLooks := .later }
def SplitManyUptoCardSaid : Prop := Claim7.holds Tryz.pinned (.plain (OpenSpec.upto splitManySpec)) splitManyUptoCard

/-- THE SECOND FORM's CARD OF 'girandolelaw12.SplitHanded'. -/
def splitHandedUptoCard : Claim7 := { stood := { row := splitHandedUptoRow, standIns := [], harness := (true, "8882c2c620d71e1b709f2c49d0ea46db75fa5a2be80792c81baa8cd7a17137a8"), looks := true }, kinds := [], alts := [], laidByText := true, laidKinds := [.data, .data, .data, .sentinel, .sentinel], laidTests := true, laidLooks := .later }
def SplitHandedUptoCardSaid : Prop := Claim7.holds Tryz.pinned (.plain (OpenSpec.upto splitHandedSpec)) splitHandedUptoCard

/-- THE SECOND FORM's CARD OF 'girandolelaw13.BalanceRings'. -/
def balanceRingsUptoCard : Claim7 := { stood := { row := balanceRingsUptoRow, standIns := [], harness := (true, "8882c2c620d71e1b709f2c49d0ea46db75fa5a2be80792c81baa8cd7a17137a8"), looks := true }, kinds := [], alts := [], laidByText := true, laidKinds := [.data, .data, .data, .sentinel, .sentinel], laidTests := true, laidLooks := .later }
def BalanceRingsUptoCardSaid : Prop := Claim7.holds Tryz.pinned (.plain (OpenSpec.upto balanceRingsSpec)) balanceRingsUptoCard

/-- THE SECOND FORM's CARD OF 'girandolelaw09.OrderChains'. -/
def orderChainsUptoCard : Claim7 := { stood := { row := orderChainsUptoRow, standIns := [], harness := (true, "8882c2c620d71e1b709f2c49d0ea46db75fa5a2be80792c81baa8cd7a17137a8"), looks := true }, kinds := [], alts := [], laidByText := true, laidKinds := [.data, .data, .data, .sentinel, .sentinel], laidTests := true, laidLooks := .later }
def OrderChainsUptoCardSaid : Prop := Claim7.holds Tryz.pinned (.plain (OpenSpec.upto orderChainsSpec)) orderChainsUptoCard
end Rows
end Go.Proofs.YtmlelgncmjpcoaaGreatDoor
