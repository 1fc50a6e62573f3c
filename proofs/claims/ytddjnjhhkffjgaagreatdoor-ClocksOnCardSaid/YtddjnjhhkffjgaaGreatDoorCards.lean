/-
  DERIVED. GIVEN WITH THE SEED: THE CARDS: each row of YtddjnjhhkffjgaaGreatDoorRows.lean that lists a variable, with what it lists TIED to the program's text (the seventh form; the later family's looks); each row that meets fmt, with fmt's text TOLD by the authors' own Lean function (tested against real Go, not proved from fmt's source: count such statements apart). THE CARD IS WHAT COUNTS. Prove the row's statement (the work); the ties are given (YtddjnjhhkffjgaaGreatDoorTie.lean); close each card by the builder's one call (the guide's Derived/Test/ToyasCard.lean, 'card_holds'). Laid BY PROGRAM, IN A SANDBOX (cutbox-door.mjs). By AI agents, Wed Nov 11 2026. No macro, syntax, notation, axiom, sorry.
-/
import Derived.Test.YtddjnjhhkffjgaaGreatDoorRows
import GoSem.ClaimSeven
namespace Go.Proofs.YtddjnjhhkffjgaaGreatDoor
namespace Rows

/-- THE TIED CARD OF 'girandolelaw03.ParseDeep'. -/
def parseDeepCard : Claim7 := { stood := { row := parseDeepRow, standIns := [], harness := (true, "d2539aa1dba2e42ee0129e9fecbc3c99438f5f2412e645084c6bcf107627768a"), looks := true }, kinds := [], alts := [], laidByText := true, laidKinds := [.data, .data, .data, .sentinel, .sentinel], laidTests := true, laidLooks := .later }
def ParseDeepCardSaid : Prop := Claim7.holds Tryz.pinned (.plain (OpenSpec.ofChange parseDeepSpec)) parseDeepCard

/-- THE TIED CARD OF 'girandolelaw05.TypesRight'. -/
def typesRightCard : Claim7 := { stood := { row := typesRightRow, standIns := [], harness := (true, "d2539aa1dba2e42ee0129e9fecbc3c99438f5f2412e645084c6bcf107627768a"), looks := true }, kinds := [], alts := [], laidByText := true, laidKinds := [.data, .data, .data, .sentinel, .sentinel], laidTests := true, laidLooks := .later }
def TypesRightCardSaid : Prop := Claim7.holds Tryz.pinned (.plain (OpenSpec.ofChange typesRightSpec)) typesRightCard

/-- THE TIED CARD OF 'girandolelaw06.ClocksOn'. -/
def clocksOnCard : Claim7 := { stood := { row := clocksOnRow, standIns := [], harness := (true, "d2539aa1dba2e42ee0129e9fecbc3c99438f5f2412e645084c6bcf107627768a"), looks := true }, kinds := [], alts := [], laidByText := true, laidKinds := [.data, .data, .data, .sentinel, .sentinel], laidTests := true, laidLooks := .later }
def ClocksOnCardSaid : Prop := Claim7.holds Tryz.pinned (.plain (OpenSpec.ofChange clocksOnSpec)) clocksOnCard

/-- THE TIED CARD OF 'girandolelaw07.InitsArrows'. -/
def initsArrowsCard : Claim7 := { stood := { row := initsArrowsRow, standIns := [], harness := (true, "d2539aa1dba2e42ee0129e9fecbc3c99438f5f2412e645084c6bcf107627768a"), looks := true }, kinds := [], alts := [], laidByText := true, laidKinds := [.data, .data, .data, .sentinel, .sentinel], laidTests := true, laidLooks := .later }
def InitsArrowsCardSaid : Prop := Claim7.holds Tryz.pinned (.plain (OpenSpec.ofChange initsArrowsSpec)) initsArrowsCard

/-- THE TIED CARD OF 'girandolelaw07.InitsCalls'. -/
def initsCallsCard : Claim7 := { stood := { row := initsCallsRow, standIns := [], harness := (true, "d2539aa1dba2e42ee0129e9fecbc3c99438f5f2412e645084c6bcf107627768a"), looks := true }, kinds := [], alts := [], laidByText := true, laidKinds := [.data, .data, .data, .sentinel, .sentinel], laidTests := true, laidLooks := .later }
def InitsCallsCardSaid : Prop := Claim7.holds Tryz.pinned (.plain (OpenSpec.ofChange initsCallsSpec)) initsCallsCard

/-- THE SECOND FORM's CARD OF 'girandolelaw03.ParseDeep'. -/
def parseDeepUptoCard : Claim7 := { stood := { row := parseDeepUptoRow, standIns := [], harness := (true, "d2539aa1dba2e42ee0129e9fecbc3c99438f5f2412e645084c6bcf107627768a"), looks := true }, kinds := [], alts := [], laidByText := true, laidKinds := [.data, .data, .data, .sentinel, .sentinel], laidTests := true, laidLooks := .later }
def ParseDeepUptoCardSaid : Prop := Claim7.holds Tryz.pinned (.plain (OpenSpec.upto parseDeepSpec)) parseDeepUptoCard

/-- THE SECOND FORM's CARD OF 'girandolelaw05.TypesRight'. -/
def typesRightUptoCard : Claim7 := { stood := { row := typesRightUptoRow, standIns := [], harness := (true, "d2539aa1dba2e42ee0129e9fecbc3c99438f5f2412e645084c6bcf107627768a"), looks := true }, kinds := [], alts := [], laidByText := true, laidKinds := [.data, .data, .data, .sentinel, .sentinel], laidTests := true, laidLooks := .later }
def TypesRightUptoCardSaid : Prop := Claim7.holds Tryz.pinned (.plain (OpenSpec.upto typesRightSpec)) typesRightUptoCard

/-- THE SECOND FORM's CARD OF 'girandolelaw06.ClocksOn'. -/
def clocksOnUptoCard : Claim7 := { stood := { row := clocksOnUptoRow, standIns := [], harness := (true, "d2539aa1dba2e42ee0129e9fecbc3c99438f5f2412e645084c6bcf107627768a"), looks := true }, kinds := [], alts := [], laidByText := true, laidKinds := [.data, .data, .data, .sentinel, .sentinel], laidTests := true, laidLooks := .later }
def ClocksOnUptoCardSaid : Prop := Claim7.holds Tryz.pinned (.plain (OpenSpec.upto clocksOnSpec)) clocksOnUptoCard

/-- THE SECOND FORM's CARD OF 'girandolelaw07.InitsArrows'. -/
def initsArrowsUptoCard : Claim7 := { stood := { row := initsArrowsUptoRow, standIns := [], harness := (true, "d2539aa1dba2e42ee0129e9fecbc3c99438f5f2412e645084c6bcf107627768a"), looks := true }, kinds := [], alts := [], laidByText := true, laidKinds := [.data, .data, .data, .sentinel, .sentinel], laidTests := true, laidLooks := .later }
def InitsArrowsUptoCardSaid : Prop := Claim7.holds Tryz.pinned (.plain (OpenSpec.upto initsArrowsSpec)) initsArrowsUptoCard

/-- THE SECOND FORM's CARD OF 'girandolelaw07.InitsCalls'. -/
def initsCallsUptoCard : Claim7 := { stood := { row := initsCallsUptoRow, standIns := [], harness := (true, "d2539aa1dba2e42ee0129e9fecbc3c99438f5f2412e645084c6bcf107627768a"), looks := true }, kinds := [], alts := [], laidByText := true, laidKinds := [.data, .data, .data, .sentinel, .sentinel], laidTests := true, laidLooks := .later }
def InitsCallsUptoCardSaid : Prop := Claim7.holds Tryz.pinned (.plain (OpenSpec.upto initsCallsSpec)) initsCallsUptoCard
end Rows
end Go.Proofs.YtddjnjhhkffjgaaGreatDoor
