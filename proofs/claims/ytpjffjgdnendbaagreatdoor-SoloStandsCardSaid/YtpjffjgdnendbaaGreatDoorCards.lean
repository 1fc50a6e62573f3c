/-
  DERIVED. GIVEN WITH THE SEED: THE CARDS: each row of YtpjffjgdnendbaaGreatDoorRows.lean that lists a variable, with what it lists TIED to the program's text (the seventh form; the later family's looks); each row that meets fmt, with fmt's text TOLD by the authors' own Lean function (tested against real Go, not proved from fmt's source: count such statements apart). THE CARD IS WHAT COUNTS. Prove the row's statement (the work); the ties are given (YtpjffjgdnendbaaGreatDoorTie.lean); close each card by the builder's one call (the guide's Derived/Test/ToyasCard.lean, 'card_holds'). Laid BY PROGRAM, IN A SANDBOX (cutbox-door.mjs). By AI agents, Wed Nov 11 2026. No macro, syntax, notation, axiom, sorry.
-/
import Derived.Test.YtpjffjgdnendbaaGreatDoorRows
import GoSem.ClaimSeven
namespace Go.Proofs.YtpjffjgdnendbaaGreatDoor
namespace Rows

/-- THE TIED CARD OF 'girandolelaw11.SoloRows'. -/
def soloRowsCard : Claim7 := { stood := { row := soloRowsRow, standIns := [], harness := (true, "861dcc2a5da8f63af9ffede89ebc01978bc079244c6ae4c181185d48097b24ab"), looks := true }, kinds := [], alts := [], laidByText := true, laidKinds := [.data, .data, .data, .sentinel, .sentinel], laidTests := true, laidLooks := .later }
def SoloRowsCardSaid : Prop := Claim7.holds Tryz.pinned (.plain (OpenSpec.ofChange soloRowsSpec)) soloRowsCard

/-- THE TIED CARD OF 'girandolelaw11.SoloClocks'. -/
def soloClocksCard : Claim7 := { stood := { row := soloClocksRow, standIns := [], harness := (true, "861dcc2a5da8f63af9ffede89ebc01978bc079244c6ae4c181185d48097b24ab"), looks := true }, kinds := [], alts := [], laidByText := true, laidKinds := [.data, .data, .data, .sentinel, .sentinel], laidTests := true, laidLooks := .later }
def SoloClocksCardSaid : Prop := Claim7.holds Tryz.pinned (.plain (OpenSpec.ofChange soloClocksSpec)) soloClocksCard

/-- THE TIED CARD OF 'girandolelaw11.SoloStands'. -/
def soloStandsCard : Claim7 := { stood := { row := soloStandsRow, standIns := [], harness := (true, "861dcc2a5da8f63af9ffede89ebc01978bc079244c6ae4c181185d48097b24ab"), looks := true }, kinds := [], alts := [], laidByText := true, laidKinds := [.data, .data, .data, .sentinel, .sentinel], laidTests := true, laidLooks := .later }
def SoloStandsCardSaid : Prop := Claim7.holds Tryz.pinned (.plain (OpenSpec.ofChange soloStandsSpec)) soloStandsCard

/-- THE TIED CARD OF 'girandolelaw09.OrderCalls'. -/
def orderCallsCard : Claim7 := { stood := { row := orderCallsRow, standIns := [], harness := (true, "861dcc2a5da8f63af9ffede89ebc01978bc079244c6ae4c181185d48097b24ab"), looks := true }, kinds := [], alts := [], laidByText := true, laidKinds := [.data, .data, .data, .sentinel, .sentinel], laidTests := true, laidLooks := .later }
def OrderCallsCardSaid : Prop := Claim7.holds Tryz.pinned (.plain (OpenSpec.ofChange orderCallsSpec)) orderCallsCard

/-- THE SECOND FORM's CARD OF 'girandolelaw11.SoloRows'. -/
def soloRowsUptoCard : Claim7 := { stood := { row := soloRowsUptoRow, standIns := [], harness := (true, "861dcc2a5da8f63af9ffede89ebc01978bc079244c6ae4c181185d48097b24ab"), looks := true }, kinds := [], alts := [], laidByText := true, laidKinds := [.data, .data, .data, .sentinel, .sentinel], laidTests := true, laidLooks := .later }
def SoloRowsUptoCardSaid : Prop := Claim7.holds Tryz.pinned (.plain (OpenSpec.upto soloRowsSpec)) soloRowsUptoCard

/-- THE SECOND FORM's CARD OF 'girandolelaw11.SoloClocks'. -/
def soloClocksUptoCard : Claim7 := { stood := { row := soloClocksUptoRow, standIns := [], harness := (true, "861dcc2a5da8f63af9ffede89ebc01978bc079244c6ae4c181185d48097b24ab"), looks := true }, kinds := [], alts := [], laidByText := true, laidKinds := [.data, .data, .data, .sentinel, .sentinel], laidTests := true, laidLooks := .later }
def SoloClocksUptoCardSaid : Prop := Claim7.holds Tryz.pinned (.plain (OpenSpec.upto soloClocksSpec)) soloClocksUptoCard

/-- THE SECOND FORM's CARD OF 'girandolelaw11.SoloStands'. -/
def soloStandsUptoCard : Claim7 := { stood := { row := soloStandsUptoRow, standIns := [], harness := (true, "861dcc2a5da8f63af9ffede89ebc01978bc079244c6ae4c181185d48097b24ab"), looks := true }, kinds := [], alts := [], laidByText := true, laidKinds := [.data, .data, .data, .sentinel, .sentinel], laidTests := true, laidLooks := .later }
def SoloStandsUptoCardSaid : Prop := Claim7.holds Tryz.pinned (.plain (OpenSpec.upto soloStandsSpec)) soloStandsUptoCard

/-- THE SECOND FORM's CARD OF 'girandolelaw09.OrderCalls'. -/
def orderCallsUptoCard : Claim7 := { stood := { row := orderCallsUptoRow, standIns := [], harness := (true, "861dcc2a5da8f63af9ffede89ebc01978bc079244c6ae4c181185d48097b24ab"), looks := true }, kinds := [], alts := [], laidByText := true, laidKinds := [.data, .data, .data, .sentinel, .sentinel], laidTests := true, laidLooks := .later }
def OrderCallsUptoCardSaid : Prop := Claim7.holds Tryz.pinned (.plain (OpenSpec.upto orderCallsSpec)) orderCallsUptoCard
end Rows
end Go.Proofs.YtpjffjgdnendbaaGreatDoor
