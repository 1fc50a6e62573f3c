/-
  DERIVED. GIVEN WITH THE SEED: THE CARDS: each row of YtbchlfdjedbfhaaDoorRows.lean that lists a variable, with what it lists TIED to the program's text (the seventh form; the later family's looks); each row that meets fmt, with fmt's text TOLD by the authors' own Lean function (tested against real Go, not proved from fmt's source: count such statements apart). THE CARD IS WHAT COUNTS. Prove the row's statement (the work); the ties are given (YtbchlfdjedbfhaaDoorTie.lean); close each card by the builder's one call (the guide's Derived/Test/ToyasCard.lean, 'card_holds'). Laid BY PROGRAM, IN A SANDBOX (cutbox-door.mjs). By AI agents, Wed Nov 11 2026. No macro, syntax, notation, axiom, sorry.
-/
import Derived.Test.YtbchlfdjedbfhaaDoorRows
import GoSem.ClaimSeven
namespace Go.Proofs.YtbchlfdjedbfhaaDoor
namespace Rows

/-- THE TIED CARD OF 'girandolelaw20.FeedReads'. -/
def feedReadsCard : Claim7 := { stood := { row := feedReadsRow, standIns := [], harness := (true, "feeb662ad889bd9c762d59014f889d649bfd9bdfb0dbe919f6858c7144207544"), looks := true }, kinds := [], alts := [], laidByText := true, laidKinds := [.data, .data, .data, .data, .sentinel, .sentinel, .pinned], laidTests := true, laidLooks := .later }
def FeedReadsCardSaid : Prop := Claim7.holds Tryd.pinned (.plain (OpenSpec.ofChange feedReadsSpec)) feedReadsCard

/-- THE TIED CARD OF 'girandolelaw20.FeedBack'. -/
def feedBackCard : Claim7 := { stood := { row := feedBackRow, standIns := [], harness := (true, "feeb662ad889bd9c762d59014f889d649bfd9bdfb0dbe919f6858c7144207544"), looks := true }, kinds := [], alts := [], laidByText := true, laidKinds := [.data, .data, .data, .data, .sentinel, .sentinel, .pinned], laidTests := true, laidLooks := .later }
def FeedBackCardSaid : Prop := Claim7.holds Tryd.pinned (.plain (OpenSpec.ofChange feedBackSpec)) feedBackCard

/-- THE TIED CARD OF 'girandolelaw20.FeedPorts'. -/
def feedPortsCard : Claim7 := { stood := { row := feedPortsRow, standIns := [], harness := (true, "feeb662ad889bd9c762d59014f889d649bfd9bdfb0dbe919f6858c7144207544"), looks := true }, kinds := [], alts := [], laidByText := true, laidKinds := [.data, .data, .data, .data, .sentinel, .sentinel, .pinned], laidTests := true, laidLooks := .later }
def FeedPortsCardSaid : Prop := Claim7.holds Tryd.pinned (.plain (OpenSpec.ofChange feedPortsSpec)) feedPortsCard

/-- THE TIED CARD OF 'girandolelaw20.FeedMany'. -/
def feedManyCard : Claim7 := { stood := { row := feedManyRow, standIns := [], harness := (true, "feeb662ad889bd9c762d59014f889d649bfd9bdfb0dbe919f6858c7144207544"), looks := true }, kinds := [], alts := [], laidByText := true, laidKinds := [.data, .data, .data, .data, .sentinel, .sentinel, .pinned], laidTests := true, laidLooks := .later }
def FeedManyCardSaid : Prop := Claim7.holds Tryd.pinned (.plain (OpenSpec.ofChange feedManySpec)) feedManyCard

/-- THE SECOND FORM's CARD OF 'girandolelaw20.FeedReads'. -/
def feedReadsUptoCard : Claim7 := { stood := { row := feedReadsUptoRow, standIns := [], harness := (true, "feeb662ad889bd9c762d59014f889d649bfd9bdfb0dbe919f6858c7144207544"), looks := true }, kinds := [], alts := [], laidByText := true, laidKinds := [.data, .data, .data, .data, .sentinel, .sentinel, .pinned], laidTests := true, laidLooks := .later }
def FeedReadsUptoCardSaid : Prop := Claim7.holds Tryd.pinned (.plain (OpenSpec.upto feedReadsSpec)) feedReadsUptoCard

/-- THE SECOND FORM's CARD OF 'girandolelaw20.FeedBack'. -/
def feedBackUptoCard : Claim7 := { stood := { row := feedBackUptoRow, standIns := [], harness := (true, "feeb662ad889bd9c762d59014f889d649bfd9bdfb0dbe919f6858c7144207544"), looks := true }, kinds := [], alts := [], laidByText := true, laidKinds := [.data, .data, .data, .data, .sentinel, .sentinel, .pinned], laidTests := true, laidLooks := .later }
def FeedBackUptoCardSaid : Prop := Claim7.holds Tryd.pinned (.plain (OpenSpec.upto feedBackSpec)) feedBackUptoCard

/-- THE SECOND FORM's CARD OF 'girandolelaw20.FeedPorts'. -/
def feedPortsUptoCard : Claim7 := { stood := { row := feedPortsUptoRow, standIns := [], harness := (true, "feeb662ad889bd9c762d59014f889d649bfd9bdfb0dbe919f6858c7144207544"), looks := true }, kinds := [], alts := [], laidByText := true, laidKinds := [.data, .data, .data, .data, .sentinel, .sentinel, .pinned], laidTests := true, laidLooks := .later }
def FeedPortsUptoCardSaid : Prop := Claim7.holds Tryd.pinned (.plain (OpenSpec.upto feedPortsSpec)) feedPortsUptoCard

/-- THE SECOND FORM's CARD OF 'girandolelaw20.FeedMany'. -/
def feedManyUptoCard : Claim7 := { stood := { row := feedManyUptoRow, standIns := [], harness := (true, "feeb662ad889bd9c762d59014f889d649bfd9bdfb0dbe919f6858c7144207544"), looks := true }, kinds := [], alts := [], laidByText := true, laidKinds := [.data, .data, .data, .data, .sentinel, .sentinel, .pinned], laidTests := true, laidLooks := .later }
def FeedManyUptoCardSaid : Prop := Claim7.holds Tryd.pinned (.plain (OpenSpec.upto feedManySpec)) feedManyUptoCard
end Rows
end Go.Proofs.YtbchlfdjedbfhaaDoor
