/-
  DERIVED. GIVEN WITH THE SEED: THE CARDS: each row of YtlnmfdnpdhimkaaDoorRows.lean that lists a variable, with what it lists TIED to the program's text (the seventh form; the later family's looks); each row that meets fmt, with fmt's text TOLD by the authors' own Lean function (tested against real Go, not proved from fmt's source: count such statements apart). THE CARD IS WHAT COUNTS. Prove the row's statement (the work); the ties are given (YtlnmfdnpdhimkaaDoorTie.lean); close each card by the builder's one call (the guide's Derived/Test/ToyasCard.lean, 'card_holds'). Laid BY PROGRAM, IN A SANDBOX (cutbox-door.mjs). By AI agents, Wed Nov 11 2026. No macro, syntax, notation, axiom, sorry.
-/
import Derived.Test.YtlnmfdnpdhimkaaDoorRows
import GoSem.ClaimSeven
namespace Go.Proofs.YtlnmfdnpdhimkaaDoor
namespace Rows

/-- THE TIED CARD OF 'flowkeeperlaw.Coded'. -/
def codedCard : Claim7 := { stood := { row := codedRow, standIns := [], harness := (true, "7a3427f9841e3052329f69ac32cd615f0f289695377259ea0272f1103984d546"), looks := true }, kinds := [], alts := [], laidByText := true, laidKinds := [.data, .data, .handle], laidTests := true, laidLooks := .later }
def CodedCardSaid : Prop := Claim7.holds Tryd.pinned (.plain (OpenSpec.ofChange codedSpec)) codedCard

/-- THE TIED CARD OF 'flowkeeperlaw.Reckoned'. -/
def reckonedCard : Claim7 := { stood := { row := reckonedRow, standIns := [], harness := (true, "7a3427f9841e3052329f69ac32cd615f0f289695377259ea0272f1103984d546"), looks := true }, kinds := [], alts := [], laidByText := true, laidKinds := [.data, .data], laidTests := true, laidLooks := .later }
def ReckonedCardSaid : Prop := Claim7.holds Tryd.pinned (.plain (OpenSpec.ofChange reckonedSpec)) reckonedCard

/-- THE TIED CARD OF 'flowkeeperkeep.Returned'. -/
def returnedCard : Claim7 := { stood := { row := returnedRow, standIns := [], harness := (true, "7a3427f9841e3052329f69ac32cd615f0f289695377259ea0272f1103984d546"), looks := true }, kinds := [], alts := [], laidByText := true, laidKinds := [.data, .data, .handle], laidTests := true, laidLooks := .later }
def ReturnedCardSaid : Prop := Claim7.holds Tryd.pinned (.plain (OpenSpec.ofChange returnedSpec)) returnedCard

/-- THE SECOND FORM's CARD OF 'flowkeeperlaw.Coded'. -/
def codedUptoCard : Claim7 := { stood := { row := codedUptoRow, standIns := [], harness := (true, "7a3427f9841e3052329f69ac32cd615f0f289695377259ea0272f1103984d546"), looks := true }, kinds := [], alts := [], laidByText := true, laidKinds := [.data, .data, .handle], laidTests := true, laidLooks := .later }
def CodedUptoCardSaid : Prop := Claim7.holds Tryd.pinned (.plain (OpenSpec.upto codedSpec)) codedUptoCard

/-- THE SECOND FORM's CARD OF 'flowkeeperlaw.Reckoned'. -/
def reckonedUptoCard : Claim7 := { stood := { row := reckonedUptoRow, standIns := [], harness := (true, "7a3427f9841e3052329f69ac32cd615f0f289695377259ea0272f1103984d546"), looks := true }, kinds := [], alts := [], laidByText := true, laidKinds := [.data, .data], laidTests := true, laidLooks := .later }
def ReckonedUptoCardSaid : Prop := Claim7.holds Tryd.pinned (.plain (OpenSpec.upto reckonedSpec)) reckonedUptoCard

/-- THE SECOND FORM's CARD OF 'flowkeeperkeep.Returned'. -/
def returnedUptoCard : Claim7 := { stood := { row := returnedUptoRow, standIns := [], harness := (true, "7a3427f9841e3052329f69ac32cd615f0f289695377259ea0272f1103984d546"), looks := true }, kinds := [], alts := [], laidByText := true, laidKinds := [.data, .data, .handle], laidTests := true, laidLooks := .later }
def ReturnedUptoCardSaid : Prop := Claim7.holds Tryd.pinned (.plain (OpenSpec.upto returnedSpec)) returnedUptoCard
end Rows
end Go.Proofs.YtlnmfdnpdhimkaaDoor
