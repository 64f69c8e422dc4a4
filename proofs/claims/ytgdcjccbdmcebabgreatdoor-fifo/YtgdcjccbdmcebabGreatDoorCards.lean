/-
  DERIVED. GIVEN WITH THE SEED: THE CARDS: each row of YtgdcjccbdmcebabGreatDoorRows.lean that lists a variable, with what it lists TIED to the program's text (the seventh form; the later family's looks); each row that meets fmt, with fmt's text TOLD by the authors' own Lean function (tested against real Go, not proved from fmt's source: count such statements apart). THE CARD IS WHAT COUNTS. Prove the row's statement (the work); the ties are given (YtgdcjccbdmcebabGreatDoorTie.lean); close each card by the builder's one call (the guide's Derived/Test/ToyasCard.lean, 'card_holds'). Laid BY PROGRAM, IN A SANDBOX (cutbox-door.mjs). By AI agents, Wed Nov 11 2026. No macro, syntax, notation, axiom, sorry.
-/
import Derived.Test.YtgdcjccbdmcebabGreatDoorRows
import GoSem.ClaimSeven
namespace Go.Proofs.YtgdcjccbdmcebabGreatDoor
namespace Rows

/-- THE TIED CARD OF 'flowkeeperkeep.Fifo'. -/
def fifoCard : Claim7 := { stood := { row := fifoRow, standIns := [], harness := (true, "f80686cb8c511c4db5ae23e47a25e8afb6c85b6b3f30be54c31a5c863d821d1c"), looks := true }, kinds := [], alts := [], laidByText := true, laidKinds := [.data, .data, .handle, .data], laidTests := true, laidLooks := .later }
def FifoCardSaid : Prop := Claim7.holds Tryz.pinned (.plain (OpenSpec.ofChange fifoSpec)) fifoCard

/-- THE TIED CARD OF 'flowkeeperkeep.Compacted'. -/
def compactedCard : Claim7 := { stood := { row := compactedRow, standIns := [], harness := (true, "f80686cb8c511c4db5ae23e47a25e8afb6c85b6b3f30be54c31a5c863d821d1c"), looks := true }, kinds := [], alts := [], laidByText := true, laidKinds := [.data, .data, .handle, .data], laidTests := true, laidLooks := .later }
def CompactedCardSaid : Prop := Claim7.holds Tryz.pinned (.plain (OpenSpec.ofChange compactedSpec)) compactedCard

/-- THE SECOND FORM's CARD OF 'flowkeeperkeep.Fifo'. -/
def fifoUptoCard : Claim7 := { stood := { row := fifoUptoRow, standIns := [], harness := (true, "f80686cb8c511c4db5ae23e47a25e8afb6c85b6b3f30be54c31a5c863d821d1c"), looks := true }, kinds := [], alts := [], laidByText := true, laidKinds := [.data, .data, .handle, .data], laidTests := true, laidLooks := .later }
def FifoUptoCardSaid : Prop := Claim7.holds Tryz.pinned (.plain (OpenSpec.upto fifoSpec)) fifoUptoCard

/-- THE SECOND FORM's CARD OF 'flowkeeperkeep.Compacted'. -/
def compactedUptoCard : Claim7 := { stood := { row := compactedUptoRow, standIns := [], harness := (true, "f80686cb8c511c4db5ae23e47a25e8afb6c85b6b3f30be54c31a5c863d821d1c"), looks := true }, kinds := [], alts := [], laidByText := true, laidKinds := [.data, .data, .handle, .data], laidTests := true, laidLooks := .later }
def CompactedUptoCardSaid : Prop := Claim7.holds Tryz.pinned (.plain (OpenSpec.upto compactedSpec)) compactedUptoCard
end Rows
end Go.Proofs.YtgdcjccbdmcebabGreatDoor
