/-
  DERIVED. GIVEN WITH THE SEED: THE CARDS: each row of YtkgklodamkkpgaaGreatDoorRows.lean that lists a variable, with what it lists TIED to the program's text (the seventh form; the later family's looks); each row that meets fmt, with fmt's text TOLD by the authors' own Lean function (tested against real Go, not proved from fmt's source: count such statements apart). THE CARD IS WHAT COUNTS. Prove the row's statement (the work); the ties are given (YtkgklodamkkpgaaGreatDoorTie.lean); close each card by the builder's one call (the guide's Derived/Test/ToyasCard.lean, 'card_holds'). Laid BY PROGRAM, IN A SANDBOX (cutbox-door.mjs). By AI agents, Wed Nov 11 2026. No macro, syntax, notation, axiom, sorry.
-/
import Derived.Test.YtkgklodamkkpgaaGreatDoorRows
import GoSem.ClaimSeven
namespace Go.Proofs.YtkgklodamkkpgaaGreatDoor
namespace Rows

/-- THE TIED CARD OF 'chartskeep.Jumps'. -/
def jumpsCard : Claim7 := { stood := { row := jumpsRow, standIns := [], harness := (true, "aeb3881dea42e8afe1eb26d1808ed149a80447b23bb7f46f240eba333e2beb7c"), looks := true }, kinds := [], alts := [], laidByText := true, laidKinds := [.data, .data, .data, .data, .handle, .sentinel, .sentinel, .pinned], laidTests := true, laidLooks := .later }
def JumpsCardSaid : Prop := Claim7.holds Tryz.pinned (.plain (OpenSpec.ofChange jumpsSpec)) jumpsCard

/-- THE TIED CARD OF 'chartslaw.All'. -/
def allCard : Claim7 := { stood := { row := allRow, standIns := [], harness := (true, "aeb3881dea42e8afe1eb26d1808ed149a80447b23bb7f46f240eba333e2beb7c"), looks := true }, kinds := [], alts := [], laidByText := true, laidKinds := [.data, .data, .data, .data, .handle, .sentinel, .sentinel, .pinned], laidTests := true, laidLooks := .later }
def AllCardSaid : Prop := Claim7.holds Tryz.pinned (.plain (OpenSpec.ofChange allSpec)) allCard

/-- THE SECOND FORM's CARD OF 'chartskeep.Jumps'. -/
def jumpsUptoCard : Claim7 := { stood := { row := jumpsUptoRow, standIns := [], harness := (true, "aeb3881dea42e8afe1eb26d1808ed149a80447b23bb7f46f240eba333e2beb7c"), looks := true }, kinds := [], alts := [], laidByText := true, laidKinds := [.data, .data, .data, .data, .handle, .sentinel, .sentinel, .pinned], laidTests := true, laidLooks := .later }
def JumpsUptoCardSaid : Prop := Claim7.holds Tryz.pinned (.plain (OpenSpec.upto jumpsSpec)) jumpsUptoCard

/-- THE SECOND FORM's CARD OF 'chartslaw.All'. -/
def allUptoCard : Claim7 := { stood := { row := allUptoRow, standIns := [], harness := (true, "aeb3881dea42e8afe1eb26d1808ed149a80447b23bb7f46f240eba333e2beb7c"), looks := true }, kinds := [], alts := [], laidByText := true, laidKinds := [.data, .data, .data, .data, .handle, .sentinel, .sentinel, .pinned], laidTests := true, laidLooks := .later }
def AllUptoCardSaid : Prop := Claim7.holds Tryz.pinned (.plain (OpenSpec.upto allSpec)) allUptoCard
end Rows
end Go.Proofs.YtkgklodamkkpgaaGreatDoor
