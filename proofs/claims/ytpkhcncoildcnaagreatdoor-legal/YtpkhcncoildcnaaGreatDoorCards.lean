/-
  DERIVED. GIVEN WITH THE SEED: THE CARDS: each row of YtpkhcncoildcnaaGreatDoorRows.lean that lists a variable, with what it lists TIED to the program's text (the seventh form; the later family's looks); each row that meets fmt, with fmt's text TOLD by the authors' own Lean function (tested against real Go, not proved from fmt's source: count such statements apart). THE CARD IS WHAT COUNTS. Prove the row's statement (the work); the ties are given (YtpkhcncoildcnaaGreatDoorTie.lean); close each card by the builder's one call (the guide's Derived/Test/ToyasCard.lean, 'card_holds'). Laid BY PROGRAM, IN A SANDBOX (cutbox-door.mjs). By AI agents, Wed Nov 11 2026. No macro, syntax, notation, axiom, sorry.
-/
import Derived.Test.YtpkhcncoildcnaaGreatDoorRows
import GoSem.ClaimSeven
namespace Go.Proofs.YtpkhcncoildcnaaGreatDoor
namespace Rows

/-- THE TIED CARD OF 'chartskeep.Legal'. -/
def legalCard : Claim7 := { stood := { row := legalRow, standIns := [], harness := (true, "4372131dd1b600a18a21184c453cd27ba397429d81b590abc332c89f77d90344"), looks := true }, kinds := [], alts := [], laidByText := true, laidKinds := [.data, .data, .data, .data, .handle, .sentinel, .sentinel, .pinned], laidTests := true, laidLooks := .later }
def LegalCardSaid : Prop := Claim7.holds Tryz.pinned (.plain (OpenSpec.ofChange legalSpec)) legalCard

/-- THE TIED CARD OF 'chartslaw.All'. -/
def allCard : Claim7 := { stood := { row := allRow, standIns := [], harness := (true, "4372131dd1b600a18a21184c453cd27ba397429d81b590abc332c89f77d90344"), looks := true }, kinds := [], alts := [], laidByText := true, laidKinds := [.data, .data, .data, .data, .handle, .sentinel, .sentinel, .pinned], laidTests := true, laidLooks := .later }
def AllCardSaid : Prop := Claim7.holds Tryz.pinned (.plain (OpenSpec.ofChange allSpec)) allCard

/-- THE SECOND FORM's CARD OF 'chartskeep.Legal'. -/
def legalUptoCard : Claim7 := { stood := { row := legalUptoRow, standIns := [], harness := (true, "4372131dd1b600a18a21184c453cd27ba397429d81b590abc332c89f77d90344"), looks := true }, kinds := [], alts := [], laidByText := true, laidKinds := [.data, .data, .data, .data, .handle, .sentinel, .sentinel, .pinned], laidTests := true, laidLooks := .later }
def LegalUptoCardSaid : Prop := Claim7.holds Tryz.pinned (.plain (OpenSpec.upto legalSpec)) legalUptoCard

/-- THE SECOND FORM's CARD OF 'chartslaw.All'. -/
def allUptoCard : Claim7 := { stood := { row := allUptoRow, standIns := [], harness := (true, "4372131dd1b600a18a21184c453cd27ba397429d81b590abc332c89f77d90344"), looks := true }, kinds := [], alts := [], laidByText := true, laidKinds := [.data, .data, .data, .data, .handle, .sentinel, .sentinel, .pinned], laidTests := true, laidLooks := .later }
def AllUptoCardSaid : Prop := Claim7.holds Tryz.pinned (.plain (OpenSpec.upto allSpec)) allUptoCard
end Rows
end Go.Proofs.YtpkhcncoildcnaaGreatDoor
