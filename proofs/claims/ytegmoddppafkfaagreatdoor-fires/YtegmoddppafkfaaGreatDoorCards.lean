/-
  DERIVED. GIVEN WITH THE SEED: THE CARDS: each row of YtegmoddppafkfaaGreatDoorRows.lean that lists a variable, with what it lists TIED to the program's text (the seventh form; the later family's looks); each row that meets fmt, with fmt's text TOLD by the authors' own Lean function (tested against real Go, not proved from fmt's source: count such statements apart). THE CARD IS WHAT COUNTS. Prove the row's statement (the work); the ties are given (YtegmoddppafkfaaGreatDoorTie.lean); close each card by the builder's one call (the guide's Derived/Test/ToyasCard.lean, 'card_holds'). Laid BY PROGRAM, IN A SANDBOX (cutbox-door.mjs). By AI agents, Wed Nov 11 2026. No macro, syntax, notation, axiom, sorry.
-/
import Derived.Test.YtegmoddppafkfaaGreatDoorRows
import GoSem.ClaimSeven
namespace Go.Proofs.YtegmoddppafkfaaGreatDoor
namespace Rows

/-- THE TIED CARD OF 'chartslaw.Lowers'. -/
def lowersCard : Claim7 := { stood := { row := lowersRow, standIns := [], harness := (true, "4c4428c9ab12143d40d02e05e8bf9aff8c65aade13cd3b5be4008dc13173dd63"), looks := true }, kinds := [], alts := [], laidByText := true, laidKinds := [.data, .data, .data, .data, .handle, .sentinel, .sentinel, .pinned], laidTests := true, laidLooks := .later }
def LowersCardSaid : Prop := Claim7.holds Tryz.pinned (.plain (OpenSpec.ofChange lowersSpec)) lowersCard

/-- THE TIED CARD OF 'chartslaw.Starts'. -/
def startsCard : Claim7 := { stood := { row := startsRow, standIns := [], harness := (true, "4c4428c9ab12143d40d02e05e8bf9aff8c65aade13cd3b5be4008dc13173dd63"), looks := true }, kinds := [], alts := [], laidByText := true, laidKinds := [.data, .data, .data, .data, .handle, .sentinel, .sentinel, .pinned], laidTests := true, laidLooks := .later }
def StartsCardSaid : Prop := Claim7.holds Tryz.pinned (.plain (OpenSpec.ofChange startsSpec)) startsCard

/-- THE TIED CARD OF 'chartslaw.Answers'. -/
def answersCard : Claim7 := { stood := { row := answersRow, standIns := [], harness := (true, "4c4428c9ab12143d40d02e05e8bf9aff8c65aade13cd3b5be4008dc13173dd63"), looks := true }, kinds := [], alts := [], laidByText := true, laidKinds := [.data, .data, .data, .data, .handle, .sentinel, .sentinel, .pinned], laidTests := true, laidLooks := .later }
def AnswersCardSaid : Prop := Claim7.holds Tryz.pinned (.plain (OpenSpec.ofChange answersSpec)) answersCard

/-- THE TIED CARD OF 'chartslaw.Ticks'. -/
def ticksCard : Claim7 := { stood := { row := ticksRow, standIns := [], harness := (true, "4c4428c9ab12143d40d02e05e8bf9aff8c65aade13cd3b5be4008dc13173dd63"), looks := true }, kinds := [], alts := [], laidByText := true, laidKinds := [.data, .data, .data, .data, .handle, .sentinel, .sentinel, .pinned], laidTests := true, laidLooks := .later }
def TicksCardSaid : Prop := Claim7.holds Tryz.pinned (.plain (OpenSpec.ofChange ticksSpec)) ticksCard

/-- THE TIED CARD OF 'chartslaw.Waits'. -/
def waitsCard : Claim7 := { stood := { row := waitsRow, standIns := [], harness := (true, "4c4428c9ab12143d40d02e05e8bf9aff8c65aade13cd3b5be4008dc13173dd63"), looks := true }, kinds := [], alts := [], laidByText := true, laidKinds := [.data, .data, .data, .data, .handle, .sentinel, .sentinel, .pinned], laidTests := true, laidLooks := .later }
def WaitsCardSaid : Prop := Claim7.holds Tryz.pinned (.plain (OpenSpec.ofChange waitsSpec)) waitsCard

/-- THE TIED CARD OF 'chartskeep.Legal'. -/
def legalCard : Claim7 := { stood := { row := legalRow, standIns := [], harness := (true, "4c4428c9ab12143d40d02e05e8bf9aff8c65aade13cd3b5be4008dc13173dd63"), looks := true }, kinds := [], alts := [], laidByText := true, laidKinds := [.data, .data, .data, .data, .handle, .sentinel, .sentinel, .pinned], laidTests := true, laidLooks := .later }
def LegalCardSaid : Prop := Claim7.holds Tryz.pinned (.plain (OpenSpec.ofChange legalSpec)) legalCard

/-- THE TIED CARD OF 'chartskeep.Same'. -/
def sameCard : Claim7 := { stood := { row := sameRow, standIns := [], harness := (true, "4c4428c9ab12143d40d02e05e8bf9aff8c65aade13cd3b5be4008dc13173dd63"), looks := true }, kinds := [], alts := [], laidByText := true, laidKinds := [.data, .data, .data, .data, .handle, .sentinel, .sentinel, .pinned], laidTests := true, laidLooks := .later }
def SameCardSaid : Prop := Claim7.holds Tryz.pinned (.plain (OpenSpec.ofChange sameSpec)) sameCard

/-- THE TIED CARD OF 'chartskeep.Jumps'. -/
def jumpsCard : Claim7 := { stood := { row := jumpsRow, standIns := [], harness := (true, "4c4428c9ab12143d40d02e05e8bf9aff8c65aade13cd3b5be4008dc13173dd63"), looks := true }, kinds := [], alts := [], laidByText := true, laidKinds := [.data, .data, .data, .data, .handle, .sentinel, .sentinel, .pinned], laidTests := true, laidLooks := .later }
def JumpsCardSaid : Prop := Claim7.holds Tryz.pinned (.plain (OpenSpec.ofChange jumpsSpec)) jumpsCard

/-- THE TIED CARD OF 'chartskeep.Fires'. -/
def firesCard : Claim7 := { stood := { row := firesRow, standIns := [], harness := (true, "4c4428c9ab12143d40d02e05e8bf9aff8c65aade13cd3b5be4008dc13173dd63"), looks := true }, kinds := [], alts := [], laidByText := true, laidKinds := [.data, .data, .data, .data, .handle, .sentinel, .sentinel, .pinned], laidTests := true, laidLooks := .later }
def FiresCardSaid : Prop := Claim7.holds Tryz.pinned (.plain (OpenSpec.ofChange firesSpec)) firesCard

/-- THE TIED CARD OF 'chartskeep.Sends'. -/
def sendsCard : Claim7 := { stood := { row := sendsRow, standIns := [], harness := (true, "4c4428c9ab12143d40d02e05e8bf9aff8c65aade13cd3b5be4008dc13173dd63"), looks := true }, kinds := [], alts := [], laidByText := true, laidKinds := [.data, .data, .data, .data, .handle, .sentinel, .sentinel, .pinned], laidTests := true, laidLooks := .later }
def SendsCardSaid : Prop := Claim7.holds Tryz.pinned (.plain (OpenSpec.ofChange sendsSpec)) sendsCard

/-- THE TIED CARD OF 'chartskeep.Twice'. -/
def twiceCard : Claim7 := { stood := { row := twiceRow, standIns := [], harness := (true, "4c4428c9ab12143d40d02e05e8bf9aff8c65aade13cd3b5be4008dc13173dd63"), looks := true }, kinds := [], alts := [], laidByText := true, laidKinds := [.data, .data, .data, .data, .handle, .sentinel, .sentinel, .pinned], laidTests := true, laidLooks := .later }
def TwiceCardSaid : Prop := Claim7.holds Tryz.pinned (.plain (OpenSpec.ofChange twiceSpec)) twiceCard

/-- THE TIED CARD OF 'chartskeep.Fuel'. -/
def fuelCard : Claim7 := { stood := { row := fuelRow, standIns := [], harness := (true, "4c4428c9ab12143d40d02e05e8bf9aff8c65aade13cd3b5be4008dc13173dd63"), looks := true }, kinds := [], alts := [], laidByText := true, laidKinds := [.data, .data, .data, .data, .handle, .sentinel, .sentinel, .pinned], laidTests := true, laidLooks := .later }
def FuelCardSaid : Prop := Claim7.holds Tryz.pinned (.plain (OpenSpec.ofChange fuelSpec)) fuelCard

/-- THE SECOND FORM's CARD OF 'chartslaw.Lowers'. -/
def lowersUptoCard : Claim7 := { stood := { row := lowersUptoRow, standIns := [], harness := (true, "4c4428c9ab12143d40d02e05e8bf9aff8c65aade13cd3b5be4008dc13173dd63"), looks := true }, kinds := [], alts := [], laidByText := true, laidKinds := [.data, .data, .data, .data, .handle, .sentinel, .sentinel, .pinned], laidTests := true, laidLooks := .later }
def LowersUptoCardSaid : Prop := Claim7.holds Tryz.pinned (.plain (OpenSpec.upto lowersSpec)) lowersUptoCard

/-- THE SECOND FORM's CARD OF 'chartslaw.Starts'. -/
def startsUptoCard : Claim7 := { stood := { row := startsUptoRow, standIns := [], harness := (true, "4c4428c9ab12143d40d02e05e8bf9aff8c65aade13cd3b5be4008dc13173dd63"), looks := true }, kinds := [], alts := [], laidByText := true, laidKinds := [.data, .data, .data, .data, .handle, .sentinel, .sentinel, .pinned], laidTests := true, laidLooks := .later }
def StartsUptoCardSaid : Prop := Claim7.holds Tryz.pinned (.plain (OpenSpec.upto startsSpec)) startsUptoCard

/-- THE SECOND FORM's CARD OF 'chartslaw.Answers'. -/
def answersUptoCard : Claim7 := { stood := { row := answersUptoRow, standIns := [], harness := (true, "4c4428c9ab12143d40d02e05e8bf9aff8c65aade13cd3b5be4008dc13173dd63"), looks := true }, kinds := [], alts := [], laidByText := true, laidKinds := [.data, .data, .data, .data, .handle, .sentinel, .sentinel, .pinned], laidTests := true, laidLooks := .later }
def AnswersUptoCardSaid : Prop := Claim7.holds Tryz.pinned (.plain (OpenSpec.upto answersSpec)) answersUptoCard

/-- THE SECOND FORM's CARD OF 'chartslaw.Ticks'. -/
def ticksUptoCard : Claim7 := { stood := { row := ticksUptoRow, standIns := [], harness := (true, "4c4428c9ab12143d40d02e05e8bf9aff8c65aade13cd3b5be4008dc13173dd63"), looks := true }, kinds := [], alts := [], laidByText := true, laidKinds := [.data, .data, .data, .data, .handle, .sentinel, .sentinel, .pinned], laidTests := true, laidLooks := .later }
def TicksUptoCardSaid : Prop := Claim7.holds Tryz.pinned (.plain (OpenSpec.upto ticksSpec)) ticksUptoCard

/-- THE SECOND FORM's CARD OF 'chartslaw.Waits'. -/
def waitsUptoCard : Claim7 := { stood := { row := waitsUptoRow, standIns := [], harness := (true, "4c4428c9ab12143d40d02e05e8bf9aff8c65aade13cd3b5be4008dc13173dd63"), looks := true }, kinds := [], alts := [], laidByText := true, laidKinds := [.data, .data, .data, .data, .handle, .sentinel, .sentinel, .pinned], laidTests := true, laidLooks := .later }
def WaitsUptoCardSaid : Prop := Claim7.holds Tryz.pinned (.plain (OpenSpec.upto waitsSpec)) waitsUptoCard

/-- THE SECOND FORM's CARD OF 'chartskeep.Legal'. -/
def legalUptoCard : Claim7 := { stood := { row := legalUptoRow, standIns := [], harness := (true, "4c4428c9ab12143d40d02e05e8bf9aff8c65aade13cd3b5be4008dc13173dd63"), looks := true }, kinds := [], alts := [], laidByText := true, laidKinds := [.data, .data, .data, .data, .handle, .sentinel, .sentinel, .pinned], laidTests := true, laidLooks := .later }
def LegalUptoCardSaid : Prop := Claim7.holds Tryz.pinned (.plain (OpenSpec.upto legalSpec)) legalUptoCard

/-- THE SECOND FORM's CARD OF 'chartskeep.Same'. -/
def sameUptoCard : Claim7 := { stood := { row := sameUptoRow, standIns := [], harness := (true, "4c4428c9ab12143d40d02e05e8bf9aff8c65aade13cd3b5be4008dc13173dd63"), looks := true }, kinds := [], alts := [], laidByText := true, laidKinds := [.data, .data, .data, .data, .handle, .sentinel, .sentinel, .pinned], laidTests := true, laidLooks := .later }
def SameUptoCardSaid : Prop := Claim7.holds Tryz.pinned (.plain (OpenSpec.upto sameSpec)) sameUptoCard

/-- THE SECOND FORM's CARD OF 'chartskeep.Jumps'. -/
def jumpsUptoCard : Claim7 := { stood := { row := jumpsUptoRow, standIns := [], harness := (true, "4c4428c9ab12143d40d02e05e8bf9aff8c65aade13cd3b5be4008dc13173dd63"), looks := true }, kinds := [], alts := [], laidByText := true, laidKinds := [.data, .data, .data, .data, .handle, .sentinel, .sentinel, .pinned], laidTests := true, laidLooks := .later }
def JumpsUptoCardSaid : Prop := Claim7.holds Tryz.pinned (.plain (OpenSpec.upto jumpsSpec)) jumpsUptoCard

/-- THE SECOND FORM's CARD OF 'chartskeep.Fires'. -/
def firesUptoCard : Claim7 := { stood := { row := firesUptoRow, standIns := [], harness := (true, "4c4428c9ab12143d40d02e05e8bf9aff8c65aade13cd3b5be4008dc13173dd63"), looks := true }, kinds := [], alts := [], laidByText := true, laidKinds := [.data, .data, .data, .data, .handle, .sentinel, .sentinel, .pinned], laidTests := true, laidLooks := .later }
def FiresUptoCardSaid : Prop := Claim7.holds Tryz.pinned (.plain (OpenSpec.upto firesSpec)) firesUptoCard

/-- THE SECOND FORM's CARD OF 'chartskeep.Sends'. -/
def sendsUptoCard : Claim7 := { stood := { row := sendsUptoRow, standIns := [], harness := (true, "4c4428c9ab12143d40d02e05e8bf9aff8c65aade13cd3b5be4008dc13173dd63"), looks := true }, kinds := [], alts := [], laidByText := true, laidKinds := [.data, .data, .data, .data, .handle, .sentinel, .sentinel, .pinned], laidTests := true, laidLooks := .later }
def SendsUptoCardSaid : Prop := Claim7.holds Tryz.pinned (.plain (OpenSpec.upto sendsSpec)) sendsUptoCard

/-- THE SECOND FORM's CARD OF 'chartskeep.Twice'. -/
def twiceUptoCard : Claim7 := { stood := { row := twiceUptoRow, standIns := [], harness := (true, "4c4428c9ab12143d40d02e05e8bf9aff8c65aade13cd3b5be4008dc13173dd63"), looks := true }, kinds := [], alts := [], laidByText := true, laidKinds := [.data, .data, .data, .data, .handle, .sentinel, .sentinel, .pinned], laidTests := true, laidLooks := .later }
def TwiceUptoCardSaid : Prop := Claim7.holds Tryz.pinned (.plain (OpenSpec.upto twiceSpec)) twiceUptoCard

/-- THE SECOND FORM's CARD OF 'chartskeep.Fuel'. -/
def fuelUptoCard : Claim7 := { stood := { row := fuelUptoRow, standIns := [], harness := (true, "4c4428c9ab12143d40d02e05e8bf9aff8c65aade13cd3b5be4008dc13173dd63"), looks := true }, kinds := [], alts := [], laidByText := true, laidKinds := [.data, .data, .data, .data, .handle, .sentinel, .sentinel, .pinned], laidTests := true, laidLooks := .later }
def FuelUptoCardSaid : Prop := Claim7.holds Tryz.pinned (.plain (OpenSpec.upto fuelSpec)) fuelUptoCard
end Rows
end Go.Proofs.YtegmoddppafkfaaGreatDoor
