/-
  DERIVED. GIVEN WITH THE SEED: THE CARDS: each row of YthpcbbnabnlanaaGreatDoorRows.lean that lists a variable, with what it lists TIED to the program's text (the seventh form; the later family's looks); each row that meets fmt, with fmt's text TOLD by the authors' own Lean function (tested against real Go, not proved from fmt's source: count such statements apart). THE CARD IS WHAT COUNTS. Prove the row's statement (the work); the ties are given (YthpcbbnabnlanaaGreatDoorTie.lean); close each card by the builder's one call (the guide's Derived/Test/ToyasCard.lean, 'card_holds'). Laid BY PROGRAM, IN A SANDBOX (cutbox-door.mjs). By AI agents, Wed Nov 11 2026. No macro, syntax, notation, axiom, sorry.
-/
import Derived.Test.YthpcbbnabnlanaaGreatDoorRows
import GoSem.ClaimSeven
namespace Go.Proofs.YthpcbbnabnlanaaGreatDoor
namespace Rows

/-- THE TIED CARD OF 'assaylaw.Reads'. -/
def readsCard : Claim7 := { stood := { row := readsRow, standIns := [], harness := (true, "d341259a07fdc7a0f0a65b01e6587bc23c12c4199ba1ba92f27c30d7e15bcbd8"), looks := true }, kinds := [], alts := [], laidByText := true, laidKinds := [.data, .data, .data, .sentinel, .sentinel], laidTests := true, laidLooks := .later }
def ReadsCardSaid : Prop := Claim7.holds Tryz.pinned (.plain (OpenSpec.ofChange readsSpec)) readsCard

/-- THE TIED CARD OF 'assaylaw.Texts'. -/
def textsCard : Claim7 := { stood := { row := textsRow, standIns := [], harness := (true, "d341259a07fdc7a0f0a65b01e6587bc23c12c4199ba1ba92f27c30d7e15bcbd8"), looks := true }, kinds := [], alts := [], laidByText := true, laidKinds := [.data, .data, .data, .sentinel, .sentinel], laidTests := true, laidLooks := .later }
def TextsCardSaid : Prop := Claim7.holds Tryz.pinned (.plain (OpenSpec.ofChange textsSpec)) textsCard

/-- THE TIED CARD OF 'assaylaw.All'. -/
def allCard : Claim7 := { stood := { row := allRow, standIns := [], harness := (true, "d341259a07fdc7a0f0a65b01e6587bc23c12c4199ba1ba92f27c30d7e15bcbd8"), looks := true }, kinds := [], alts := [], laidByText := true, laidKinds := [.data, .data, .data, .sentinel, .sentinel], laidTests := true, laidLooks := .later }
def AllCardSaid : Prop := Claim7.holds Tryz.pinned (.plain (OpenSpec.ofChange allSpec)) allCard

/-- THE TIED CARD OF 'assaykeep.Queens'. -/
def queensCard : Claim7 := { stood := { row := queensRow, standIns := [], harness := (true, "d341259a07fdc7a0f0a65b01e6587bc23c12c4199ba1ba92f27c30d7e15bcbd8"), looks := true }, kinds := [], alts := [], laidByText := true, laidKinds := [.data, .data, .data, .sentinel, .sentinel], laidTests := true, laidLooks := .later }
def QueensCardSaid : Prop := Claim7.holds Tryz.pinned (.plain (OpenSpec.ofChange queensSpec)) queensCard

/-- THE TIED CARD OF 'assaykeep.Rows'. -/
def rowsCard : Claim7 := { stood := { row := rowsRow, standIns := [], harness := (true, "d341259a07fdc7a0f0a65b01e6587bc23c12c4199ba1ba92f27c30d7e15bcbd8"), looks := true }, kinds := [], alts := [], laidByText := true, laidKinds := [.data, .data, .data, .sentinel, .sentinel], laidTests := true, laidLooks := .later }
def RowsCardSaid : Prop := Claim7.holds Tryz.pinned (.plain (OpenSpec.ofChange rowsSpec)) rowsCard

/-- THE TIED CARD OF 'assaykeep.Sums'. -/
def sumsCard : Claim7 := { stood := { row := sumsRow, standIns := [], harness := (true, "d341259a07fdc7a0f0a65b01e6587bc23c12c4199ba1ba92f27c30d7e15bcbd8"), looks := true }, kinds := [], alts := [], laidByText := true, laidKinds := [.data, .data, .data, .sentinel, .sentinel], laidTests := true, laidLooks := .later }
def SumsCardSaid : Prop := Claim7.holds Tryz.pinned (.plain (OpenSpec.ofChange sumsSpec)) sumsCard

/-- THE TIED CARD OF 'assaykeep.Switched'. -/
def switchedCard : Claim7 := { stood := { row := switchedRow, standIns := [], harness := (true, "d341259a07fdc7a0f0a65b01e6587bc23c12c4199ba1ba92f27c30d7e15bcbd8"), looks := true }, kinds := [], alts := [], laidByText := true, laidKinds := [.data, .data, .data, .sentinel, .sentinel], laidTests := true, laidLooks := .later }
def SwitchedCardSaid : Prop := Claim7.holds Tryz.pinned (.plain (OpenSpec.ofChange switchedSpec)) switchedCard

/-- THE TIED CARD OF 'assaykeep.Looked'. -/
def lookedCard : Claim7 := { stood := { row := lookedRow, standIns := [], harness := (true, "d341259a07fdc7a0f0a65b01e6587bc23c12c4199ba1ba92f27c30d7e15bcbd8"), looks := true }, kinds := [], alts := [], laidByText := true, laidKinds := [.data, .data, .data, .sentinel, .sentinel], laidTests := true, laidLooks := .later }
def LookedCardSaid : Prop := Claim7.holds Tryz.pinned (.plain (OpenSpec.ofChange lookedSpec)) lookedCard

/-- THE TIED CARD OF 'assaykeep.Alike'. -/
def alikeCard : Claim7 := { stood := { row := alikeRow, standIns := [], harness := (true, "d341259a07fdc7a0f0a65b01e6587bc23c12c4199ba1ba92f27c30d7e15bcbd8"), looks := true }, kinds := [], alts := [], laidByText := true, laidKinds := [.data, .data, .data, .sentinel, .sentinel], laidTests := true, laidLooks := .later }
def AlikeCardSaid : Prop := Claim7.holds Tryz.pinned (.plain (OpenSpec.ofChange alikeSpec)) alikeCard

/-- THE TIED CARD OF 'assaykeep.Fewer'. -/
def fewerCard : Claim7 := { stood := { row := fewerRow, standIns := [], harness := (true, "d341259a07fdc7a0f0a65b01e6587bc23c12c4199ba1ba92f27c30d7e15bcbd8"), looks := true }, kinds := [], alts := [], laidByText := true, laidKinds := [.data, .data, .data, .sentinel, .sentinel], laidTests := true, laidLooks := .later }
def FewerCardSaid : Prop := Claim7.holds Tryz.pinned (.plain (OpenSpec.ofChange fewerSpec)) fewerCard

/-- THE TIED CARD OF 'assaykeep.Stopped'. -/
def stoppedCard : Claim7 := { stood := { row := stoppedRow, standIns := [], harness := (true, "d341259a07fdc7a0f0a65b01e6587bc23c12c4199ba1ba92f27c30d7e15bcbd8"), looks := true }, kinds := [], alts := [], laidByText := true, laidKinds := [.data, .data, .data, .sentinel, .sentinel], laidTests := true, laidLooks := .later }
def StoppedCardSaid : Prop := Claim7.holds Tryz.pinned (.plain (OpenSpec.ofChange stoppedSpec)) stoppedCard

/-- THE TIED CARD OF 'assaykeep.Plainly'. -/
def plainlyCard : Claim7 := { stood := { row := plainlyRow, standIns := [], harness := (true, "d341259a07fdc7a0f0a65b01e6587bc23c12c4199ba1ba92f27c30d7e15bcbd8"), looks := true }, kinds := [], alts := [], laidByText := true, laidKinds := [.data, .data, .data, .sentinel, .sentinel], laidTests := true, laidLooks := .later }
def PlainlyCardSaid : Prop := Claim7.holds Tryz.pinned (.plain (OpenSpec.ofChange plainlySpec)) plainlyCard

/-- THE SECOND FORM's CARD OF 'assaylaw.Reads'. -/
def readsUptoCard : Claim7 := { stood := { row := readsUptoRow, standIns := [], harness := (true, "d341259a07fdc7a0f0a65b01e6587bc23c12c4199ba1ba92f27c30d7e15bcbd8"), looks := true }, kinds := [], alts := [], laidByText := true, laidKinds := [.data, .data, .data, .sentinel, .sentinel], laidTests := true, laidLooks := .later }
def ReadsUptoCardSaid : Prop := Claim7.holds Tryz.pinned (.plain (OpenSpec.upto readsSpec)) readsUptoCard

/-- THE SECOND FORM's CARD OF 'assaylaw.Texts'. -/
def textsUptoCard : Claim7 := { stood := { row := textsUptoRow, standIns := [], harness := (true, "d341259a07fdc7a0f0a65b01e6587bc23c12c4199ba1ba92f27c30d7e15bcbd8"), looks := true }, kinds := [], alts := [], laidByText := true, laidKinds := [.data, .data, .data, .sentinel, .sentinel], laidTests := true, laidLooks := .later }
def TextsUptoCardSaid : Prop := Claim7.holds Tryz.pinned (.plain (OpenSpec.upto textsSpec)) textsUptoCard

/-- THE SECOND FORM's CARD OF 'assaylaw.All'. -/
def allUptoCard : Claim7 := { stood := { row := allUptoRow, standIns := [], harness := (true, "d341259a07fdc7a0f0a65b01e6587bc23c12c4199ba1ba92f27c30d7e15bcbd8"), looks := true }, kinds := [], alts := [], laidByText := true, laidKinds := [.data, .data, .data, .sentinel, .sentinel], laidTests := true, laidLooks := .later }
def AllUptoCardSaid : Prop := Claim7.holds Tryz.pinned (.plain (OpenSpec.upto allSpec)) allUptoCard

/-- THE SECOND FORM's CARD OF 'assaykeep.Queens'. -/
def queensUptoCard : Claim7 := { stood := { row := queensUptoRow, standIns := [], harness := (true, "d341259a07fdc7a0f0a65b01e6587bc23c12c4199ba1ba92f27c30d7e15bcbd8"), looks := true }, kinds := [], alts := [], laidByText := true, laidKinds := [.data, .data, .data, .sentinel, .sentinel], laidTests := true, laidLooks := .later }
def QueensUptoCardSaid : Prop := Claim7.holds Tryz.pinned (.plain (OpenSpec.upto queensSpec)) queensUptoCard

/-- THE SECOND FORM's CARD OF 'assaykeep.Rows'. -/
def rowsUptoCard : Claim7 := { stood := { row := rowsUptoRow, standIns := [], harness := (true, "d341259a07fdc7a0f0a65b01e6587bc23c12c4199ba1ba92f27c30d7e15bcbd8"), looks := true }, kinds := [], alts := [], laidByText := true, laidKinds := [.data, .data, .data, .sentinel, .sentinel], laidTests := true, laidLooks := .later }
def RowsUptoCardSaid : Prop := Claim7.holds Tryz.pinned (.plain (OpenSpec.upto rowsSpec)) rowsUptoCard

/-- THE SECOND FORM's CARD OF 'assaykeep.Sums'. -/
def sumsUptoCard : Claim7 := { stood := { row := sumsUptoRow, standIns := [], harness := (true, "d341259a07fdc7a0f0a65b01e6587bc23c12c4199ba1ba92f27c30d7e15bcbd8"), looks := true }, kinds := [], alts := [], laidByText := true, laidKinds := [.data, .data, .data, .sentinel, .sentinel], laidTests := true, laidLooks := .later }
def SumsUptoCardSaid : Prop := Claim7.holds Tryz.pinned (.plain (OpenSpec.upto sumsSpec)) sumsUptoCard

/-- THE SECOND FORM's CARD OF 'assaykeep.Switched'. -/
def switchedUptoCard : Claim7 := { stood := { row := switchedUptoRow, standIns := [], harness := (true, "d341259a07fdc7a0f0a65b01e6587bc23c12c4199ba1ba92f27c30d7e15bcbd8"), looks := true }, kinds := [], alts := [], laidByText := true, laidKinds := [.data, .data, .data, .sentinel, .sentinel], laidTests := true, laidLooks := .later }
def SwitchedUptoCardSaid : Prop := Claim7.holds Tryz.pinned (.plain (OpenSpec.upto switchedSpec)) switchedUptoCard

/-- THE SECOND FORM's CARD OF 'assaykeep.Looked'. -/
def lookedUptoCard : Claim7 := { stood := { row := lookedUptoRow, standIns := [], harness := (true, "d341259a07fdc7a0f0a65b01e6587bc23c12c4199ba1ba92f27c30d7e15bcbd8"), looks := true }, kinds := [], alts := [], laidByText := true, laidKinds := [.data, .data, .data, .sentinel, .sentinel], laidTests := true, laidLooks := .later }
def LookedUptoCardSaid : Prop := Claim7.holds Tryz.pinned (.plain (OpenSpec.upto lookedSpec)) lookedUptoCard

/-- THE SECOND FORM's CARD OF 'assaykeep.Alike'. -/
def alikeUptoCard : Claim7 := { stood := { row := alikeUptoRow, standIns := [], harness := (true, "d341259a07fdc7a0f0a65b01e6587bc23c12c4199ba1ba92f27c30d7e15bcbd8"), looks := true }, kinds := [], alts := [], laidByText := true, laidKinds := [.data, .data, .data, .sentinel, .sentinel], laidTests := true, laidLooks := .later }
def AlikeUptoCardSaid : Prop := Claim7.holds Tryz.pinned (.plain (OpenSpec.upto alikeSpec)) alikeUptoCard

/-- THE SECOND FORM's CARD OF 'assaykeep.Fewer'. -/
def fewerUptoCard : Claim7 := { stood := { row := fewerUptoRow, standIns := [], harness := (true, "d341259a07fdc7a0f0a65b01e6587bc23c12c4199ba1ba92f27c30d7e15bcbd8"), looks := true }, kinds := [], alts := [], laidByText := true, laidKinds := [.data, .data, .data, .sentinel, .sentinel], laidTests := true, laidLooks := .later }
def FewerUptoCardSaid : Prop := Claim7.holds Tryz.pinned (.plain (OpenSpec.upto fewerSpec)) fewerUptoCard

/-- THE SECOND FORM's CARD OF 'assaykeep.Stopped'. -/
def stoppedUptoCard : Claim7 := { stood := { row := stoppedUptoRow, standIns := [], harness := (true, "d341259a07fdc7a0f0a65b01e6587bc23c12c4199ba1ba92f27c30d7e15bcbd8"), looks := true }, kinds := [], alts := [], laidByText := true, laidKinds := [.data, .data, .data, .sentinel, .sentinel], laidTests := true, laidLooks := .later }
def StoppedUptoCardSaid : Prop := Claim7.holds Tryz.pinned (.plain (OpenSpec.upto stoppedSpec)) stoppedUptoCard

/-- THE SECOND FORM's CARD OF 'assaykeep.Plainly'. -/
def plainlyUptoCard : Claim7 := { stood := { row := plainlyUptoRow, standIns := [], harness := (true, "d341259a07fdc7a0f0a65b01e6587bc23c12c4199ba1ba92f27c30d7e15bcbd8"), looks := true }, kinds := [], alts := [], laidByText := true, laidKinds := [.data, .data, .data, .sentinel, .sentinel], laidTests := true, laidLooks := .later }
def PlainlyUptoCardSaid : Prop := Claim7.holds Tryz.pinned (.plain (OpenSpec.upto plainlySpec)) plainlyUptoCard
end Rows
end Go.Proofs.YthpcbbnabnlanaaGreatDoor
