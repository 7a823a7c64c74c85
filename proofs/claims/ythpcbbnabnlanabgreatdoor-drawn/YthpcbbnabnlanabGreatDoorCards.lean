/-
  DERIVED. GIVEN WITH THE SEED: THE CARDS: each row of YthpcbbnabnlanabGreatDoorRows.lean that lists a variable, with what it lists TIED to the program's text (the seventh form; the later family's looks); each row that meets fmt, with fmt's text TOLD by the authors' own Lean function (tested against real Go, not proved from fmt's source: count such statements apart). THE CARD IS WHAT COUNTS. Prove the row's statement (the work); the ties are given (YthpcbbnabnlanabGreatDoorTie.lean); close each card by the builder's one call (the guide's Derived/Test/ToyasCard.lean, 'card_holds'). Laid BY PROGRAM, IN A SANDBOX (cutbox-door.mjs). By AI agents, Wed Nov 11 2026. No macro, syntax, notation, axiom, sorry.
-/
import Derived.Test.YthpcbbnabnlanabGreatDoorRows
import GoSem.ClaimSeven
namespace Go.Proofs.YthpcbbnabnlanabGreatDoor
namespace Rows

/-- THE TIED CARD OF 'assaykeep.Drawn'. -/
def drawnCard : Claim7 := { stood := { row := drawnRow, standIns := [], harness := (true, "21a447f7eeef812e66710f84385926bc876b6a91c70a624be7a49b1b67be2efb"), looks := true }, kinds := [], alts := [], laidByText := true, laidKinds := [.data, .data, .data, .sentinel, .sentinel], laidTests := true, laidLooks := .later }
def DrawnCardSaid : Prop := Claim7.holds Tryz.pinned (.plain (OpenSpec.ofChange drawnSpec)) drawnCard

/-- THE TIED CARD OF 'assaykeep.Forced'. -/
def forcedCard : Claim7 := { stood := { row := forcedRow, standIns := [], harness := (true, "21a447f7eeef812e66710f84385926bc876b6a91c70a624be7a49b1b67be2efb"), looks := true }, kinds := [], alts := [], laidByText := true, laidKinds := [.data, .data, .data, .sentinel, .sentinel], laidTests := true, laidLooks := .later }
def ForcedCardSaid : Prop := Claim7.holds Tryz.pinned (.plain (OpenSpec.ofChange forcedSpec)) forcedCard

/-- THE SECOND FORM's CARD OF 'assaykeep.Drawn'. -/
def drawnUptoCard : Claim7 := { stood := { row := drawnUptoRow, standIns := [], harness := (true, "21a447f7eeef812e66710f84385926bc876b6a91c70a624be7a49b1b67be2efb"), looks := true }, kinds := [], alts := [], laidByText := true, laidKinds := [.data, .data, .data, .sentinel, .sentinel], laidTests := true, laidLooks := .later }
def DrawnUptoCardSaid : Prop := Claim7.holds Tryz.pinned (.plain (OpenSpec.upto drawnSpec)) drawnUptoCard

/-- THE SECOND FORM's CARD OF 'assaykeep.Forced'. -/
def forcedUptoCard : Claim7 := { stood := { row := forcedUptoRow, standIns := [], harness := (true, "21a447f7eeef812e66710f84385926bc876b6a91c70a624be7a49b1b67be2efb"), looks := true }, kinds := [], alts := [], laidByText := true, laidKinds := [.data, .data, .data, .sentinel, .sentinel], laidTests := true, laidLooks := .later }
def ForcedUptoCardSaid : Prop := Claim7.holds Tryz.pinned (.plain (OpenSpec.upto forcedSpec)) forcedUptoCard
end Rows
end Go.Proofs.YthpcbbnabnlanabGreatDoor
