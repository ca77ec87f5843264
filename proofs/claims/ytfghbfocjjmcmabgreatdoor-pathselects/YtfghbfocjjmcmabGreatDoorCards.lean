/-
  DERIVED. GIVEN WITH THE SEED: THE CARDS: each row of YtfghbfocjjmcmabGreatDoorRows.lean that lists a variable, with what it lists TIED to the program's text (the seventh form; the later family's looks); each row that meets fmt, with fmt's text TOLD by the authors' own Lean function (tested against real Go, not proved from fmt's source: count such statements apart). THE CARD IS WHAT COUNTS. Prove the row's statement (the work); the ties are given (YtfghbfocjjmcmabGreatDoorTie.lean); close each card by the builder's one call (the guide's Derived/Test/ToyasCard.lean, 'card_holds'). Laid BY PROGRAM, IN A SANDBOX (cutbox-door.mjs). By AI agents, Wed Nov 11 2026. No macro, syntax, notation, axiom, sorry.
-/
import Derived.Test.YtfghbfocjjmcmabGreatDoorRows
import GoSem.ClaimSeven
namespace Go.Proofs.YtfghbfocjjmcmabGreatDoor
namespace Rows

/-- THE TIED CARD OF 'topiarylaw.PathSelects'. -/
def pathSelectsCard : Claim7 := { stood := { row := pathSelectsRow, standIns := [], harness := (true, "34f3ebf54956972d23d5b36c21e24d3844c2b73aa2d82d42c8d1345f6d0a2f16"), looks := true }, kinds := [], alts := [], laidByText := true, laidKinds := [.data, .data, .data, .data, .sentinel, .sentinel, .pinned], laidTests := true, laidLooks := .later }
def PathSelectsCardSaid : Prop := Claim7.holds Tryz.pinned (.plain (OpenSpec.ofChange pathSelectsSpec)) pathSelectsCard

/-- THE TIED CARD OF 'topiarylaw.ChangeChecks'. -/
def changeChecksCard : Claim7 := { stood := { row := changeChecksRow, standIns := [], harness := (true, "34f3ebf54956972d23d5b36c21e24d3844c2b73aa2d82d42c8d1345f6d0a2f16"), looks := true }, kinds := [], alts := [], laidByText := true, laidKinds := [.data, .pinned], laidTests := true, laidLooks := .later }
def ChangeChecksCardSaid : Prop := Claim7.holds Tryz.pinned (.plain (OpenSpec.ofChange changeChecksSpec)) changeChecksCard

/-- THE TIED CARD OF 'topiarylaw.ChangeApplies'. -/
def changeAppliesCard : Claim7 := { stood := { row := changeAppliesRow, standIns := [], harness := (true, "34f3ebf54956972d23d5b36c21e24d3844c2b73aa2d82d42c8d1345f6d0a2f16"), looks := true }, kinds := [], alts := [], laidByText := true, laidKinds := [.data, .pinned], laidTests := true, laidLooks := .later }
def ChangeAppliesCardSaid : Prop := Claim7.holds Tryz.pinned (.plain (OpenSpec.ofChange changeAppliesSpec)) changeAppliesCard

/-- THE SECOND FORM's CARD OF 'topiarylaw.PathSelects'. -/
def pathSelectsUptoCard : Claim7 := { stood := { row := pathSelectsUptoRow, standIns := [], harness := (true, "34f3ebf54956972d23d5b36c21e24d3844c2b73aa2d82d42c8d1345f6d0a2f16"), looks := true }, kinds := [], alts := [], laidByText := true, laidKinds := [.data, .data, .data, .data, .sentinel, .sentinel, .pinned], laidTests := true, laidLooks := .later }
def PathSelectsUptoCardSaid : Prop := Claim7.holds Tryz.pinned (.plain (OpenSpec.upto pathSelectsSpec)) pathSelectsUptoCard

/-- THE SECOND FORM's CARD OF 'topiarylaw.ChangeChecks'. -/
def changeChecksUptoCard : Claim7 := { stood := { row := changeChecksUptoRow, standIns := [], harness := (true, "34f3ebf54956972d23d5b36c21e24d3844c2b73aa2d82d42c8d1345f6d0a2f16"), looks := true }, kinds := [], alts := [], laidByText := true, laidKinds := [.data, .pinned], laidTests := true, laidLooks := .later }
def ChangeChecksUptoCardSaid : Prop := Claim7.holds Tryz.pinned (.plain (OpenSpec.upto changeChecksSpec)) changeChecksUptoCard

/-- THE SECOND FORM's CARD OF 'topiarylaw.ChangeApplies'. -/
def changeAppliesUptoCard : Claim7 := { stood := { row := changeAppliesUptoRow, standIns := [], harness := (true, "34f3ebf54956972d23d5b36c21e24d3844c2b73aa2d82d42c8d1345f6d0a2f16"), looks := true }, kinds := [], alts := [], laidByText := true, laidKinds := [.data, .pinned], laidTests := true, laidLooks := .later }
def ChangeAppliesUptoCardSaid : Prop := Claim7.holds Tryz.pinned (.plain (OpenSpec.upto changeAppliesSpec)) changeAppliesUptoCard
end Rows
end Go.Proofs.YtfghbfocjjmcmabGreatDoor
