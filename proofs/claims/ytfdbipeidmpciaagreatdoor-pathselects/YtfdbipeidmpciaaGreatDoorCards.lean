/-
  DERIVED. GIVEN WITH THE SEED: THE CARDS: each row of YtfdbipeidmpciaaGreatDoorRows.lean that lists a variable, with what it lists TIED to the program's text (the seventh form; the later family's looks); each row that meets fmt, with fmt's text TOLD by the authors' own Lean function (tested against real Go, not proved from fmt's source: count such statements apart). THE CARD IS WHAT COUNTS. Prove the row's statement (the work); the ties are given (YtfdbipeidmpciaaGreatDoorTie.lean); close each card by the builder's one call (the guide's Derived/Test/ToyasCard.lean, 'card_holds'). Laid BY PROGRAM, IN A SANDBOX (cutbox-door.mjs). By AI agents, Wed Nov 11 2026. No macro, syntax, notation, axiom, sorry.
-/
import Derived.Test.YtfdbipeidmpciaaGreatDoorRows
import GoSem.ClaimSeven
namespace Go.Proofs.YtfdbipeidmpciaaGreatDoor
namespace Rows

/-- THE TIED CARD OF 'topiarylaw.PathSelects'. -/
def pathSelectsCard : Claim7 := { stood := { row := pathSelectsRow, standIns := [], harness := (true, "909b9f00d5ce03bd48f6d5e75e103ce7f021ea01b274af17c21204d3e3856968"), looks := true }, kinds := [], alts := [], laidByText := true, laidKinds := [.data, .data, .data, .data, .sentinel, .sentinel, .pinned], laidTests := true, laidLooks := .later }
def PathSelectsCardSaid : Prop := Claim7.holds Tryz.pinned (.plain (OpenSpec.ofChange pathSelectsSpec)) pathSelectsCard

/-- THE SECOND FORM's CARD OF 'topiarylaw.PathSelects'. -/
def pathSelectsUptoCard : Claim7 := { stood := { row := pathSelectsUptoRow, standIns := [], harness := (true, "909b9f00d5ce03bd48f6d5e75e103ce7f021ea01b274af17c21204d3e3856968"), looks := true }, kinds := [], alts := [], laidByText := true, laidKinds := [.data, .data, .data, .data, .sentinel, .sentinel, .pinned], laidTests := true, laidLooks := .later }
def PathSelectsUptoCardSaid : Prop := Claim7.holds Tryz.pinned (.plain (OpenSpec.upto pathSelectsSpec)) pathSelectsUptoCard
end Rows
end Go.Proofs.YtfdbipeidmpciaaGreatDoor
