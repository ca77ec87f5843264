/-
  DERIVED. GIVEN WITH THE SEED: THE CARDS: each row of YtfplhcicbbhljaaGreatDoorRows.lean that lists a variable, with what it lists TIED to the program's text (the seventh form; the later family's looks); each row that meets fmt, with fmt's text TOLD by the authors' own Lean function (tested against real Go, not proved from fmt's source: count such statements apart). THE CARD IS WHAT COUNTS. Prove the row's statement (the work); the ties are given (YtfplhcicbbhljaaGreatDoorTie.lean); close each card by the builder's one call (the guide's Derived/Test/ToyasCard.lean, 'card_holds'). Laid BY PROGRAM, IN A SANDBOX (cutbox-door.mjs). By AI agents, Wed Nov 11 2026. No macro, syntax, notation, axiom, sorry.
-/
import Derived.Test.YtfplhcicbbhljaaGreatDoorRows
import GoSem.ClaimSeven
namespace Go.Proofs.YtfplhcicbbhljaaGreatDoor
namespace Rows

/-- THE TIED CARD OF 'topiarylaw.StoreLines'. -/
def storeLinesCard : Claim7 := { stood := { row := storeLinesRow, standIns := [], harness := (true, "a81b082bcf193768f969751943a6aa53301fd8499810e800b32f06951ac4e104"), looks := true }, kinds := [], alts := [], laidByText := true, laidKinds := [.data, .data, .data, .data, .sentinel, .sentinel, .data, .data, .pinned], laidTests := true, laidLooks := .later }
def StoreLinesCardSaid : Prop := Claim7.holds Tryz.pinned (.plain (OpenSpec.ofChange storeLinesSpec)) storeLinesCard

/-- THE SECOND FORM's CARD OF 'topiarylaw.StoreLines'. -/
def storeLinesUptoCard : Claim7 := { stood := { row := storeLinesUptoRow, standIns := [], harness := (true, "a81b082bcf193768f969751943a6aa53301fd8499810e800b32f06951ac4e104"), looks := true }, kinds := [], alts := [], laidByText := true, laidKinds := [.data, .data, .data, .data, .sentinel, .sentinel, .data, .data, .pinned], laidTests := true, laidLooks := .later }
def StoreLinesUptoCardSaid : Prop := Claim7.holds Tryz.pinned (.plain (OpenSpec.upto storeLinesSpec)) storeLinesUptoCard
end Rows
end Go.Proofs.YtfplhcicbbhljaaGreatDoor
