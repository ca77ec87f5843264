/-
  DERIVED. GIVEN WITH THE SEED: THE CARDS: each row of YtfdbipeidmpciabDoorRows.lean that lists a variable, with what it lists TIED to the program's text (the seventh form; the later family's looks); each row that meets fmt, with fmt's text TOLD by the authors' own Lean function (tested against real Go, not proved from fmt's source: count such statements apart). THE CARD IS WHAT COUNTS. Prove the row's statement (the work); the ties are given (YtfdbipeidmpciabDoorTie.lean); close each card by the builder's one call (the guide's Derived/Test/ToyasCard.lean, 'card_holds'). Laid BY PROGRAM, IN A SANDBOX (cutbox-door.mjs). By AI agents, Wed Nov 11 2026. No macro, syntax, notation, axiom, sorry.
-/
import Derived.Test.YtfdbipeidmpciabDoorRows
import GoSem.ClaimSeven
namespace Go.Proofs.YtfdbipeidmpciabDoor
namespace Rows

/-- THE TIED CARD OF 'topiarykeep.PathRises'. -/
def pathRisesCard : Claim7 := { stood := { row := pathRisesRow, standIns := [], harness := (true, "fd291ff61d6db96851638f8b723996b67062db3c106636cf080544951b044712"), looks := true }, kinds := [], alts := [], laidByText := true, laidKinds := [.data, .data, .data, .data, .sentinel, .sentinel, .pinned], laidTests := true, laidLooks := .later }
def PathRisesCardSaid : Prop := Claim7.holds Tryd.pinned (.plain (OpenSpec.ofChange pathRisesSpec)) pathRisesCard

/-- THE TIED CARD OF 'topiarykeep.PathPicks'. -/
def pathPicksCard : Claim7 := { stood := { row := pathPicksRow, standIns := [], harness := (true, "fd291ff61d6db96851638f8b723996b67062db3c106636cf080544951b044712"), looks := true }, kinds := [], alts := [], laidByText := true, laidKinds := [.data, .data, .data, .data, .sentinel, .sentinel, .pinned], laidTests := true, laidLooks := .later }
def PathPicksCardSaid : Prop := Claim7.holds Tryd.pinned (.plain (OpenSpec.ofChange pathPicksSpec)) pathPicksCard

/-- THE TIED CARD OF 'topiarykeep.PathAll'. -/
def pathAllCard : Claim7 := { stood := { row := pathAllRow, standIns := [], harness := (true, "fd291ff61d6db96851638f8b723996b67062db3c106636cf080544951b044712"), looks := true }, kinds := [], alts := [], laidByText := true, laidKinds := [.data, .data, .data, .data, .sentinel, .sentinel, .pinned], laidTests := true, laidLooks := .later }
def PathAllCardSaid : Prop := Claim7.holds Tryd.pinned (.plain (OpenSpec.ofChange pathAllSpec)) pathAllCard

/-- THE SECOND FORM's CARD OF 'topiarykeep.PathRises'. -/
def pathRisesUptoCard : Claim7 := { stood := { row := pathRisesUptoRow, standIns := [], harness := (true, "fd291ff61d6db96851638f8b723996b67062db3c106636cf080544951b044712"), looks := true }, kinds := [], alts := [], laidByText := true, laidKinds := [.data, .data, .data, .data, .sentinel, .sentinel, .pinned], laidTests := true, laidLooks := .later }
def PathRisesUptoCardSaid : Prop := Claim7.holds Tryd.pinned (.plain (OpenSpec.upto pathRisesSpec)) pathRisesUptoCard

/-- THE SECOND FORM's CARD OF 'topiarykeep.PathPicks'. -/
def pathPicksUptoCard : Claim7 := { stood := { row := pathPicksUptoRow, standIns := [], harness := (true, "fd291ff61d6db96851638f8b723996b67062db3c106636cf080544951b044712"), looks := true }, kinds := [], alts := [], laidByText := true, laidKinds := [.data, .data, .data, .data, .sentinel, .sentinel, .pinned], laidTests := true, laidLooks := .later }
def PathPicksUptoCardSaid : Prop := Claim7.holds Tryd.pinned (.plain (OpenSpec.upto pathPicksSpec)) pathPicksUptoCard

/-- THE SECOND FORM's CARD OF 'topiarykeep.PathAll'. -/
def pathAllUptoCard : Claim7 := { stood := { row := pathAllUptoRow, standIns := [], harness := (true, "fd291ff61d6db96851638f8b723996b67062db3c106636cf080544951b044712"), looks := true }, kinds := [], alts := [], laidByText := true, laidKinds := [.data, .data, .data, .data, .sentinel, .sentinel, .pinned], laidTests := true, laidLooks := .later }
def PathAllUptoCardSaid : Prop := Claim7.holds Tryd.pinned (.plain (OpenSpec.upto pathAllSpec)) pathAllUptoCard
end Rows
end Go.Proofs.YtfdbipeidmpciabDoor
