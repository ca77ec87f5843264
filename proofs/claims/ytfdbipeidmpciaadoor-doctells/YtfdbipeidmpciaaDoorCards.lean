/-
  DERIVED. GIVEN WITH THE SEED: THE CARDS: each row of YtfdbipeidmpciaaDoorRows.lean that lists a variable, with what it lists TIED to the program's text (the seventh form; the later family's looks); each row that meets fmt, with fmt's text TOLD by the authors' own Lean function (tested against real Go, not proved from fmt's source: count such statements apart). THE CARD IS WHAT COUNTS. Prove the row's statement (the work); the ties are given (YtfdbipeidmpciaaDoorTie.lean); close each card by the builder's one call (the guide's Derived/Test/ToyasCard.lean, 'card_holds'). Laid BY PROGRAM, IN A SANDBOX (cutbox-door.mjs). By AI agents, Wed Nov 11 2026. No macro, syntax, notation, axiom, sorry.
-/
import Derived.Test.YtfdbipeidmpciaaDoorRows
import GoSem.ClaimSeven
namespace Go.Proofs.YtfdbipeidmpciaaDoor
namespace Rows

/-- THE TIED CARD OF 'topiarylaw.TreeTells'. -/
def treeTellsCard : Claim7 := { stood := { row := treeTellsRow, standIns := [], harness := (true, "2b70db1d4b7d8be0da6437f40b35358ee007265ac0efd6e7a0c724b7392ee36a"), looks := true }, kinds := [], alts := [], laidByText := true, laidKinds := [.data, .pinned], laidTests := true, laidLooks := .later }
def TreeTellsCardSaid : Prop := Claim7.holds Tryd.pinned (.plain (OpenSpec.ofChange treeTellsSpec)) treeTellsCard

/-- THE TIED CARD OF 'topiarykeep.MarkBack'. -/
def markBackCard : Claim7 := { stood := { row := markBackRow, standIns := [], harness := (true, "2b70db1d4b7d8be0da6437f40b35358ee007265ac0efd6e7a0c724b7392ee36a"), looks := true }, kinds := [], alts := [], laidByText := true, laidKinds := [.data, .data, .pinned], laidTests := true, laidLooks := .later }
def MarkBackCardSaid : Prop := Claim7.holds Tryd.pinned (.plain (OpenSpec.ofChange markBackSpec)) markBackCard

/-- THE TIED CARD OF 'topiarykeep.MarkOnce'. -/
def markOnceCard : Claim7 := { stood := { row := markOnceRow, standIns := [], harness := (true, "2b70db1d4b7d8be0da6437f40b35358ee007265ac0efd6e7a0c724b7392ee36a"), looks := true }, kinds := [], alts := [], laidByText := true, laidKinds := [.data, .data, .pinned], laidTests := true, laidLooks := .later }
def MarkOnceCardSaid : Prop := Claim7.holds Tryd.pinned (.plain (OpenSpec.ofChange markOnceSpec)) markOnceCard

/-- THE TIED CARD OF 'topiarykeep.MarkContent'. -/
def markContentCard : Claim7 := { stood := { row := markContentRow, standIns := [], harness := (true, "2b70db1d4b7d8be0da6437f40b35358ee007265ac0efd6e7a0c724b7392ee36a"), looks := true }, kinds := [], alts := [], laidByText := true, laidKinds := [.data, .data, .pinned], laidTests := true, laidLooks := .later }
def MarkContentCardSaid : Prop := Claim7.holds Tryd.pinned (.plain (OpenSpec.ofChange markContentSpec)) markContentCard

/-- THE TIED CARD OF 'topiarylaw.DocMakes'. -/
def docMakesCard : Claim7 := { stood := { row := docMakesRow, standIns := [], harness := (true, "2b70db1d4b7d8be0da6437f40b35358ee007265ac0efd6e7a0c724b7392ee36a"), looks := true }, kinds := [], alts := [], laidByText := true, laidKinds := [.data, .pinned], laidTests := true, laidLooks := .later }
def DocMakesCardSaid : Prop := Claim7.holds Tryd.pinned (.plain (OpenSpec.ofChange docMakesSpec)) docMakesCard

/-- THE TIED CARD OF 'topiarylaw.DocTells'. -/
def docTellsCard : Claim7 := { stood := { row := docTellsRow, standIns := [], harness := (true, "2b70db1d4b7d8be0da6437f40b35358ee007265ac0efd6e7a0c724b7392ee36a"), looks := true }, kinds := [], alts := [], laidByText := true, laidKinds := [.data, .pinned], laidTests := true, laidLooks := .later }
def DocTellsCardSaid : Prop := Claim7.holds Tryd.pinned (.plain (OpenSpec.ofChange docTellsSpec)) docTellsCard

/-- THE TIED CARD OF 'topiarylaw.PathParses'. -/
def pathParsesCard : Claim7 := { stood := { row := pathParsesRow, standIns := [], harness := (true, "2b70db1d4b7d8be0da6437f40b35358ee007265ac0efd6e7a0c724b7392ee36a"), looks := true }, kinds := [], alts := [], laidByText := true, laidKinds := [.data, .data, .data, .data, .sentinel, .sentinel, .pinned], laidTests := true, laidLooks := .later }
def PathParsesCardSaid : Prop := Claim7.holds Tryd.pinned (.plain (OpenSpec.ofChange pathParsesSpec)) pathParsesCard

/-- THE SECOND FORM's CARD OF 'topiarylaw.TreeTells'. -/
def treeTellsUptoCard : Claim7 := { stood := { row := treeTellsUptoRow, standIns := [], harness := (true, "2b70db1d4b7d8be0da6437f40b35358ee007265ac0efd6e7a0c724b7392ee36a"), looks := true }, kinds := [], alts := [], laidByText := true, laidKinds := [.data, .pinned], laidTests := true, laidLooks := .later }
def TreeTellsUptoCardSaid : Prop := Claim7.holds Tryd.pinned (.plain (OpenSpec.upto treeTellsSpec)) treeTellsUptoCard

/-- THE SECOND FORM's CARD OF 'topiarykeep.MarkBack'. -/
def markBackUptoCard : Claim7 := { stood := { row := markBackUptoRow, standIns := [], harness := (true, "2b70db1d4b7d8be0da6437f40b35358ee007265ac0efd6e7a0c724b7392ee36a"), looks := true }, kinds := [], alts := [], laidByText := true, laidKinds := [.data, .data, .pinned], laidTests := true, laidLooks := .later }
def MarkBackUptoCardSaid : Prop := Claim7.holds Tryd.pinned (.plain (OpenSpec.upto markBackSpec)) markBackUptoCard

/-- THE SECOND FORM's CARD OF 'topiarykeep.MarkOnce'. -/
def markOnceUptoCard : Claim7 := { stood := { row := markOnceUptoRow, standIns := [], harness := (true, "2b70db1d4b7d8be0da6437f40b35358ee007265ac0efd6e7a0c724b7392ee36a"), looks := true }, kinds := [], alts := [], laidByText := true, laidKinds := [.data, .data, .pinned], laidTests := true, laidLooks := .later }
def MarkOnceUptoCardSaid : Prop := Claim7.holds Tryd.pinned (.plain (OpenSpec.upto markOnceSpec)) markOnceUptoCard

/-- THE SECOND FORM's CARD OF 'topiarykeep.MarkContent'. -/
def markContentUptoCard : Claim7 := { stood := { row := markContentUptoRow, standIns := [], harness := (true, "2b70db1d4b7d8be0da6437f40b35358ee007265ac0efd6e7a0c724b7392ee36a"), looks := true }, kinds := [], alts := [], laidByText := true, laidKinds := [.data, .data, .pinned], laidTests := true, laidLooks := .later }
def MarkContentUptoCardSaid : Prop := Claim7.holds Tryd.pinned (.plain (OpenSpec.upto markContentSpec)) markContentUptoCard

/-- THE SECOND FORM's CARD OF 'topiarylaw.DocMakes'. -/
def docMakesUptoCard : Claim7 := { stood := { row := docMakesUptoRow, standIns := [], harness := (true, "2b70db1d4b7d8be0da6437f40b35358ee007265ac0efd6e7a0c724b7392ee36a"), looks := true }, kinds := [], alts := [], laidByText := true, laidKinds := [.data, .pinned], laidTests := true, laidLooks := .later }
def DocMakesUptoCardSaid : Prop := Claim7.holds Tryd.pinned (.plain (OpenSpec.upto docMakesSpec)) docMakesUptoCard

/-- THE SECOND FORM's CARD OF 'topiarylaw.DocTells'. -/
def docTellsUptoCard : Claim7 := { stood := { row := docTellsUptoRow, standIns := [], harness := (true, "2b70db1d4b7d8be0da6437f40b35358ee007265ac0efd6e7a0c724b7392ee36a"), looks := true }, kinds := [], alts := [], laidByText := true, laidKinds := [.data, .pinned], laidTests := true, laidLooks := .later }
def DocTellsUptoCardSaid : Prop := Claim7.holds Tryd.pinned (.plain (OpenSpec.upto docTellsSpec)) docTellsUptoCard

/-- THE SECOND FORM's CARD OF 'topiarylaw.PathParses'. -/
def pathParsesUptoCard : Claim7 := { stood := { row := pathParsesUptoRow, standIns := [], harness := (true, "2b70db1d4b7d8be0da6437f40b35358ee007265ac0efd6e7a0c724b7392ee36a"), looks := true }, kinds := [], alts := [], laidByText := true, laidKinds := [.data, .data, .data, .data, .sentinel, .sentinel, .pinned], laidTests := true, laidLooks := .later }
def PathParsesUptoCardSaid : Prop := Claim7.holds Tryd.pinned (.plain (OpenSpec.upto pathParsesSpec)) pathParsesUptoCard
end Rows
end Go.Proofs.YtfdbipeidmpciaaDoor
