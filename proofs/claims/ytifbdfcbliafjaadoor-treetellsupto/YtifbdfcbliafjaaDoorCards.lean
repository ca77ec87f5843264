/-
  DERIVED. GIVEN WITH THE SEED: THE CARDS: each row of YtifbdfcbliafjaaDoorRows.lean that lists a variable, with what it lists TIED to the program's text (the seventh form; the later family's looks); each row that meets fmt, with fmt's text TOLD by the authors' own Lean function (tested against real Go, not proved from fmt's source: count such statements apart). THE CARD IS WHAT COUNTS. Prove the row's statement (the work); the ties are given (YtifbdfcbliafjaaDoorTie.lean); close each card by the builder's one call (the guide's Derived/Test/ToyasCard.lean, 'card_holds'). Laid BY PROGRAM, IN A SANDBOX (cutbox-door.mjs). By AI agents, Wed Nov 11 2026. No macro, syntax, notation, axiom, sorry.
-/
import Derived.Test.YtifbdfcbliafjaaDoorRows
import GoSem.ClaimSeven
namespace Go.Proofs.YtifbdfcbliafjaaDoor
namespace Rows

/-- THE TIED CARD OF 'topiarylaw.TreeTells'. -/
def treeTellsCard : Claim7 := { stood := { row := treeTellsRow, standIns := [], harness := (true, "db5a24ec50b3d0ecfdec7fd63f3936fa39271c6b5704379bbb3ff6f257795c68"), looks := false }, kinds := [], alts := [], laidByText := true, laidKinds := [.data, .pinned], laidTests := true, laidLooks := .later }
def TreeTellsCardSaid : Prop := Claim7.holds Tryd.pinned (.plain (OpenSpec.ofChange treeTellsSpec)) treeTellsCard

/-- THE TIED CARD OF 'topiarykeep.MarkBack'. -/
def markBackCard : Claim7 := { stood := { row := markBackRow, standIns := [], harness := (true, "db5a24ec50b3d0ecfdec7fd63f3936fa39271c6b5704379bbb3ff6f257795c68"), looks := false }, kinds := [], alts := [], laidByText := true, laidKinds := [.data, .data, .pinned], laidTests := true, laidLooks := .later }
def MarkBackCardSaid : Prop := Claim7.holds Tryd.pinned (.plain (OpenSpec.ofChange markBackSpec)) markBackCard

/-- THE TIED CARD OF 'topiarykeep.MarkOnce'. -/
def markOnceCard : Claim7 := { stood := { row := markOnceRow, standIns := [], harness := (true, "db5a24ec50b3d0ecfdec7fd63f3936fa39271c6b5704379bbb3ff6f257795c68"), looks := false }, kinds := [], alts := [], laidByText := true, laidKinds := [.data, .data, .pinned], laidTests := true, laidLooks := .later }
def MarkOnceCardSaid : Prop := Claim7.holds Tryd.pinned (.plain (OpenSpec.ofChange markOnceSpec)) markOnceCard

/-- THE TIED CARD OF 'topiarykeep.MarkContent'. -/
def markContentCard : Claim7 := { stood := { row := markContentRow, standIns := [], harness := (true, "db5a24ec50b3d0ecfdec7fd63f3936fa39271c6b5704379bbb3ff6f257795c68"), looks := false }, kinds := [], alts := [], laidByText := true, laidKinds := [.data, .data, .pinned], laidTests := true, laidLooks := .later }
def MarkContentCardSaid : Prop := Claim7.holds Tryd.pinned (.plain (OpenSpec.ofChange markContentSpec)) markContentCard

/-- THE SECOND FORM's CARD OF 'topiarylaw.TreeTells'. -/
def treeTellsUptoCard : Claim7 := { stood := { row := treeTellsUptoRow, standIns := [], harness := (true, "db5a24ec50b3d0ecfdec7fd63f3936fa39271c6b5704379bbb3ff6f257795c68"), looks := false }, kinds := [], alts := [], laidByText := true, laidKinds := [.data, .pinned], laidTests := true, laidLooks := .later }
def TreeTellsUptoCardSaid : Prop := Claim7.holds Tryd.pinned (.plain (OpenSpec.upto treeTellsSpec)) treeTellsUptoCard

/-- THE SECOND FORM's CARD OF 'topiarykeep.MarkBack'. -/
def markBackUptoCard : Claim7 := { stood := { row := markBackUptoRow, standIns := [], harness := (true, "db5a24ec50b3d0ecfdec7fd63f3936fa39271c6b5704379bbb3ff6f257795c68"), looks := false }, kinds := [], alts := [], laidByText := true, laidKinds := [.data, .data, .pinned], laidTests := true, laidLooks := .later }
def MarkBackUptoCardSaid : Prop := Claim7.holds Tryd.pinned (.plain (OpenSpec.upto markBackSpec)) markBackUptoCard

/-- THE SECOND FORM's CARD OF 'topiarykeep.MarkOnce'. -/
def markOnceUptoCard : Claim7 := { stood := { row := markOnceUptoRow, standIns := [], harness := (true, "db5a24ec50b3d0ecfdec7fd63f3936fa39271c6b5704379bbb3ff6f257795c68"), looks := false }, kinds := [], alts := [], laidByText := true, laidKinds := [.data, .data, .pinned], laidTests := true, laidLooks := .later }
def MarkOnceUptoCardSaid : Prop := Claim7.holds Tryd.pinned (.plain (OpenSpec.upto markOnceSpec)) markOnceUptoCard

/-- THE SECOND FORM's CARD OF 'topiarykeep.MarkContent'. -/
def markContentUptoCard : Claim7 := { stood := { row := markContentUptoRow, standIns := [], harness := (true, "db5a24ec50b3d0ecfdec7fd63f3936fa39271c6b5704379bbb3ff6f257795c68"), looks := false }, kinds := [], alts := [], laidByText := true, laidKinds := [.data, .data, .pinned], laidTests := true, laidLooks := .later }
def MarkContentUptoCardSaid : Prop := Claim7.holds Tryd.pinned (.plain (OpenSpec.upto markContentSpec)) markContentUptoCard
end Rows
end Go.Proofs.YtifbdfcbliafjaaDoor
