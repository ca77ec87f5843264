/- strings.Builder's Len, WriteString and String over this program: a builder that the call has made holds what was written. Condition: fewer than 2^47 bytes. -/
import Derived.Test.YtfdbipeidmpciaaGreatDoorBundle00
import Derived.Test.YtfdbipeidmpciaaGreatDoorChecked
import Derived.Lib.Strings
import Derived.Lib.Slices
import Derived.Lib.Walk
import Derived.Lib.Builder
import Derived.Lib.UnsafeStr
import Derived.Lib.MakeNoZero
namespace Go.Proofs.YtfdbipeidmpciaaGreatDoor
open Go.ChangeShapes Go.WideShapes Go.ChangeAt Go.RowKit
set_option maxRecDepth 100000
theorem cH9 {w:World} {b:Nat} {cs:Array Value} {T:TypeId} {fr:Nat×Nat} (hb:w.heap[b]?=some (.cells cs T fr)) (j:Nat):w.cell? ⟨b,j,none⟩=cs[j]?:=Lib.cell_of_heap hb j
theorem fH9 {w:World} {b:Nat} {cs:Array Value} {T:TypeId} (hb:w.heap[b]?=some (.cells cs T (0,0))) (j:Nat):w.frozen? ⟨b,j,none⟩=false:=Lib.frozen_of_heap hb j
theorem nR9 (n:Nat):n≤n:=Nat.le_refl n
theorem nZ9 (n:Nat):0≤n:=Nat.zero_le n
end Go.Proofs.YtfdbipeidmpciaaGreatDoor
