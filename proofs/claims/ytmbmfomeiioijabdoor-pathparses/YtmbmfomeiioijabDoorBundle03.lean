/- strings.Builder's Len, WriteString and String over this program: a builder that the call has made holds what was written. Condition: fewer than 2^47 bytes. -/
import Derived.Test.YtmbmfomeiioijabDoorBundle00
import Derived.Test.YtmbmfomeiioijabDoorChecked
import Derived.Lib.Strings
import Derived.Lib.Slices
import Derived.Lib.Walk
import Derived.Lib.Builder
import Derived.Lib.AppendStr
import Derived.Lib.UnsafeStr
import Derived.Lib.MakeNoZero
import Derived.RegionTactic
namespace Go.Proofs.YtmbmfomeiioijabDoor
open Go.ChangeShapes Go.WideShapes Go.ChangeAt Go.RowKit
set_option maxRecDepth 100000

theorem byteInfo : (Tryd.prog.info? 5).map (fun i => (i.zero, i.size, i.bytes)) = some (some (.int .u8 0), 1, 1) := by kernel_rfl
theorem byteCellsOf : Tryd.prog.cellsOf 5 = 1 := by kernel_rfl

theorem unsafeString_none (W : World) (q : Option Addr) : (Builtin.unsafeString_ #[129, 3] 9 #[.pointer q, .int .i64 0]).run Tryd.prog W = .ok (.string .empty) W :=
  Lib.run_unsafeString_none W _ _ _ q

end Go.Proofs.YtmbmfomeiioijabDoor

