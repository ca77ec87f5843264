/- strings.IndexByte, (*strings.Builder).WriteByte, mark.printMarked: a marked text is written behind what was there. Condition: less than 2^40 letters. -/
import Derived.Test.YtfplhcicbbhljaaGreatDoorBundle01
import Derived.Test.YtfplhcicbbhljaaGreatDoorBundle06
import Derived.Maps.AppendAt
import Derived.Deep.LoopGhost
import Derived.Deep.RegionLaw
namespace Go.Proofs.YtfplhcicbbhljaaGreatDoor
open Go.ChangeShapes Go.WideShapes Go.ChangeAt Go.RowKit
set_option maxRecDepth 100000
theorem QZ (s:ByteArray)(c:Int)(w:World) :
 Calls Tryz.prog 17 #[.string s,.int .u8 c] w fun e w'=>e=.returned (.int .i64 (Lib.indexByte s.data.toList c.toNat.toUInt8))∧w'=w:=by
 have hlite:Calls Tryz.prog 36 #[.string s,.int .u8 c] w fun e w'=>e=.returned (.int .i64 (Lib.indexByte s.data.toList c.toNat.toUInt8))∧w'=w:=by
  go_enter Tryz.func36,Tryz.ntmps36
  go_wp2;rw[run_callFunc_extern Tryz.func64 (by kernel_rfl) (by kernel_rfl) (by kernel_rfl) (e:=Extern.BytealgIndexByte.indexByte) (by kernel_rfl),Lib.run_indexByteString]
  simp only[Result.andThen];rw[Oper.upon_value];go_wp2;go_ret;exact ⟨rfl,rfl⟩
 have HL:Hid _:=hlite;clear hlite
 go_enter Tryz.func17,Tryz.ntmps17
 go_wp2_with fail;refine (Calls.mono HL.out ?_);rintro e w' ⟨rfl,rfl⟩;go_wp2_with fail;go_ret;exact ⟨rfl,rfl⟩
end Go.Proofs.YtfplhcicbbhljaaGreatDoor
