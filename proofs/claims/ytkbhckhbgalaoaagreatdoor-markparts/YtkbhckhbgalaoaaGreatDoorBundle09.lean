/- strings.IndexByte, (*strings.Builder).WriteByte, mark.printMarked: a marked text is written behind what was there. Condition: less than 2^40 letters. -/
import Derived.Test.YtkbhckhbgalaoaaGreatDoorBundle01
import Derived.Test.YtkbhckhbgalaoaaGreatDoorBundle08
import Derived.Maps.AppendAt
import Derived.Deep.LoopGhost
import Derived.Deep.RegionLaw
namespace Go.Proofs.YtkbhckhbgalaoaaGreatDoor
open Go.ChangeShapes Go.WideShapes Go.ChangeAt Go.RowKit
set_option maxRecDepth 100000
theorem jk (s:ByteArray)(c:Int)(w:World) :
 Calls Tryz.prog 44 #[.string s,.int .u8 c] w fun e w'=>e=.returned (.int .i64 (Lib.indexByte s.data.toList c.toNat.toUInt8))∧w'=w:=by
 have hlite:Calls Tryz.prog 75 #[.string s,.int .u8 c] w fun e w'=>e=.returned (.int .i64 (Lib.indexByte s.data.toList c.toNat.toUInt8))∧w'=w:=by
  go_enter Tryz.func75,Tryz.ntmps75
  go_wp2;rw[run_callFunc_extern Tryz.func97 (by kernel_rfl) (by kernel_rfl) (by kernel_rfl) (e:=Extern.BytealgIndexByte.indexByte) (by kernel_rfl),Lib.run_indexByteString]
  simp only[Result.andThen];rw[Oper.upon_value];go_wp2;go_ret;exact ⟨rfl,rfl⟩
 have HL:Hid _:=hlite;clear hlite
 go_enter Tryz.func44,Tryz.ntmps44
 go_wp2_with fail;refine (Calls.mono HL.out ?_);rintro e w' ⟨rfl,rfl⟩;go_wp2_with fail;go_ret;exact ⟨rfl,rfl⟩
end Go.Proofs.YtkbhckhbgalaoaaGreatDoor
