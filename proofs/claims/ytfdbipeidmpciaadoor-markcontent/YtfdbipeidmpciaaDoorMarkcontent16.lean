/- strings.IndexByte, (*strings.Builder).WriteByte, mark.printMarked: a marked text is written behind what was there. Condition: less than 2^40 letters. -/
import Derived.Test.YtfdbipeidmpciaaDoorMarkcontent12
import Derived.Test.YtfdbipeidmpciaaDoorFive02
import Derived.Maps.AppendAt
import Derived.Deep.LoopGhost
import Derived.Deep.RegionLaw
namespace Go.Proofs.YtfdbipeidmpciaaDoor
open Go.ChangeShapes Go.WideShapes Go.ChangeAt Go.RowKit
set_option maxRecDepth 100000
theorem jj (s:ByteArray)(c:Int)(w:World) :
 Calls Tryd.prog 146 #[.string s,.int .u8 c] w fun e w'=>e=.returned (.int .i64 (Lib.indexByte s.data.toList c.toNat.toUInt8))∧w'=w:=by
 have hlite:Calls Tryd.prog 165 #[.string s,.int .u8 c] w fun e w'=>e=.returned (.int .i64 (Lib.indexByte s.data.toList c.toNat.toUInt8))∧w'=w:=by
  go_enter Tryd.func165,Tryd.ntmps165
  go_wp2;rw[run_callFunc_extern Tryd.func186 (by kernel_rfl) (by kernel_rfl) (by kernel_rfl) (e:=Extern.BytealgIndexByte.indexByte) (by kernel_rfl),Lib.run_indexByteString]
  simp only[Result.andThen];rw[Oper.upon_value];go_wp2;go_ret;exact ⟨rfl,rfl⟩
 have HL:Hid _:=hlite;clear hlite
 go_enter Tryd.func146,Tryd.ntmps146
 go_wp2_with fail;refine (Calls.mono HL.out ?_);rintro e w' ⟨rfl,rfl⟩;go_wp2_with fail;go_ret;exact ⟨rfl,rfl⟩
end Go.Proofs.YtfdbipeidmpciaaDoor
