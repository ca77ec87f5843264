/- How a list of trees that came in is opened: from its reading to the trees that lie there, with what its bulk bounds. No condition. -/
import Derived.Test.YtkbhckhbgalaoaaGreatDoorRows
import Derived.Test.YtkbhckhbgalaoaaGreatDoorBundle18
import Derived.Lib.SmallJoins
namespace Go.Proofs.YtkbhckhbgalaoaaGreatDoor
open Go.ChangeShapes Go.WideShapes Go.ChangeAt Go.RowKit
set_option maxRecDepth 100000
section
section
variable {H : Type} {enc : TypeId × Value → H} {W : World}
end
end
end Go.Proofs.YtkbhckhbgalaoaaGreatDoor
