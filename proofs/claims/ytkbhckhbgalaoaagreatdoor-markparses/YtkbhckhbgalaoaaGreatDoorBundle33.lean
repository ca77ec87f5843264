/- An argument of type api.Tree opened; depths brought to one; what the bound gives. No condition. -/
import Derived.Test.YtkbhckhbgalaoaaGreatDoorBundle32
import Derived.Test.YtkbhckhbgalaoaaGreatDoorBundle19
namespace Go.Proofs.YtkbhckhbgalaoaaGreatDoor
open Go.ChangeShapes Go.WideShapes Go.ChangeAt Go.RowKit
set_option maxRecDepth 100000
section
section
variable {H : Type} {enc : TypeId × Value → H} {W : World}
end
end
end Go.Proofs.YtkbhckhbgalaoaaGreatDoor
