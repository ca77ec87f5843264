/- Bundled: OpenD OpenT. What each says stands ahead of it. -/
import Derived.Test.YtchkbffgancidaaGreatDoorBundle41
import Derived.Test.YtchkbffgancidaaGreatDoorBundle22
namespace Go.Proofs.YtchkbffgancidaaGreatDoor
open Go.ChangeShapes Go.WideShapes Go.ChangeAt Go.RowKit
set_option maxRecDepth 100000
section
section
variable {H : Type} {enc : TypeId × Value → H} {W : World}
end
end
section
section
variable {H : Type} {enc : TypeId × Value → H} {W : World}
end
end
end Go.Proofs.YtchkbffgancidaaGreatDoor
