/- topiarykeep.MarkBack and MarkOnce answer true. Condition: the variable marks holds the four marks. -/
import Derived.Test.YtkbhckhbgalaoaaGreatDoorBundle21
import Derived.Test.YtkbhckhbgalaoaaGreatDoorBundle33
namespace Go.Proofs.YtkbhckhbgalaoaaGreatDoor
open Go.ChangeShapes Go.WideShapes Go.ChangeAt Go.RowKit
set_option maxRecDepth 100000
section
attribute [local go_sem] qi
end
end Go.Proofs.YtkbhckhbgalaoaaGreatDoor
