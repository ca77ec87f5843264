/- A map from numbers to strings that the call has made: looking up. No condition. -/
import Derived.Test.YtfplhcicbbhljaaGreatDoorBundle00
import Derived.Maps.StringElems
namespace Go.Proofs.YtfplhcicbbhljaaGreatDoor
open Go.Maps
set_option maxRecDepth 100000
def qdW (D:DataW Unit)(k:Int)(s:List UInt8):DataW Unit:=D.put (.int .i64 k) (.lit (.string s))
end Go.Proofs.YtfplhcicbbhljaaGreatDoor
