/- A map from numbers to strings that the call has made: looking up. No condition. -/
import Derived.Test.YtnppmdpmippcoaaGreatDoorBundle00
import Derived.Maps.StringElems
namespace Go.Proofs.YtnppmdpmippcoaaGreatDoor
open Go.Maps
set_option maxRecDepth 100000
def Zz (D:DataW Unit)(k:Int)(s:List UInt8):DataW Unit:=D.put (.int .i64 k) (.lit (.string s))
def mustD:DataW Unit:=Zz (Zz (Zz (Zz (Zz (Zz (Zz (Zz (Zz (Zz (.map []) 1 [99]) 2 [99]) 3 [99]) 4 [99]) 5 []) 6 [99]) 7 [116]) 8 [110]) 9 [110,116]) 10 [110]
def qbp (k:Int):List UInt8:=if k=5 then [] else if k=7 then [116] else if k=8 then [110] else if k=9 then [110,116] else if k=10 then [110] else [99]
theorem qa5 (k:Int)(h1:1≤k)(h2:k≤10)(z:DataW Unit):mustD.atKey (.int .i64 k) z=.lit (.string (qbp k)):=by
 have:k=1∨k=2∨k=3∨k=4∨k=5∨k=6∨k=7∨k=8∨k=9∨k=10:=by omega
 rcases this with rfl|rfl|rfl|rfl|rfl|rfl|rfl|rfl|rfl|rfl<;>rfl
end Go.Proofs.YtnppmdpmippcoaaGreatDoor
