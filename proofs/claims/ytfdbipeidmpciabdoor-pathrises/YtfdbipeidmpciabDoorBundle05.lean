/- topiaryref.CopyTrees and CopyTree: the same trees in new memory. Condition: at most 2^20 trees and attributes in each list. -/
import Derived.Test.YtfdbipeidmpciabDoorBundle04
import Derived.Deep.RegionLaw
namespace Go.Proofs.YtfdbipeidmpciabDoor
open Go.ChangeShapes Go.WideShapes Go.ChangeAt Go.RowKit
set_option maxRecDepth 100000
section
theorem yo {P:Program}{ops:Array Oper}{o:Oper}{a:Act}{w:World}{K:Act→World→Prop}{Q:Exit→Act→World→Prop}{E:Prop}
 (hg:o.guard=none) (f:FuncId) (args:Array Value) (hrun:(execOp a.eval o).run P w=.ok (.enter f args) w)
 (R:Value→World→Prop) (hc:Calls P f args w fun e w'=>∃ r,e=.returned r∧R r w')
 (hK:∀ r w',R r w'→K (a.put o.dst r) w') :
 if Region.wanted o (yielded ops a.tmps)=true then Oper.wp P o a w K Q else E:=by
 have hw:Region.wanted o (yielded ops a.tmps)=true:=by simp[Region.wanted,hg]
 rw[if_pos hw];unfold Oper.wp;rw[hrun,Oper.upon_enter];refine hc.mono ?_;rintro e w' ⟨r,rfl,hr⟩;exact hK r w' hr
attribute [local go_sem] qc
end
end Go.Proofs.YtfdbipeidmpciabDoor
