/- What the variables hold that a store's functions read, out of a row's list of laid variables. No condition. -/
import Derived.Test.YtfplhcicbbhljaaGreatDoorBundle40
import Derived.Test.YtfplhcicbbhljaaGreatDoorBundle43
import Derived.Test.YtfplhcicbbhljaaGreatDoorBundle44
namespace Go.Proofs.YtfplhcicbbhljaaGreatDoor
open Go.ChangeShapes Go.WideShapes Go.ChangeAt Go.RowKit
set_option maxRecDepth 100000
theorem Vi {W : World} (h : Lib.VarReads Tryz.prog W "topiary/mark.marks" Rows.laid_topiary_mark_marks) : zn W := by
 obtain ⟨g,t,cs,fuel,p,hg,ht,hv,hd⟩:=h;exact XY hg ht hv hd
theorem VY {W : World} (h : Lib.VarReads Tryz.prog W "topiary/store.words" Rows.laid_topiary_store_words) : J6 W := by
 obtain ⟨g,t,cs,fuel,p,hg,ht,hv,hd⟩:=h;have hg2 : Tryz.prog.globalNamed "topiary/store.words" = some 0 := by kernel_rfl
 have ht2:(Tryz.prog.globals[0]?).map (·.type)=some 62:=by kernel_rfl
 obtain rfl:=Option.some.inj (hg2.symm.trans hg);obtain rfl:=Option.some.inj (ht2.symm.trans ht);have hcs:=QY (zs:=wordsL) Tryz.underlying62 Tryz.underlying9 (by kernel_rfl) (by kernel_rfl) hd
 have hc:∀ i,W.cell? ⟨0,i,none⟩=cs.toList[i]?:=fun i=>by
  have:=World.var?_cell hg2 hv i;rw[this];simp
 refine ⟨?_,?_,?_,?_,?_,?_,?_,?_,?_,?_⟩
 · rw[hc 0,hcs];rfl
 · rw[hc 1,hcs];rfl
 · rw[hc 2,hcs];rfl
 · rw[hc 3,hcs];rfl
 · rw[hc 4,hcs];rfl
 · rw[hc 5,hcs];rfl
 · rw[hc 6,hcs];rfl
 · rw[hc 7,hcs];rfl
 · rw[hc 8,hcs];rfl
 · rw[hc 9,hcs];rfl
end Go.Proofs.YtfplhcicbbhljaaGreatDoor
