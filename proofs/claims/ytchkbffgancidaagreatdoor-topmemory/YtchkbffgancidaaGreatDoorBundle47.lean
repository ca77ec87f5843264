/- What the variables hold that a store's functions read, out of a row's list of laid variables. No condition. -/
import Derived.Test.YtchkbffgancidaaGreatDoorBundle45
import Derived.Test.YtchkbffgancidaaGreatDoorBundle46
namespace Go.Proofs.YtchkbffgancidaaGreatDoor
open Go.ChangeShapes Go.WideShapes Go.ChangeAt Go.RowKit
set_option maxRecDepth 100000
theorem KA {W : World} (h : Lib.VarReads Tryz.prog W "topiary/mark.marks" Rows.laid_topiary_mark_marks) : qO W := by
 obtain ⟨g,t,cs,fuel,p,hg,ht,hv,hd⟩:=h;exact Xz hg ht hv hd
theorem K6 {W : World} (h : Lib.VarReads Tryz.prog W "topiary/store.words" Rows.laid_topiary_store_words) : JA W := by
 obtain ⟨g,t,cs,fuel,p,hg,ht,hv,hd⟩:=h;have hg2 : Tryz.prog.globalNamed "topiary/store.words" = some 0 := by kernel_rfl
 have ht2:(Tryz.prog.globals[0]?).map (·.type)=some 161:=by kernel_rfl
 obtain rfl:=Option.some.inj (hg2.symm.trans hg);obtain rfl:=Option.some.inj (ht2.symm.trans ht);have hcs:=Qw (zs:=wordsL) Tryz.underlying161 Tryz.underlying9 (by kernel_rfl) (by kernel_rfl) hd
 have hc:∀ i,W.cell? ⟨0,i,none⟩=cs.toList[i]?:=fun i=>by
  have:=World.var?_cell hg2 hv i;rw[this];simp
 refine ⟨?_,?_,?_,?_,?_,?_,?_,?_,?_,?_⟩
 · rw[hc 0,hcs];rfl
 · rw[hc 1,hcs];rfl
 · rw[hc 2,hcs];rfl
 · rw[hc 3,hcs];rfl
 · rw[hc 4,hcs];rfl
 · rw[hc 5,hcs];rfl
 · rw[hc 6,hcs];rfl
 · rw[hc 7,hcs];rfl
 · rw[hc 8,hcs];rfl
 · rw[hc 9,hcs];rfl
end Go.Proofs.YtchkbffgancidaaGreatDoor
