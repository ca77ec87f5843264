/- What the variables hold that a store's functions read, out of a row's list of laid variables. No condition. -/
import Derived.Test.YtcgknjhpgikckaaGreatDoorBundle45
import Derived.Test.YtcgknjhpgikckaaGreatDoorBundle46
namespace Go.Proofs.YtcgknjhpgikckaaGreatDoor
open Go.ChangeShapes Go.WideShapes Go.ChangeAt Go.RowKit
set_option maxRecDepth 100000
theorem KH {W : World} (h : Lib.VarReads Tryz.prog W "topiary/mark.marks" Rows.laid_topiary_mark_marks) : qN W := by
 obtain ⟨g,t,cs,fuel,p,hg,ht,hv,hd⟩:=h;exact XB hg ht hv hd
theorem Ve {W : World} (h : Lib.VarReads Tryz.prog W "topiary/store.words" Rows.laid_topiary_store_words) : JD W := by
 obtain ⟨g,t,cs,fuel,p,hg,ht,hv,hd⟩:=h;have hg2 : Tryz.prog.globalNamed "topiary/store.words" = some 0 := by kernel_rfl
 have ht2:(Tryz.prog.globals[0]?).map (·.type)=some 76:=by kernel_rfl
 obtain rfl:=Option.some.inj (hg2.symm.trans hg);obtain rfl:=Option.some.inj (ht2.symm.trans ht);have hcs:=QB (zs:=wordsL) Tryz.underlying76 Tryz.underlying9 (by kernel_rfl) (by kernel_rfl) hd
 have hc:∀ i,W.cell? ⟨0,i,none⟩=cs.toList[i]?:=fun i=>by
  have:=World.var?_cell hg2 hv i;rw[this];simp
 refine ⟨?_,?_,?_,?_,?_,?_,?_,?_,?_,?_⟩
 · rw[hc 0,hcs];rfl
 · rw[hc 1,hcs];rfl
 · rw[hc 2,hcs];rfl
 · rw[hc 3,hcs];rfl
 · rw[hc 4,hcs];rfl
 · rw[hc 5,hcs];rfl
 · rw[hc 6,hcs];rfl
 · rw[hc 7,hcs];rfl
 · rw[hc 8,hcs];rfl
 · rw[hc 9,hcs];rfl
end Go.Proofs.YtcgknjhpgikckaaGreatDoor
