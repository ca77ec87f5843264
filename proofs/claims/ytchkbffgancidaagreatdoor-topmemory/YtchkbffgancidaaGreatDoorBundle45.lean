/- What the variables on path's way hold, out of a row's list of laid variables. No condition. -/
import Derived.Test.YtchkbffgancidaaGreatDoorBundle25
import Derived.Test.YtchkbffgancidaaGreatDoorBundle44
import Derived.Test.YtchkbffgancidaaGreatDoorRows
import Derived.Deep.DeepHandedRow
import Derived.Lib.LaidU8
import Derived.Stop.LaidErr
import Derived.Lay
namespace Go.Proofs.YtchkbffgancidaaGreatDoor
open Go.ChangeShapes Go.WideShapes Go.ChangeAt Go.RowKit
set_option maxRecDepth 100000
theorem Jf {H:Type}{enc:TypeId × Value→H}{P:Program}{w:World}{base:Nat}{sp:Nat→Bool}{held:Bool}{fuel:Nat}{t:TypeId}{ms:Array (String × TypeId)}{cs:List Value}{x:DataW H × List MemPlace}
 (ht:P.underlying t=some (.interface ms)) (h:DataW.trod enc P w base sp held fuel t cs=some x):cs=[.nilIface]∨∃ u v,cs=[.iface u v]:=by
 cases fuel with
 | zero=>simp[DataW.trod]at h
 | succ fuel =>
   unfold DataW.trod at h
   rw[ht]at h
   split at h
   all_goals first
    | exact Or.inl rfl
    | exact Or.inr ⟨_,_,rfl⟩
    | (rename_i e;injection e with e;cases e;done)
    | (rename_i e _;injection e with e;cases e;done)
    | (cases h;done)
    | simp_all
theorem Yw {W:World}{n:String}{g:Nat}{t:TypeId}{ms:Array (String × TypeId)}{d:DataW Unit}(hg:Tryz.prog.globalNamed n=some g)(ht:(Tryz.prog.globals[g]?).map (·.type)=some t)(hu:Tryz.prog.underlying t=some (.interface ms))(h:Lib.VarReads Tryz.prog W n d) :
 ∃ ev,W.cell? ⟨g,0,none⟩=some ev∧(ev=.nilIface∨∃ te pe,ev=.iface te pe):=by
 obtain ⟨g',t',cs,fuel,p,hg',ht',hv,hd⟩:=h;obtain rfl:=Option.some.inj (hg.symm.trans hg');obtain rfl:=Option.some.inj (ht.symm.trans ht');have hc:=World.var?_cell hg hv 0
 rcases Jf hu hd with e|⟨u,v,e⟩
 · have : cs[0]? = some .nilIface := by rw[←Array.getElem?_toList, e];rfl
   exact ⟨_,by rw[hc,this],Or.inl rfl⟩
 · have : cs[0]? = some (.iface u v) := by rw[←Array.getElem?_toList, e];rfl
   exact ⟨_,by rw[hc,this],Or.inr ⟨u,v,rfl⟩⟩
theorem qdO {W : World} (hS : W.ShapedOpen Tryz.prog) (h1 : Lib.VarReads Tryz.prog W "strconv.ErrSyntax" Rows.laid_strconv_ErrSyntax) (h2 : Lib.VarReads Tryz.prog W "strconv.ErrRange" Rows.laid_strconv_ErrRange) (h3 : Lib.VarReads Tryz.prog W "internal/strconv.uint64pow10" Rows.laid_internal_strconv_uint64pow10) : Xi W := by
 refine ⟨Tryz.laysM145.s1_3 W hS,?_,?_,?_⟩
 · exact Yw (g:=5) (t:=193) (by kernel_rfl) (by kernel_rfl) Tryz.underlying193 h1
 · exact Yw (g:=6) (t:=193) (by kernel_rfl) (by kernel_rfl) Tryz.underlying193 h2
 · obtain ⟨g', t', cs, fuel, p, hg', ht', hv, hd⟩ := h3;have hg : Tryz.prog.globalNamed "internal/strconv.uint64pow10" = some 7 := by kernel_rfl
   have ht:(Tryz.prog.globals[7]?).map (·.type)=some 286:=by kernel_rfl
   obtain rfl:=Option.some.inj (hg.symm.trans hg');obtain rfl:=Option.some.inj (ht.symm.trans ht');have hd':DataW.trod (fun _=>()) Tryz.prog W 0 (fun _=>true) false fuel 286 cs.toList=some (Lib.tabData .u64 Lib.pow10Tab,p):=hd
   unfold Lib.TabIs;rw[hv,←Lib.cells_of_tab Tryz.underlying286 Tryz.underlying236 (by kernel_rfl) (by kernel_rfl) hd']
end Go.Proofs.YtchkbffgancidaaGreatDoor
