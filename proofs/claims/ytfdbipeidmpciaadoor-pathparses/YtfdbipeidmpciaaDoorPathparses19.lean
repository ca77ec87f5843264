/- Bundled: CutML PathL. What each says stands ahead of it. -/
import Derived.Shelf.Strings.Shaped
import Derived.Test.YtfdbipeidmpciaaDoorPathparses17
import Derived.Test.YtfdbipeidmpciaaDoorRows
import Derived.Deep.DeepHandedRow
import Derived.Lib.LaidU8
import Derived.Stop.LaidErr
import Derived.Lay
/-
  DERIVED: THE SHELF's CONTRACTS AT THIS DUMP, IN PLAIN WORDS (tools/lay-plain.mjs out of 'YtfdbipeidmpciaaDoorCutML.lean', which tools/lay-shelf.mjs wrote): THE SAME DECLARATIONS UNDER THE SAME NAMES: 'import', 'namespace', 'open', 'def', 'theorem' AND NOTHING ELSE: no command of the shelf's: FOR A HAND-IN. Each laying: the table of numbers ('.._ren') and one theorem, a field a fact of the dump's own or the kernel's comparison; each contract: ONE APPLICATION.
-/
namespace Go.Proofs
open Go.Shelf
def Tryd.laysM145_ren:Go.Shelf.Ren:=⟨fun|145=>106|220=>137|219=>157|217=>165|225=>164|224=>163|267=>178|266=>186|314=>192|n=>n,fun|9=>9|4=>4|59=>142|3=>3|5=>5|46=>176|146=>209|51=>194|n=>n,fun|1=>3|n=>n⟩
theorem Tryd.laysM145:Go.Proofs.LaysM.n145 Tryd.prog Tryd.laysM145_ren:={
 mixed:=by kernel_rfl
 f145:=Tryd.func106.trans (congrArg some (by kernel_rfl))
 f217:=Tryd.func165.trans (congrArg some (by kernel_rfl))
 f219:=Tryd.func157.trans (congrArg some (by kernel_rfl))
 f220:=Tryd.func137.trans (congrArg some (by kernel_rfl))
 f224:=Tryd.func163.trans (congrArg some (by kernel_rfl))
 f225:=Tryd.func164.trans (congrArg some (by kernel_rfl))
 f266:=Tryd.func186.trans (congrArg some (by kernel_rfl))
 f267:=Tryd.func178.trans (congrArg some (by kernel_rfl))
 f314:=Tryd.func192.trans (congrArg some (by kernel_rfl))
 t3:=Tryd.underlying3
 a3:=Tryd.isAgg3
 z3:=Tryd.sizeOf3
 v3:=Tryd.zeroValue3
 t4:=Tryd.underlying4
 a4:=Tryd.isAgg4
 z4:=Tryd.sizeOf4
 v4:=Tryd.zeroValue4
 t5:=Tryd.underlying5
 a5:=Tryd.isAgg5
 z5:=Tryd.sizeOf5
 v5:=Tryd.zeroValue5
 t9:=Tryd.underlying9
 a9:=Tryd.isAgg9
 z9:=Tryd.sizeOf9
 v9:=Tryd.zeroValue9
 t46:=Tryd.underlying176
 a46:=Tryd.isAgg176
 z46:=Tryd.sizeOf176
 v46:=Tryd.zeroValue176
 t51:=Tryd.underlying194
 a51:=Tryd.isAgg194
 z51:=Tryd.sizeOf194
 v51:=Tryd.zeroValue194
 t59:=Tryd.underlying142
 a59:=Tryd.isAgg142
 z59:=Tryd.sizeOf142
 v59:=Tryd.zeroValue142
 t146:=Tryd.underlying209
 a146:=Tryd.isAgg209
 z146:=Tryd.sizeOf209
 v146:=Tryd.zeroValue209
 g1:=by kernel_rfl
 i3:=by kernel_rfl
 i4:=by kernel_rfl
 i5:=by kernel_rfl
 i9:=by kernel_rfl
 i46:=by kernel_rfl
 i51:=by kernel_rfl
 i59:=by kernel_rfl
 i146:=by kernel_rfl
 m1:=by kernel_rfl
 s1_3:=fun w h=>Go.Proofs.cell_of_shapedOpen_int (zero:=#[.int .i64 0]) (t:=3) h (of_decide_eq_true (by kernel_rfl)) (by kernel_rfl) rfl (by kernel_rfl) (by kernel_rfl) Tryd.underlying3 }
end Go.Proofs
namespace Go.Proofs.YtfdbipeidmpciaaDoor
open Go.ChangeShapes Go.WideShapes Go.ChangeAt Go.RowKit
set_option maxRecDepth 100000
theorem ZP {H:Type}{enc:TypeId × Value→H}{P:Program}{w:World}{base:Nat}{sp:Nat→Bool}{held:Bool}{fuel:Nat}{t:TypeId}{ms:Array (String × TypeId)}{cs:List Value}{x:DataW H × List MemPlace}
 (ht:P.underlying t=some (.interface ms)) (h:DataW.trod enc P w base sp held fuel t cs=some x):cs=[.nilIface]∨∃ u v,cs=[.iface u v]:=by
 cases fuel with
 | zero=>simp[DataW.trod]at h
 | succ fuel =>
   unfold DataW.trod at h
   rw[ht]at h
   split at h
   all_goals first
    | exact Or.inl rfl
    | exact Or.inr ⟨_,_,rfl⟩
    | (rename_i e;injection e with e;cases e;done)
    | (rename_i e _;injection e with e;cases e;done)
    | (cases h;done)
    | simp_all
theorem Ze {W:World}{n:String}{g:Nat}{t:TypeId}{ms:Array (String × TypeId)}{d:DataW Unit}(hg:Tryd.prog.globalNamed n=some g)(ht:(Tryd.prog.globals[g]?).map (·.type)=some t)(hu:Tryd.prog.underlying t=some (.interface ms))(h:Lib.VarReads Tryd.prog W n d) :
 ∃ ev,W.cell? ⟨g,0,none⟩=some ev∧(ev=.nilIface∨∃ te pe,ev=.iface te pe):=by
 obtain ⟨g',t',cs,fuel,p,hg',ht',hv,hd⟩:=h;obtain rfl:=Option.some.inj (hg.symm.trans hg');obtain rfl:=Option.some.inj (ht.symm.trans ht');have hc:=World.var?_cell hg hv 0
 rcases ZP hu hd with e|⟨u,v,e⟩
 · have : cs[0]? = some .nilIface := by rw[←Array.getElem?_toList, e];rfl
   exact ⟨_,by rw[hc,this],Or.inl rfl⟩
 · have : cs[0]? = some (.iface u v) := by rw[←Array.getElem?_toList, e];rfl
   exact ⟨_,by rw[hc,this],Or.inr ⟨u,v,rfl⟩⟩
theorem qbC {W : World} (hS : W.ShapedOpen Tryd.prog) (h1 : Lib.VarReads Tryd.prog W "strconv.ErrSyntax" Rows.laid_strconv_ErrSyntax) (h2 : Lib.VarReads Tryd.prog W "strconv.ErrRange" Rows.laid_strconv_ErrRange) (h3 : Lib.VarReads Tryd.prog W "internal/strconv.uint64pow10" Rows.laid_internal_strconv_uint64pow10) : QN W := by
 refine ⟨Tryd.laysM145.s1_3 W hS,?_,?_,?_⟩
 · exact Ze (g:=4) (t:=101) (by kernel_rfl) (by kernel_rfl) Tryd.underlying101 h1
 · exact Ze (g:=5) (t:=101) (by kernel_rfl) (by kernel_rfl) Tryd.underlying101 h2
 · obtain ⟨g', t', cs, fuel, p, hg', ht', hv, hd⟩ := h3;have hg : Tryd.prog.globalNamed "internal/strconv.uint64pow10" = some 6 := by kernel_rfl
   have ht:(Tryd.prog.globals[6]?).map (·.type)=some 227:=by kernel_rfl
   obtain rfl:=Option.some.inj (hg.symm.trans hg');obtain rfl:=Option.some.inj (ht.symm.trans ht');have hd':DataW.trod (fun _=>()) Tryd.prog W 0 (fun _=>true) false fuel 227 cs.toList=some (Lib.tabData .u64 Lib.pow10Tab,p):=hd
   unfold Lib.TabIs;rw[hv,←Lib.cells_of_tab Tryd.underlying227 Tryd.underlying196 (by kernel_rfl) (by kernel_rfl) hd']
end Go.Proofs.YtfdbipeidmpciaaDoor
