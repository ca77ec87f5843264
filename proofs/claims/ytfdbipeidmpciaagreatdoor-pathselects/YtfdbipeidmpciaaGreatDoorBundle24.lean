/- Bundled: CutML PathL. What each says stands ahead of it. -/
import Derived.Shelf.Strings.Shaped
import Derived.Test.YtfdbipeidmpciaaGreatDoorBundle20
import Derived.Test.YtfdbipeidmpciaaGreatDoorRows
import Derived.Deep.DeepHandedRow
import Derived.Lib.LaidU8
import Derived.Stop.LaidErr
import Derived.Lay
/-
  DERIVED: THE SHELF's CONTRACTS AT THIS DUMP, IN PLAIN WORDS (tools/lay-plain.mjs out of 'YtfdbipeidmpciaaGreatDoorCutML.lean', which tools/lay-shelf.mjs wrote): THE SAME DECLARATIONS UNDER THE SAME NAMES: 'import', 'namespace', 'open', 'def', 'theorem' AND NOTHING ELSE: no command of the shelf's: FOR A HAND-IN. Each laying: the table of numbers ('.._ren') and one theorem, a field a fact of the dump's own or the kernel's comparison; each contract: ONE APPLICATION.
-/
namespace Go.Proofs
open Go.Shelf
def Tryz.laysM145_ren:Go.Shelf.Ren:=⟨fun|145=>45|220=>58|219=>70|217=>82|225=>81|224=>80|267=>83|266=>91|314=>92|n=>n,fun|9=>9|4=>4|59=>83|3=>3|5=>5|46=>109|146=>123|51=>122|n=>n,fun|1=>2|n=>n⟩
theorem Tryz.laysM145:Go.Proofs.LaysM.n145 Tryz.prog Tryz.laysM145_ren:={
 mixed:=by kernel_rfl
 f145:=Tryz.func45.trans (congrArg some (by kernel_rfl))
 f217:=Tryz.func82.trans (congrArg some (by kernel_rfl))
 f219:=Tryz.func70.trans (congrArg some (by kernel_rfl))
 f220:=Tryz.func58.trans (congrArg some (by kernel_rfl))
 f224:=Tryz.func80.trans (congrArg some (by kernel_rfl))
 f225:=Tryz.func81.trans (congrArg some (by kernel_rfl))
 f266:=Tryz.func91.trans (congrArg some (by kernel_rfl))
 f267:=Tryz.func83.trans (congrArg some (by kernel_rfl))
 f314:=Tryz.func92.trans (congrArg some (by kernel_rfl))
 t3:=Tryz.underlying3
 a3:=Tryz.isAgg3
 z3:=Tryz.sizeOf3
 v3:=Tryz.zeroValue3
 t4:=Tryz.underlying4
 a4:=Tryz.isAgg4
 z4:=Tryz.sizeOf4
 v4:=Tryz.zeroValue4
 t5:=Tryz.underlying5
 a5:=Tryz.isAgg5
 z5:=Tryz.sizeOf5
 v5:=Tryz.zeroValue5
 t9:=Tryz.underlying9
 a9:=Tryz.isAgg9
 z9:=Tryz.sizeOf9
 v9:=Tryz.zeroValue9
 t46:=Tryz.underlying109
 a46:=Tryz.isAgg109
 z46:=Tryz.sizeOf109
 v46:=Tryz.zeroValue109
 t51:=Tryz.underlying122
 a51:=Tryz.isAgg122
 z51:=Tryz.sizeOf122
 v51:=Tryz.zeroValue122
 t59:=Tryz.underlying83
 a59:=Tryz.isAgg83
 z59:=Tryz.sizeOf83
 v59:=Tryz.zeroValue83
 t146:=Tryz.underlying123
 a146:=Tryz.isAgg123
 z146:=Tryz.sizeOf123
 v146:=Tryz.zeroValue123
 g1:=by kernel_rfl
 i3:=by kernel_rfl
 i4:=by kernel_rfl
 i5:=by kernel_rfl
 i9:=by kernel_rfl
 i46:=by kernel_rfl
 i51:=by kernel_rfl
 i59:=by kernel_rfl
 i146:=by kernel_rfl
 m1:=by kernel_rfl
 s1_3:=fun w h=>Go.Proofs.cell_of_shapedOpen_int (zero:=#[.int .i64 0]) (t:=3) h (of_decide_eq_true (by kernel_rfl)) (by kernel_rfl) rfl (by kernel_rfl) (by kernel_rfl) Tryz.underlying3 }
end Go.Proofs
namespace Go.Proofs.YtfdbipeidmpciaaGreatDoor
open Go.ChangeShapes Go.WideShapes Go.ChangeAt Go.RowKit
set_option maxRecDepth 100000
theorem jo {H:Type}{enc:TypeId × Value→H}{P:Program}{w:World}{base:Nat}{sp:Nat→Bool}{held:Bool}{fuel:Nat}{t:TypeId}{ms:Array (String × TypeId)}{cs:List Value}{x:DataW H × List MemPlace}
 (ht:P.underlying t=some (.interface ms)) (h:DataW.trod enc P w base sp held fuel t cs=some x):cs=[.nilIface]∨∃ u v,cs=[.iface u v]:=by
 cases fuel with
 | zero=>simp[DataW.trod]at h
 | succ fuel =>
   unfold DataW.trod at h
   rw[ht]at h
   split at h
   all_goals first
    | exact Or.inl rfl
    | exact Or.inr ⟨_,_,rfl⟩
    | (rename_i e;injection e with e;cases e;done)
    | (rename_i e _;injection e with e;cases e;done)
    | (cases h;done)
    | simp_all
theorem yZ {W:World}{n:String}{g:Nat}{t:TypeId}{ms:Array (String × TypeId)}{d:DataW Unit}(hg:Tryz.prog.globalNamed n=some g)(ht:(Tryz.prog.globals[g]?).map (·.type)=some t)(hu:Tryz.prog.underlying t=some (.interface ms))(h:Lib.VarReads Tryz.prog W n d) :
 ∃ ev,W.cell? ⟨g,0,none⟩=some ev∧(ev=.nilIface∨∃ te pe,ev=.iface te pe):=by
 obtain ⟨g',t',cs,fuel,p,hg',ht',hv,hd⟩:=h;obtain rfl:=Option.some.inj (hg.symm.trans hg');obtain rfl:=Option.some.inj (ht.symm.trans ht');have hc:=World.var?_cell hg hv 0
 rcases jo hu hd with e|⟨u,v,e⟩
 · have : cs[0]? = some .nilIface := by rw[←Array.getElem?_toList, e];rfl
   exact ⟨_,by rw[hc,this],Or.inl rfl⟩
 · have : cs[0]? = some (.iface u v) := by rw[←Array.getElem?_toList, e];rfl
   exact ⟨_,by rw[hc,this],Or.inr ⟨u,v,rfl⟩⟩
theorem Zw {W : World} (hS : W.ShapedOpen Tryz.prog) (h1 : Lib.VarReads Tryz.prog W "strconv.ErrSyntax" Rows.laid_strconv_ErrSyntax) (h2 : Lib.VarReads Tryz.prog W "strconv.ErrRange" Rows.laid_strconv_ErrRange) (h3 : Lib.VarReads Tryz.prog W "internal/strconv.uint64pow10" Rows.laid_internal_strconv_uint64pow10) : yy W := by
 refine ⟨Tryz.laysM145.s1_3 W hS,?_,?_,?_⟩
 · exact yZ (g:=3) (t:=98) (by kernel_rfl) (by kernel_rfl) Tryz.underlying98 h1
 · exact yZ (g:=4) (t:=98) (by kernel_rfl) (by kernel_rfl) Tryz.underlying98 h2
 · obtain ⟨g', t', cs, fuel, p, hg', ht', hv, hd⟩ := h3;have hg : Tryz.prog.globalNamed "internal/strconv.uint64pow10" = some 5 := by kernel_rfl
   have ht:(Tryz.prog.globals[5]?).map (·.type)=some 143:=by kernel_rfl
   obtain rfl:=Option.some.inj (hg.symm.trans hg');obtain rfl:=Option.some.inj (ht.symm.trans ht');have hd':DataW.trod (fun _=>()) Tryz.prog W 0 (fun _=>true) false fuel 143 cs.toList=some (Lib.tabData .u64 Lib.pow10Tab,p):=hd
   unfold Lib.TabIs;rw[hv,←Lib.cells_of_tab Tryz.underlying143 Tryz.underlying125 (by kernel_rfl) (by kernel_rfl) hd']
end Go.Proofs.YtfdbipeidmpciaaGreatDoor
