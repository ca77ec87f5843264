/- What the variable marks holds, out of a row's list of laid variables; a world in which the listed variables lie. No condition. -/
import Derived.Test.YtfdbipeidmpciaaDoorMarkonce24
import Derived.Deep.DeepHandedRow
namespace Go.Proofs.YtfdbipeidmpciaaDoor
open Go.ChangeShapes Go.WideShapes Go.ChangeAt Go.RowKit
set_option maxRecDepth 100000
theorem Qc {H:Type}{enc:TypeId × Value→H}{P:Program}{w:World}{base:Nat}{sp:Nat→Bool}{held:Bool}{fuel:Nat}{t e:TypeId}{n:Nat}{cs:List Value}{zs:List (List UInt8)}{p:List MemPlace}
 (ht:P.underlying t=some (.array n e)) (he:P.underlying e=some .string) (hce:P.cellsOf e=1) (hct:P.cellsOf t=n)
 (h:DataW.trod enc P w base sp held fuel t cs=some (.agg (zs.map fun z=>.lit (.string z)),p)):cs=zs.map fun z=>Value.string ⟨z.toArray⟩:=by
 cases fuel with
 | zero=>simp[DataW.trod]at h
 | succ fuel =>
   simp only[DataW.trod,ht,hce,hct,Nat.mul_one]at h
   split at h
   · rename_i hl
     obtain ⟨xs,hm,hx⟩:=Option.map_eq_some_iff.1 h
     have hxs:xs.map (·.1)=zs.map fun z=>(DataW.lit (.string z):DataW H):=by
      have:=congrArg Prod.fst hx
      simpa using this
     have hxl:xs.length=n:=by simpa using Lib.mapM_length hm
     have hzl:zs.length=n:=by
      have:=congrArg List.length hxs;simp at this
      omega
     apply List.ext_getElem?
     intro i
     by_cases hi:i<n
     · obtain ⟨b, hb, hf⟩ := Lib.mapM_at hm i i (by simp[hi])
       obtain ⟨z,hc,rfl,_⟩:=DataW.trod_string he hf
       have h1:cs[i]?=some (.string z):=by
        have:=congrArg (·[0]?) hc
        simpa[List.getElem?_take,List.getElem?_drop] using this
       have h2:(xs.map (·.1))[i]?=some (DataW.lit (.string z.data.toList):DataW H):=by simp[hb]
       rw[hxs]at h2
       simp only[List.getElem?_map,Option.map_eq_some_iff,DataW.lit.injEq,Lit.string.injEq]at h2
       obtain ⟨z',hz',rfl⟩:=h2;rw[h1,List.getElem?_map,hz'];rfl
     · rw[List.getElem?_eq_none (by omega),List.getElem?_eq_none (by simp;omega)]
   · cases h
theorem yx {W : World} {g : Nat} {t : TypeId} {cs : Array Value} {fuel : Nat} {p : List MemPlace} (hg : Tryd.prog.globalNamed "topiary/mark.marks" = some g) (ht : (Tryd.prog.globals[g]?).map (·.type) = some t) (hv : W.var? Tryd.prog "topiary/mark.marks" = some cs)
 (hd:DataW.trod (fun _=>()) Tryd.prog W 0 (fun _=>true) false fuel t cs.toList=some (Rows.laid_topiary_mark_marks,p)):qx W:=by
 have hg2 : Tryd.prog.globalNamed "topiary/mark.marks" = some 0 := by kernel_rfl
 have ht2:(Tryd.prog.globals[0]?).map (·.type)=some 172:=by kernel_rfl
 obtain rfl:=Option.some.inj (hg2.symm.trans hg);obtain rfl:=Option.some.inj (ht2.symm.trans ht);have hcs:=Qc (zs:=[[38,108,116,59],[38,103,116,59],[38,97,109,112,59],[38,113,117,111,116,59]]) Tryd.underlying172 Tryd.underlying9 (by kernel_rfl) (by kernel_rfl) hd
 have hc:∀ i,W.cell? ⟨0,i,none⟩=cs.toList[i]?:=fun i=>by
  have:=World.var?_cell hg2 hv i;rw[this];simp
 refine ⟨?_,?_,?_,?_⟩
 · rw[hc 0,hcs];rfl
 · rw[hc 1,hcs];rfl
 · rw[hc 2,hcs];rfl
 · rw[hc 3,hcs];rfl
def litValsM:DataW Unit→List Value
 | .lit (.int k n)=>[.int k n]
 | .lit (.string l)=>[.string ⟨l.toArray⟩]
 | _=>[]
def flatValsM:DataW Unit→List Value
 | .agg l => l.flatMap fun d => match d with
   | .agg m=>m.flatMap litValsM
   | d=>litValsM d
 | _=>[]
def j0 (vs:List Value):Obj→Obj
 | .cells _ t frozen=>.cells vs.toArray t frozen
 | o=>o
noncomputable def qZ (os:Os):World :=
 { World.holding Tryd.prog os ⟨#[],#[],[]⟩ with heap:=(((World.holding Tryd.prog os ⟨#[],#[],[]⟩).heap.modify 1 (j0 (flatValsM Rows.laid_unicode_utf8_first))).modify 2 (j0 (flatValsM Rows.laid_unicode_utf8_acceptRanges))).modify 0 (j0 (flatValsM Rows.laid_topiary_mark_marks)) }
end Go.Proofs.YtfdbipeidmpciaaDoor
