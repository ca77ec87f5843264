/- Bundled: OpenA MarkBk. What each says stands ahead of it. -/
import Derived.Test.YtchkbffgancidaaGreatDoorBundle39
import Derived.Test.YtchkbffgancidaaGreatDoorBundle42
namespace Go.Proofs.YtchkbffgancidaaGreatDoor
open Go.ChangeShapes Go.WideShapes Go.ChangeAt Go.RowKit
set_option maxRecDepth 100000
section
theorem actCellsOfA:Tryz.prog.cellsOf 32=2:=by kernel_rfl
theorem strsCellsOf:Tryz.prog.cellsOf 30=1:=by kernel_rfl
theorem strCellsOfA:Tryz.prog.cellsOf 9=1:=by kernel_rfl
theorem intCellsOfA:Tryz.prog.cellsOf 3=1:=by kernel_rfl
section
variable {H : Type} {enc : TypeId × Value → H} {W : World}
theorem qbg {fuel:Nat}{cs:List Value}{x:DataW H × List MemPlace}(h:DataW.trod enc Tryz.prog W 0 (fun _=>true) true fuel 30 cs=some x) :
 ∃ v l,cs=[v]∧Strs (fun b=>b<W.heap.size) W v l∧∀ s∈l,s.size≤maxLen:=by
 rcases DataW.trod_slice Tryz.underlying30 h with ⟨rfl,rfl⟩|⟨a,len,cap,elems,rest,n,_,rfl,rfl,_,hlc,hm,hlen,hel,_⟩
 · exact ⟨_,[],rfl,⟨none,0,rfl,nZ9 _,nZ9 _,fun h=>absurd rfl h⟩,by intro s hs;cases hs⟩
 · rw[strCellsOfA]at hel
   by_cases hz:len=0
   · subst hz;exact ⟨_,[],rfl,⟨some a,cap,rfl,nZ9 _,hm,fun h=>absurd rfl h⟩,by intro s hs;cases hs⟩
   have hspot:a.spot=none:=by
    have he:=hel 0 (by omega)
    rw[List.getElem?_eq_getElem (by omega)]at he
    simp only[Option.bind_eq_some_iff]at he
    obtain ⟨cs',h1,_⟩:=he;obtain ⟨_,hl',hcell⟩:=World.cells?_some h1;have k:=hcell 0 (by omega)
    rw[List.getElem?_eq_getElem (by omega)]at k
    simpa[Addr.add] using World.cell?_spot k
   obtain ⟨ab,ao,asp⟩:=a;simp only at hspot
   subst hspot
   have each:∀ i,i<len→∃ y:ByteArray,W.cell? ⟨ab,ao+i,none⟩=some (.string y)∧y.size≤maxLen:=by
    intro i hi;have he:=hel i hi;rw[List.getElem?_eq_getElem (by omega)]at he
    simp only[Option.bind_eq_some_iff]at he
    obtain ⟨cs',h1,h2⟩:=he;obtain ⟨_,hl',hcell⟩:=World.cells?_some h1;rw[Addr.add_lit]at hcell
    match cs',hl' with
    | [c0], _ =>
      have k0:=hcell 0 (by omega)
      rw[Addr.add_lit]at k0
      obtain ⟨y,hc0,_,hsz⟩:=DataW.trod_string Tryz.underlying9 h2;simp only[List.cons.injEq,and_true]at hc0
      subst hc0;exact ⟨y,by simpa using k0,hsz⟩
   obtain ⟨l,hl,hp⟩:=ZU len each;refine ⟨_,l,rfl,⟨_,cap,by rw[hl],by omega,hm,fun hne=>?_⟩,fun s hs=>?_⟩
   · have h0 : 0 < l.length := List.length_pos_iff.2 hne;have k0:=(hp 0 l[0] (by simp[h0])).1
     exact ⟨ab,ao,rfl,World.block_lt_of_cell? W _ k0,fun i x hx=>(hp i x hx).1⟩
   · obtain ⟨i, hi⟩ := List.mem_iff_getElem?.1 hs;exact (hp i s hi).2
theorem qcC {fuel:Nat}{cs:List Value}{x:DataW H × List MemPlace}(hl:cs.length=2)(h:DataW.trod enc Tryz.prog W 0 (fun _=>true) true fuel 32 cs=some x) :
 ∃ (a:Ac) (vs:Value),cs=[.int .i64 a.kind,vs]∧Strs (fun b=>b<W.heap.size) W vs a.lines∧∀ s∈a.lines,s.size≤maxLen:=by
 match cs,hl with
 | [c0, c1], _ =>
   obtain ⟨xs,k,hnk,hxe,_,hxl,hf⟩:=DataW.trod_struct Tryz.underlying32 h
   match xs,hxl with
   | [y0, y1], _ =>
     have u0:=hf 0 _ rfl;have u1:=hf 1 _ rfl;simp[strsCellsOf,intCellsOfA]at u0 u1
     obtain ⟨kd,hc0,_⟩:=DataW.trod_int Tryz.underlying3 u0;obtain ⟨vs,l,hc1,hS,hz⟩:=qbg u1;simp only[List.cons.injEq,and_true]at hc0 hc1
     subst hc0 hc1;exact ⟨⟨kd,l⟩,_,rfl,hS,hz⟩
theorem qbf {fuel:Nat}{cs:List Value}{x:DataW H × List MemPlace}(h:DataW.trod enc Tryz.prog W 0 (fun _=>true) true fuel 22 cs=some x) :
 ∃ v l,cs=[v]∧Zq (fun b=>b<W.heap.size) W v l∧Xj l:=by
 rcases DataW.trod_slice Tryz.underlying22 h with ⟨rfl,rfl⟩|⟨a,len,cap,elems,rest,n,_,rfl,rfl,_,hlc,hm,hlen,hel,_⟩
 · exact ⟨_,[],rfl,⟨none,0,rfl,nZ9 _,nZ9 _,fun h=>absurd rfl h⟩,by intro s hs;cases hs⟩
 · rw[actCellsOfA]at hel
   by_cases hz:len=0
   · subst hz;exact ⟨_,[],rfl,⟨some a,cap,rfl,nZ9 _,hm,fun h=>absurd rfl h⟩,by intro s hs;cases hs⟩
   have hspot:a.spot=none:=by
    have he:=hel 0 (by omega)
    rw[List.getElem?_eq_getElem (by omega)]at he
    simp only[Option.bind_eq_some_iff]at he
    obtain ⟨cs',h1,_⟩:=he;obtain ⟨_,hl',hcell⟩:=World.cells?_some h1;have k:=hcell 0 (by omega)
    rw[List.getElem?_eq_getElem (by omega)]at k
    simpa[Addr.add] using World.cell?_spot k
   obtain ⟨ab,ao,asp⟩:=a;simp only at hspot
   subst hspot
   have each:∀ i,i<len→∃ y:Ac,(∃ vs,W.cell? ⟨ab,ao+i*2,none⟩=some (.int .i64 y.kind)∧W.cell? ⟨ab,ao+i*2+1,none⟩=some vs∧Strs (fun b=>b<W.heap.size) W vs y.lines)∧∀ s∈y.lines,s.size≤maxLen:=by
    intro i hi;have he:=hel i hi;rw[List.getElem?_eq_getElem (by omega)]at he
    simp only[Option.bind_eq_some_iff]at he
    obtain ⟨cs',h1,h2⟩:=he;obtain ⟨_,hl',hcell⟩:=World.cells?_some h1;rw[Addr.add_lit]at hcell
    obtain ⟨y,vs,hcs,hS,hz⟩:=qcC hl' h2;subst hcs;have k0:=hcell 0 (by omega)
    have k1:=hcell 1 (by omega)
    rw[Addr.add_lit]at k0 k1
    exact ⟨y,⟨vs,by simpa using k0,by simpa using k1,hS⟩,hz⟩
   obtain ⟨l,hl,hp⟩:=ZU len each;refine ⟨_,l,rfl,⟨_,cap,by rw[hl],by omega,hm,fun hne=>?_⟩,fun y hy=>?_⟩
   · have h0 : 0 < l.length := List.length_pos_iff.2 hne;obtain ⟨⟨_,k0,_⟩,_⟩:=hp 0 l[0] (by simp[h0])
     exact ⟨ab,ao,rfl,World.block_lt_of_cell? W _ k0,fun i x hx=>(hp i x hx).1⟩
   · obtain ⟨i, hi⟩ := List.mem_iff_getElem?.1 hy;exact (hp i y hi).2
end
end
section
attribute [local go_sem] qd
end
end Go.Proofs.YtchkbffgancidaaGreatDoor
