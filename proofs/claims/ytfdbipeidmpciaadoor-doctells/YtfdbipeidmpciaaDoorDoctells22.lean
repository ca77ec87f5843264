/- An argument of type api.Doc opened: its nodes, with what the reach bounds. No condition. -/
import Derived.Test.YtfdbipeidmpciaaDoorFive11
import Derived.Test.YtfdbipeidmpciaaDoorDoctells14
namespace Go.Proofs.YtfdbipeidmpciaaDoor
open Go.ChangeShapes Go.WideShapes Go.ChangeAt Go.RowKit
set_option maxRecDepth 100000
section
theorem nodeCellsOf:Tryd.prog.cellsOf 90=5:=by kernel_rfl
theorem docCellsOf:Tryd.prog.cellsOf 47=1:=by kernel_rfl
theorem nodesCellsOf:Tryd.prog.cellsOf 45=1:=by kernel_rfl
theorem intsCellsOf:Tryd.prog.cellsOf 88=1:=by kernel_rfl
theorem intCellsOf:Tryd.prog.cellsOf 3=1:=by kernel_rfl
theorem intBytesOf:Tryd.prog.bytesOf 3=8:=by kernel_rfl
theorem nodeBytesOf:Tryd.prog.bytesOf 90=80:=by kernel_rfl
theorem attrBytesOf:Tryd.prog.bytesOf 69=32:=by kernel_rfl
section
variable {H : Type} {enc : TypeId × Value → H} {W : World}
theorem x8 {P:Program}{e:TypeId}{l:List (DataW H)}{d:DataW H}{y:Nat}(hd:d∈l)(hy:y∈d.weights P e):y∈DataW.weightsAll P e l:=by
 induction l with
 | nil=>simp at hd
 | cons x r ih =>
   rw[List.mem_cons]at hd
   simp only[DataW.weightsAll,List.mem_append]
   rcases hd with rfl|hd
   · exact Or.inl hy
   · exact Or.inr (ih hd)
theorem Zv {fuel:Nat}{a:Option Addr}{n c:Nat}{x:DataW H × List MemPlace}(h:DataW.trod enc Tryd.prog W 0 (fun _=>true) true fuel 22 [.slice a n c]=some x)(hw:∀ y∈x.1.weights Tryd.prog 22,y≤reachBytes):n≤4398046511104:=by
 rcases DataW.trod_slice Tryd.underlying22 h with ⟨hc,_⟩|⟨a',len,cap,elems,rest,k,_,hc,rfl,_,_,_,hlen,_,_⟩
 · simp at hc;omega
 · simp only[List.cons.injEq, and_true, Value.slice.injEq]at hc
   have:=hw ((elems.length+rest.length)*32) (by
    simp only[DataW.weights,Tryd.underlying22,attrBytesOf,List.length_map];exact List.mem_cons_self)
   unfold reachBytes at this
   omega
theorem Yt {fuel:Nat}{a:Option Addr}{n c:Nat}{x:DataW H × List MemPlace}(h:DataW.trod enc Tryd.prog W 0 (fun _=>true) true fuel 88 [.slice a n c]=some x)(hw:∀ y∈x.1.weights Tryd.prog 88,y≤reachBytes):n≤17592186044416:=by
 rcases DataW.trod_slice Tryd.underlying88 h with ⟨hc,_⟩|⟨a',len,cap,elems,rest,k,_,hc,rfl,_,_,_,hlen,_,_⟩
 · simp at hc;omega
 · simp only[List.cons.injEq, and_true, Value.slice.injEq]at hc
   have:=hw ((elems.length+rest.length)*8) (by
    simp only[DataW.weights,Tryd.underlying88,intBytesOf,List.length_map];exact List.mem_cons_self)
   unfold reachBytes at this
   omega
theorem JD {fuel:Nat}{cs:List Value}{x:DataW H × List MemPlace}(h:DataW.trod enc Tryd.prog W 0 (fun _=>true) true fuel 88 cs=some x) :
 ∃ v l,cs=[v]∧qX (fun b=>b<W.heap.size) W v l:=by
 rcases DataW.trod_slice Tryd.underlying88 h with ⟨rfl,rfl⟩|⟨a,len,cap,elems,rest,n,_,rfl,rfl,_,hlc,hm,hlen,hel,_⟩
 · exact ⟨_,[],rfl,none,0,rfl,nZ9 _,nZ9 _,fun h=>absurd rfl h⟩
 · rw[intCellsOf]at hel
   by_cases hz:len=0
   · subst hz;exact ⟨_,[],rfl,some a,cap,rfl,nZ9 _,hm,fun h=>absurd rfl h⟩
   have hspot:a.spot=none:=by
    have he:=hel 0 (by omega)
    rw[List.getElem?_eq_getElem (by omega)]at he
    simp only[Option.bind_eq_some_iff]at he
    obtain ⟨cs',h1,_⟩:=he;obtain ⟨_,hl',hcell⟩:=World.cells?_some h1;have k:=hcell 0 (by omega)
    rw[List.getElem?_eq_getElem (by omega)]at k
    simpa[Addr.add] using World.cell?_spot k
   obtain ⟨ab,ao,asp⟩:=a;simp only at hspot
   subst hspot
   have each:∀ i,i<len→∃ y:Int,W.cell? ⟨ab,ao+i,none⟩=some (.int .i64 y):=by
    intro i hi;have he:=hel i hi;rw[List.getElem?_eq_getElem (by omega)]at he
    simp only[Option.bind_eq_some_iff]at he
    obtain ⟨cs',h1,h2⟩:=he;obtain ⟨_,hl',hcell⟩:=World.cells?_some h1;rw[Addr.add_lit]at hcell
    match cs',hl' with
    | [c0], _ =>
      have k0:=hcell 0 (by omega)
      rw[Addr.add_lit]at k0
      obtain ⟨y,hc0,_⟩:=DataW.trod_int Tryd.underlying3 h2;simp only[List.cons.injEq,and_true]at hc0
      subst hc0;exact ⟨y,by simpa using k0⟩
   obtain ⟨l,hl,hp⟩:=zY len each;refine ⟨_,l,rfl,_,cap,by rw[hl],by omega,hm,fun hne=>?_⟩
   have h0:0<l.length:=List.length_pos_iff.2 hne;have k0:=hp 0 l[0] (by simp[h0])
   exact ⟨ab,ao,rfl,World.block_lt_of_cell? W _ k0,fun i x hx=>hp i x hx⟩
theorem YH {fuel:Nat}{cs:List Value}{x:DataW H × List MemPlace}(h:DataW.trod enc Tryd.prog W 0 (fun _=>true) true fuel 45 cs=some x)(hw:∀ y∈x.1.weights Tryd.prog 45,y≤reachBytes) :
 ∃ v ns,cs=[v]∧qr (fun b=>b<W.heap.size) W v ns∧(∀ x∈ns,x.attrs.length≤4398046511104)∧jW ns∧(∀ x∈ns,x.kids.length≤17592186044416)∧ns.length≤1759218604441:=by
 rcases DataW.trod_slice Tryd.underlying45 h with ⟨rfl,rfl⟩|⟨a,len,cap,elems,rest,n,_,rfl,rfl,_,hlc,hm,hlen,hel,_⟩
 · exact ⟨_,[],rfl,⟨none,0,rfl,nZ9 _,nZ9 _,fun h=>absurd rfl h⟩,by simp,by intro x hx;simp at hx,by simp,by simp⟩
 · rw[nodeCellsOf]at hel
   by_cases hz:len=0
   · subst hz;exact ⟨_,[],rfl,⟨some a,cap,rfl,nZ9 _,hm,fun h=>absurd rfl h⟩,by simp,by intro x hx;simp at hx,by simp,by simp⟩
   have hspot:a.spot=none:=by
    have he:=hel 0 (by omega)
    rw[List.getElem?_eq_getElem (by omega)]at he
    simp only[Option.bind_eq_some_iff]at he
    obtain ⟨cs',h1,_⟩:=he;obtain ⟨_,hl',hcell⟩:=World.cells?_some h1;have k:=hcell 0 (by omega)
    rw[List.getElem?_eq_getElem (by omega)]at k
    simpa[Addr.add] using World.cell?_spot k
   obtain ⟨ab,ao,asp⟩:=a;simp only at hspot
   subst hspot
   have hwe:∀ e∈elems,∀ y∈e.1.weights Tryd.prog 90,y≤reachBytes:=by
    intro e he y hy;refine hw y ?_;simp only[DataW.weights,Tryd.underlying45];exact List.mem_cons_of_mem _ (List.mem_append_left _ (x8 (List.mem_map_of_mem he) hy))
   have each:∀ i,i<len→∃ y:Nd,(∃ va vk,W.cell? ⟨ab,ao+i*5,none⟩=some (.bool y.text)∧W.cell? ⟨ab,ao+i*5+1,none⟩=some (.string y.s)∧W.cell? ⟨ab,ao+i*5+2,none⟩=some va ∧
    W.cell? ⟨ab,ao+i*5+3,none⟩=some (.int .i64 y.parent)∧W.cell? ⟨ab,ao+i*5+4,none⟩=some vk∧qe (fun b=>b<W.heap.size) W va y.attrs∧qX (fun b=>b<W.heap.size) W vk y.kids) ∧
    y.attrs.length≤4398046511104∧(y.s.size≤maxLen∧∀ z∈y.attrs,z.1.size≤maxLen∧z.2.size≤maxLen)∧y.kids.length≤17592186044416:=by
    intro i hi;have he:=hel i hi;have hmem:=hwe elems[i] (List.getElem_mem (by omega))
    rw[List.getElem?_eq_getElem (by omega)]at he
    simp only[Option.bind_eq_some_iff]at he
    obtain ⟨cs',h1,h2⟩:=he;obtain ⟨_,hl',hcell⟩:=World.cells?_some h1;rw[Addr.add_lit]at hcell
    match cs',hl' with
    | [c0, c1, c2, c3, c4], _ =>
      have k0:=hcell 0 (by omega)
      have k1:=hcell 1 (by omega)
      have k2:=hcell 2 (by omega)
      have k3:=hcell 3 (by omega)
      have k4:=hcell 4 (by omega)
      rw[Addr.add_lit]at k0 k1 k2 k3 k4
      obtain ⟨xs,k,_,hxe,_,hxl,hf⟩:=DataW.trod_struct Tryd.underlying90 h2
      match xs,hxl with
      | [y0, y1, y2, y3, y4], _ =>
        have u0:=hf 0 _ rfl;have u1:=hf 1 _ rfl;have u2:=hf 2 _ rfl;have u3:=hf 3 _ rfl;have u4:=hf 4 _ rfl;simp[boolCellsOf,strCellsOf,attrsCellsOf,intCellsOf,intsCellsOf]at u0 u1 u2 u3 u4
        obtain ⟨tx,hc0,_⟩:=DataW.trod_bool Tryd.underlying4 u0;obtain ⟨s,hc1,_,hs⟩:=DataW.trod_string Tryd.underlying9 u1;obtain ⟨va,l,hc2,hA,_,hAt⟩:=yA u2;obtain ⟨p,hc3,_⟩:=DataW.trod_int Tryd.underlying3 u3;obtain ⟨vk,ks,hc4,hK⟩:=JD u4;simp only[List.cons.injEq,and_true]at hc0 hc1 hc2 hc3 hc4
        subst hc0 hc1 hc2 hc3 hc4;obtain ⟨aa,ac,rfl⟩:=hA.shape
        have hre:=Zv u2 (fun y hy=>hmem y (by
         rw[hxe];simp only[DataW.weights,Tryd.underlying90,List.map_cons,List.map_nil,DataW.weightsEach,List.mem_append];exact Or.inr (Or.inr (Or.inl hy))))
        obtain ⟨kaa,kac,rfl,_,_⟩:=hK.shape
        have hrk:=Yt u4 (fun y hy=>hmem y (by
         rw[hxe];simp only[DataW.weights,Tryd.underlying90,List.map_cons,List.map_nil,DataW.weightsEach,List.mem_append];exact Or.inr (Or.inr (Or.inr (Or.inr (Or.inl hy))))))
        exact ⟨⟨tx,s,l,p,ks⟩,⟨_,_,by simpa using k0,by simpa using k1,by simpa using k2,by simpa using k3,by simpa using k4,hA,hK⟩,hre,⟨hs,hAt⟩,hrk⟩
   obtain ⟨l,hl,hp⟩:=zY len each;refine ⟨_,l,rfl,⟨_,cap,by rw[hl],by omega,hm,fun hne=>?_⟩,?_,?_,?_,?_⟩
   · have h0 : 0 < l.length := List.length_pos_iff.2 hne;obtain ⟨⟨_,_,k0,_⟩,_⟩:=hp 0 l[0] (by simp[h0])
     exact ⟨ab,ao,rfl,World.block_lt_of_cell? W _ k0,fun i x hx=>(hp i x hx).1⟩
   · intro y hy;obtain ⟨i,hi⟩:=List.mem_iff_getElem?.1 hy;exact (hp i y hi).2.1
   · intro y hy;obtain ⟨i,hi⟩:=List.mem_iff_getElem?.1 hy;exact (hp i y hi).2.2.1
   · intro y hy;obtain ⟨i,hi⟩:=List.mem_iff_getElem?.1 hy;exact (hp i y hi).2.2.2
   · have:=hw ((elems.length+rest.length)*80) (by
      simp only[DataW.weights,Tryd.underlying45,nodeBytesOf,List.length_map];exact List.mem_cons_self)
     unfold reachBytes at this
     omega
theorem JC {fuel:Nat}{cs:List Value}{x:DataW H × List MemPlace}(hl:cs.length=1)(h:DataW.trod enc Tryd.prog W 0 (fun _=>true) true fuel 47 cs=some x)(hw:∀ y∈x.1.weights Tryd.prog 47,y≤reachBytes) :
 ∃ v ns,cs=[v]∧zl (fun b=>b<W.heap.size) W v ns∧(∀ x∈ns,x.kids.length≤17592186044416)∧ns.length≤1759218604441:=by
 match cs,hl with
 | [c0], _ =>
   obtain ⟨y0,k,hx,_,u0⟩:=trod_struct1 Tryd.underlying47 h;simp[nodesCellsOf]at u0
   obtain ⟨v,ns,hc,hN,hf,ht,hk,hn⟩:=YH u0 (fun y hy=>hw y (by
    rw[hx];simp only[DataW.weights,Tryd.underlying47,List.map_cons,List.map_nil,DataW.weightsEach,List.mem_append];exact Or.inl hy))
   exact ⟨v,ns,hc,⟨hN,fun b hb=>hb,hf,ht⟩,hk,hn⟩
end
end
end Go.Proofs.YtfdbipeidmpciaaDoor
