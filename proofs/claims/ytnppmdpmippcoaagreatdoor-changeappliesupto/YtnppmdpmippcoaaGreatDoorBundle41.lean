/- Bundled: OpenO OpenB. What each says stands ahead of it. -/
import Derived.Test.YtnppmdpmippcoaaGreatDoorBundle39
import Derived.Test.YtnppmdpmippcoaaGreatDoorBundle40
import Derived.Test.YtnppmdpmippcoaaGreatDoorBundle21
namespace Go.Proofs.YtnppmdpmippcoaaGreatDoor
open Go.ChangeShapes Go.WideShapes Go.ChangeAt Go.RowKit
set_option maxRecDepth 100000
section
theorem opCellsOf:Tryz.prog.cellsOf 30=5:=by kernel_rfl
section
variable {H : Type} {enc : TypeId × Value → H} {W : World}
end
end
section
section
variable {H : Type} {enc : TypeId × Value → H} {W : World}
theorem Va {fuel:Nat}{cs:List Value}{x:DataW H × List MemPlace}(h:DataW.trod enc Tryz.prog W 0 (fun _=>true) true fuel 25 cs=some x) :
 ∃ v l,cs=[v]∧Ops (fun b=>b<W.heap.size) W (fuel+1) v l∧(∀ y∈l,wt (fuel+1) y.content≤Rows.uptoBulk x.1∧y.name.size≤maxLen∧y.s.size≤maxLen)∧l.length≤Rows.uptoBulk x.1:=by
 rcases DataW.trod_slice Tryz.underlying25 h with ⟨rfl,rfl⟩|⟨a,len,cap,elems,rest,n,rfl,rfl,rfl,_,hlc,hm,hlen,hel,_⟩
 · exact ⟨_,[],rfl,⟨none,0,rfl,nZ9 _,nZ9 _,fun h=>absurd rfl h⟩,(by intro s hs;cases hs),nZ9 _⟩
 · rw[opCellsOf]at hel
   by_cases hz:len=0
   · subst hz;exact ⟨_,[],rfl,⟨some a,cap,rfl,nZ9 _,hm,fun h=>absurd rfl h⟩,(by intro s hs;cases hs),nZ9 _⟩
   have hspot:a.spot=none:=by
    have he:=hel 0 (by omega)
    rw[List.getElem?_eq_getElem (by omega)]at he
    simp only[Option.bind_eq_some_iff]at he
    obtain ⟨cs',h1,_⟩:=he;obtain ⟨_,hl',hcell⟩:=World.cells?_some h1;have k:=hcell 0 (by omega)
    rw[List.getElem?_eq_getElem (by omega)]at k
    simpa[Addr.add] using World.cell?_spot k
   obtain ⟨ab,ao,asp⟩:=a;simp only at hspot
   subst hspot
   have each:∀ i,i<len→∃ y:Opn,(∃ ca cc,W.cell? ⟨ab,ao+i*5,none⟩=some (.int .i64 y.kind)∧W.cell? ⟨ab,ao+i*5+1,none⟩=some (.int .i64 y.target)∧W.cell? ⟨ab,ao+i*5+2,none⟩=some (.slice ca y.content.length cc) ∧
    W.cell? ⟨ab,ao+i*5+3,none⟩=some (.string y.name)∧W.cell? ⟨ab,ao+i*5+4,none⟩=some (.string y.s)∧qw (fun b=>b<W.heap.size) W n (.slice ca y.content.length cc) y.content) ∧
    (∀ e,elems[i]?=some e→wt n y.content+1≤Rows.uptoBulk e.1)∧y.name.size≤maxLen∧y.s.size≤maxLen:=by
    intro i hi;have he:=hel i hi;rw[List.getElem?_eq_getElem (by omega)]at he
    simp only[Option.bind_eq_some_iff]at he
    obtain ⟨cs',h1,h2⟩:=he;obtain ⟨_,hl',hcell⟩:=World.cells?_some h1;rw[Addr.add_lit]at hcell
    match cs',hl' with
    | [c0, c1, c2, c3, c4], _ =>
      have k0:=hcell 0 (by omega)
      have k1:=hcell 1 (by omega)
      have k2:=hcell 2 (by omega)
      have k3:=hcell 3 (by omega)
      have k4:=hcell 4 (by omega)
      rw[Addr.add_lit]at k0 k1 k2 k3 k4
      obtain ⟨xs,k,hnk,hxe,_,hxl,hf⟩:=DataW.trod_struct Tryz.underlying30 h2
      match xs,hxl with
      | [y0, y1, y2, y3, y4], _ =>
        have u0:=hf 0 _ rfl;have u1:=hf 1 _ rfl;have u2:=hf 2 _ rfl;have u3:=hf 3 _ rfl;have u4:=hf 4 _ rfl;simp[strCellsOf,treesCellsOf,intCellsOf]at u0 u1 u2 u3 u4
        obtain ⟨kd,hc0,_⟩:=DataW.trod_int Tryz.underlying3 u0;obtain ⟨tg,hc1,_⟩:=DataW.trod_int Tryz.underlying3 u1;obtain ⟨vc,ts,hc2,hT,hTb,_⟩:=open_trees k u2;obtain ⟨nm,hc3,hy3,hs3⟩:=DataW.trod_string Tryz.underlying9 u3;obtain ⟨s,hc4,hy4,hs4⟩:=DataW.trod_string Tryz.underlying9 u4;simp only[List.cons.injEq,and_true]at hc0 hc1 hc2 hc3 hc4
        subst hc0 hc1 hc2 hc3 hc4;obtain ⟨ca,cc,rfl,_,_⟩:=qw.shape k hT;have hdp:=qw.deep k hT;subst hnk;refine ⟨⟨kd,tg,ts,nm,s⟩,⟨ca,cc,by simpa using k0,by simpa using k1,by simpa using k2,by simpa using k3,by simpa using k4,qw.deeper k hT⟩,?_,hs3,hs4⟩
        intro e hee;rw[List.getElem?_eq_getElem (by omega)]at hee
        cases hee;rw[hxe,hy3,hy4];have h9:=wt_more k ts hdp;simp only[List.map_cons,List.map_nil,Rows.uptoBulk,Rows.uptoBulkAll]at *
        omega
   obtain ⟨l,hl,hp⟩:=jl len each
   have hdeep:∀ (i:Nat) y,l[i]?=some y→wt (n+1+1) y.content=wt n y.content:=fun i y hy=>by
    obtain ⟨⟨_,_,_,_,_,_,_,hT⟩,_⟩:=hp i y hy;exact (wt_more (n+1) _ (qw.deep (n+1) (qw.deeper n hT))).trans (wt_more n _ (qw.deep n hT))
   have hsum:(l.map (fun y=>wt n y.content+1)).sum≤Rows.uptoBulkAll (elems.map (·.1)):=by
    rw[xm,List.map_map];exact X4 (fun y:Opn=>wt n y.content+1) (Rows.uptoBulk ∘ (fun y:DataW H × List MemPlace=>y.1)) l elems (by omega) (fun i x y hx hy=>(hp i x hx).2.1 y hy)
   have hone:∀ (l:List Opn) (y:Opn),y∈l→wt n y.content+1≤(l.map (fun y=>wt n y.content+1)).sum:=by
    intro l
    induction l with
    | nil=>intro y hy;cases hy
    | cons z l ih =>
      intro y hy;rw[List.map_cons,List.sum_cons]
      rcases List.mem_cons.1 hy with rfl|hy
      · omega
      · have:=ih y hy;omega
   have hlen2:∀ (l:List Opn),l.length≤(l.map (fun y=>wt n y.content+1)).sum:=by
    intro l
    induction l with
    | nil=>exact nR9 _
    | cons z l ih=>rw[List.map_cons,List.sum_cons,List.length_cons];omega
   refine ⟨_,l,rfl,⟨_,cap,by rw[hl],by omega,hm,fun hne=>?_⟩,?_,?_⟩
   · have h0 : 0 < l.length := List.length_pos_iff.2 hne;obtain ⟨⟨_,_,k0,_⟩,_⟩:=hp 0 l[0] (by simp[h0])
     refine ⟨ab,ao,rfl,World.block_lt_of_cell? W _ k0,fun i x hx=>?_⟩
     obtain ⟨ca,cc,q0,q1,q2,q3,q4,q5⟩:=(hp i x hx).1;exact ⟨ca,cc,q0,q1,q2,q3,q4,qw.deeper (n+1) (qw.deeper n q5)⟩
   · intro y hy;obtain ⟨i,hi⟩:=List.mem_iff_getElem?.1 hy;have h1:=hone l y hy;rw[hdeep i y hi];refine ⟨?_,(hp i y hi).2.2⟩;simp only[Rows.uptoBulk];omega
   · have := hlen2 l;simp only[Rows.uptoBulk];omega
end
end
end Go.Proofs.YtnppmdpmippcoaaGreatDoor
