/- Bundled: OpenS PickK. What each says stands ahead of it. -/
import Derived.Test.YtfdbipeidmpciabDoorBundle15
namespace Go.Proofs.YtfdbipeidmpciabDoor
open Go.ChangeShapes Go.WideShapes Go.ChangeAt Go.RowKit
set_option maxRecDepth 100000
section
theorem stepCellsOf:Tryd.prog.cellsOf 37=2:=by kernel_rfl
theorem stepBytesOf:Tryd.prog.bytesOf 37=24:=by kernel_rfl
section
variable {H : Type} {enc : TypeId × Value → H} {W : World}
theorem ye {fuel:Nat}{cs:List Value}{x:DataW H × List MemPlace}(h:DataW.trod enc Tryd.prog W 0 (fun _=>true) true fuel 25 cs=some x)(hw:∀ y∈x.1.weights Tryd.prog 25,y≤reachBytes) :
 ∃ v l,cs=[v]∧qj (fun b=>b<W.heap.size) W v l∧qB l∧l.length*24≤reachBytes:=by
 rcases DataW.trod_slice Tryd.underlying25 h with ⟨rfl,rfl⟩|⟨a,len,cap,elems,rest,n,_,rfl,rfl,_,hlc,hm,hlen,hel,_⟩
 · exact ⟨_,[],rfl,⟨none,0,rfl,nZ9 _,nZ9 _,fun h=>absurd rfl h⟩,by intro s hs;simp at hs,by simp⟩
 · rw[stepCellsOf]at hel
   have hre:len*24≤reachBytes:=by
    have:=hw ((elems.length+rest.length)*24) (by
     simp only[DataW.weights,Tryd.underlying25,stepBytesOf,List.length_map];exact List.mem_cons_self)
    unfold reachBytes at this ⊢
    omega
   by_cases hz:len=0
   · subst hz;exact ⟨_,[],rfl,⟨some a,cap,rfl,nZ9 _,hm,fun h=>absurd rfl h⟩,by intro s hs;simp at hs,by simp⟩
   have hspot:a.spot=none:=by
    have he:=hel 0 (by omega)
    rw[List.getElem?_eq_getElem (by omega)]at he
    simp only[Option.bind_eq_some_iff]at he
    obtain ⟨cs',h1,_⟩:=he;obtain ⟨_,hl',hcell⟩:=World.cells?_some h1;have k:=hcell 0 (by omega)
    rw[List.getElem?_eq_getElem (by omega)]at k
    simpa[Addr.add] using World.cell?_spot k
   obtain ⟨ab,ao,asp⟩:=a;simp only at hspot
   subst hspot
   have each:∀ i,i<len→∃ y:St,(W.cell? ⟨ab,ao+i*2,none⟩=some (.string y.name)∧W.cell? ⟨ab,ao+i*2+1,none⟩=some (.int .i64 y.n))∧y.name.size≤maxLen:=by
    intro i hi;have he:=hel i hi;rw[List.getElem?_eq_getElem (by omega)]at he
    simp only[Option.bind_eq_some_iff]at he
    obtain ⟨cs',h1,h2⟩:=he;obtain ⟨_,hl',hcell⟩:=World.cells?_some h1;rw[Addr.add_lit]at hcell
    match cs',hl' with
    | [c0, c1], _ =>
      have k0:=hcell 0 (by omega)
      have k1:=hcell 1 (by omega)
      rw[Addr.add_lit]at k0 k1
      obtain ⟨xs,k,_,hxe,_,hxl,hf⟩:=DataW.trod_struct Tryd.underlying37 h2
      match xs,hxl with
      | [y0, y1], _ =>
        have u0:=hf 0 _ rfl;have u1:=hf 1 _ rfl;simp[strCellsOf,intCellsOf]at u0 u1
        obtain ⟨s,hc0,_,hs⟩:=DataW.trod_string Tryd.underlying9 u0;obtain ⟨p,hc1,_⟩:=DataW.trod_int Tryd.underlying3 u1;simp only[List.cons.injEq,and_true]at hc0 hc1
        subst hc0 hc1;exact ⟨⟨s,p⟩,⟨by simpa using k0,by simpa using k1⟩,hs⟩
   obtain ⟨l,hl,hp⟩:=qV len each;refine ⟨_,l,rfl,⟨_,cap,by rw[hl],by omega,hm,fun hne=>?_⟩,?_,by rw[hl];exact hre⟩
   · have h0 : 0 < l.length := List.length_pos_iff.2 hne;obtain ⟨⟨k0,_⟩,_⟩:=hp 0 l[0] (by simp[h0])
     exact ⟨ab,ao,rfl,World.block_lt_of_cell? W _ k0,fun i x hx=>(hp i x hx).1⟩
   · intro y hy;obtain ⟨i,hi⟩:=List.mem_iff_getElem?.1 hy;exact (hp i y hi).2
end
end
theorem yg (k:Int)(n:Nat)(w:World)(h0:1≤n)(h1:(n:Int)≤9223372036854775807) :
 Calls Tryd.prog 8 #[.int .i64 k,.int .i64 (n:Int)] w fun e w'=>∃ m:Nat,m<n∧e=.returned (.int .i64 (m:Int))∧w'=w:=by
 have hne:¬ ((n:Int)=0):=by omega
 have hne2:((n:Int)==0)=false:=by simp;omega
 obtain ⟨r,hr⟩:∃ r,Int.tmod k (n:Int)=r:=⟨_,rfl⟩;have hr1:r<(n:Int):=by rw[←hr];exact Int.tmod_lt_of_pos k (by omega)
 have hr2:-(n:Int)<r:=by rw[←hr];exact Int.lt_tmod_of_pos k (by omega)
 by_cases hneg:r<0
 · go_enter Tryd.func8, Tryd.ntmps8
   go_wp2;go_ret;exact ⟨(r+n).toNat,by omega,by show Ending.returned (Value.int .i64 (r+(n:Int)))=_;rw[Int.toNat_of_nonneg (by omega)],rfl⟩
 · go_enter Tryd.func8, Tryd.ntmps8
   go_wp2;go_ret;exact ⟨r.toNat,by omega,by show Ending.returned (Value.int .i64 r)=_;rw[Int.toNat_of_nonneg (by omega)],rfl⟩
end Go.Proofs.YtfdbipeidmpciabDoor
