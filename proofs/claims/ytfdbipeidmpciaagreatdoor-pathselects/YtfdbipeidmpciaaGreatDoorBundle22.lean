/- How a list of trees that came in is opened: from its reading to the trees that lie there, with what its bulk bounds. No condition. -/
import Derived.Test.YtfdbipeidmpciaaGreatDoorRows
import Derived.Test.YtfdbipeidmpciaaGreatDoorBundle10
import Derived.Lib.SmallJoins
namespace Go.Proofs.YtfdbipeidmpciaaGreatDoor
open Go.ChangeShapes Go.WideShapes Go.ChangeAt Go.RowKit
set_option maxRecDepth 100000
section
theorem zy {α:Type}{p:Nat→α→Prop}:∀ (n:Nat),(∀ i,i<n→∃ y,p i y)→∃ l:List α,l.length=n∧∀ i y,l[i]?=some y→p i y:=by
 intro n
 induction n with
 | zero=>intro _;exact ⟨[],rfl,fun i y h=>by simp at h⟩
 | succ n ih =>
   intro h;obtain ⟨l,hl,hp⟩:=ih (fun i hi=>h i (by omega))
   obtain ⟨y,hy⟩:=h n (by omega)
   refine ⟨l++[y],by simp[hl],fun i z hz=>?_⟩
   rcases Nat.lt_or_ge i l.length with hi|hi
   · rw[List.getElem?_append_left hi]at hz;exact hp i z hz
   · rw[List.getElem?_append_right hi]at hz
     have h0:i-l.length=0:=by
      rcases Nat.eq_zero_or_pos (i-l.length) with h'|h'
      · exact h'
      · rw[List.getElem?_eq_none (by simp;omega)]at hz;cases hz
     rw[h0]at hz
     simp at hz
     subst hz;have:i=n:=by omega
     rw[this];exact hy
theorem ZL {α β:Type}(f:α→Nat)(g:β→Nat):∀ (l:List α)(m:List β),l.length=m.length→(∀ (i:Nat)(x:α)(y:β),l[i]?=some x→m[i]?=some y→f x≤g y)→(l.map f).sum≤(m.map g).sum:=by
 intro l
 induction l with
 | nil=>intro m _ _;simp
 | cons x r ih =>
   intro m hl h;cases m with
   | nil=>simp at hl
   | cons y s =>
     have h1:=h 0 x y rfl rfl;have h2:=ih s (by simpa using hl) (fun i a b ha hb=>h (i+1) a b (by simpa using ha) (by simpa using hb))
     simp only[List.map_cons,List.sum_cons];omega
theorem j6 {H:Type}(l:List (DataW H)):Rows.uptoBulkAll l=(l.map Rows.uptoBulk).sum:=by
 induction l with
 | nil=>simp[Rows.uptoBulkAll]
 | cons x r ih=>simp[Rows.uptoBulkAll,ih]
theorem progOwn:ownKnob Tryz.prog.godebug=none:=by kernel_rfl
theorem progLaid:laidOutB Tryz.prog=true:=by kernel_rfl
def awt (x:ByteArray × ByteArray):Nat:=1+x.1.size+x.2.size
theorem attrCellsOf:Tryz.prog.cellsOf 62=2:=by kernel_rfl
theorem strCellsOf:Tryz.prog.cellsOf 9=1:=by kernel_rfl
theorem boolCellsOf:Tryz.prog.cellsOf 4=1:=by kernel_rfl
theorem attrsCellsOf:Tryz.prog.cellsOf 36=1:=by kernel_rfl
section
variable {H : Type} {enc : TypeId × Value → H} {W : World}
theorem xY {fuel:Nat}{cs:List Value}{x:DataW H × List MemPlace}(h:DataW.trod enc Tryz.prog W 0 (fun _=>true) true fuel 36 cs=some x) :
 ∃ v l,cs=[v]∧qh (fun b=>b<W.heap.size) W v l∧(l.map awt).sum≤Rows.uptoBulk x.1∧∀ y∈l,y.1.size≤maxLen∧y.2.size≤maxLen:=by
 rcases DataW.trod_slice Tryz.underlying36 h with ⟨rfl,rfl⟩|⟨a,len,cap,elems,rest,n,_,rfl,rfl,_,hlc,hm,hlen,hel,_⟩
 · exact ⟨_,[],rfl,qh.nil,by simp,by simp⟩
 · rw[attrCellsOf]at hel
   by_cases hz:len=0
   · subst hz;exact ⟨_,[],rfl,⟨some a,cap,rfl,nZ9 _,hm,fun h=>absurd rfl h⟩,by simp,by simp⟩
   have hspot:a.spot=none:=by
    have he:=hel 0 (by omega)
    rw[List.getElem?_eq_getElem (by omega)]at he
    simp only[Option.bind_eq_some_iff]at he
    obtain ⟨cs',h1,_⟩:=he;obtain ⟨_,hl',hcell⟩:=World.cells?_some h1;have k:=hcell 0 (by omega)
    rw[List.getElem?_eq_getElem (by omega)]at k
    simpa[Addr.add] using World.cell?_spot k
   obtain ⟨ab,ao,asp⟩:=a;simp only at hspot
   subst hspot
   have each:∀ i,i<len→∃ y:ByteArray × ByteArray,W.cell? ⟨ab,ao+i*2,none⟩=some (.string y.1)∧W.cell? ⟨ab,ao+i*2+1,none⟩=some (.string y.2) ∧
    (∀ e,elems[i]?=some e→awt y≤Rows.uptoBulk e.1)∧y.1.size≤maxLen∧y.2.size≤maxLen:=by
    intro i hi;have he:=hel i hi;rw[List.getElem?_eq_getElem (by omega)]at he
    simp only[Option.bind_eq_some_iff]at he
    obtain ⟨cs',h1,h2⟩:=he;obtain ⟨_,hl',hcell⟩:=World.cells?_some h1;rw[Addr.add_lit]at hcell
    match cs',hl' with
    | [c0, c1], _ =>
      have k0:=hcell 0 (by omega)
      have k1:=hcell 1 (by omega)
      rw[Addr.add_lit]at k0 k1
      obtain ⟨y0,y1,k,hx,_,u0,u1⟩:=trod_struct2 Tryz.underlying62 h2;simp[strCellsOf]at u0 u1
      obtain ⟨s0,hc0,hy0,hs0⟩:=DataW.trod_string Tryz.underlying9 u0;obtain ⟨s1,hc1,hy1,hs1⟩:=DataW.trod_string Tryz.underlying9 u1;simp only[List.cons.injEq,and_true]at hc0 hc1
      subst hc0 hc1;refine ⟨(s0,s1),?_,?_,?_,hs0,hs1⟩
      · simpa using k0
      · simpa using k1
      · intro e hee;rw[List.getElem?_eq_getElem (by omega)]at hee
        cases hee;rw[hx,hy0,hy1];simp only[Rows.uptoBulk,Rows.uptoBulkAll,awt,QM];omega
   obtain ⟨l,hl,hp⟩:=zy len each;refine ⟨_,l,rfl,⟨_,cap,by rw[hl],by omega,hm,fun hne=>?_⟩,?_,?_⟩
   · have h0 : 0 < l.length := List.length_pos_iff.2 hne;obtain ⟨k0,_⟩:=hp 0 l[0] (by simp[h0])
     refine ⟨ab,ao,rfl,World.block_lt_of_cell? W _ k0,fun i x hx=>?_⟩
     obtain ⟨q0,q1,_⟩:=hp i x hx;exact ⟨q0,q1⟩
   · simp only[Rows.uptoBulk];rw[j6,List.map_map];have:=ZL awt (Rows.uptoBulk ∘ (fun y:DataW H × List MemPlace=>y.1)) l elems (by omega) (fun i x y hx hy=>(hp i x hx).2.2.1 y hy)
     omega
   · intro y hy;obtain ⟨i,hi⟩:=List.mem_iff_getElem?.1 hy;exact (hp i y hi).2.2.2
end
end
end Go.Proofs.YtfdbipeidmpciaaGreatDoor
