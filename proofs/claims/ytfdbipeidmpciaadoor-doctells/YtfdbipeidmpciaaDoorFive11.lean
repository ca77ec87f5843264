/- How a list of trees that came in is opened: from its reading to the trees that lie there, with what its bulk bounds. No condition. -/
import Derived.Test.YtfdbipeidmpciaaDoorRows
import Derived.Test.YtfdbipeidmpciaaDoorFive09
import Derived.Lib.SmallJoins
namespace Go.Proofs.YtfdbipeidmpciaaDoor
open Go.ChangeShapes Go.WideShapes Go.ChangeAt Go.RowKit
set_option maxRecDepth 100000
section
theorem zY {α:Type}{p:Nat→α→Prop}:∀ (n:Nat),(∀ i,i<n→∃ y,p i y)→∃ l:List α,l.length=n∧∀ i y,l[i]?=some y→p i y:=by
 intro n
 induction n with
 | zero=>intro _;exact ⟨[],rfl,fun i y h=>by simp at h⟩
 | succ n ih =>
   intro h;obtain ⟨l,hl,hp⟩:=ih (fun i hi=>h i (by omega))
   obtain ⟨y,hy⟩:=h n (by omega)
   refine ⟨l++[y],by simp[hl],fun i z hz=>?_⟩
   rcases Nat.lt_or_ge i l.length with hi|hi
   · rw[List.getElem?_append_left hi]at hz;exact hp i z hz
   · rw[List.getElem?_append_right hi]at hz
     have h0:i-l.length=0:=by
      rcases Nat.eq_zero_or_pos (i-l.length) with h'|h'
      · exact h'
      · rw[List.getElem?_eq_none (by simp;omega)]at hz;cases hz
     rw[h0]at hz
     simp at hz
     subst hz;have:i=n:=by omega
     rw[this];exact hy
theorem XC {α β:Type}(f:α→Nat)(g:β→Nat):∀ (l:List α) (m:List β),l.length=m.length→(∀ (i:Nat) (x:α) (y:β),l[i]?=some x→m[i]?=some y→f x≤g y)→(l.map f).sum≤(m.map g).sum:=by
 intro l
 induction l with
 | nil=>intro m _ _;simp
 | cons x r ih =>
   intro m hl h;cases m with
   | nil=>simp at hl
   | cons y s =>
     have h1:=h 0 x y rfl rfl;have h2:=ih s (by simpa using hl) (fun i a b ha hb=>h (i+1) a b (by simpa using ha) (by simpa using hb))
     simp only[List.map_cons,List.sum_cons];omega
theorem xe {H:Type}(l:List (DataW H)):Rows.uptoBulkAll l=(l.map Rows.uptoBulk).sum:=by
 induction l with
 | nil=>simp[Rows.uptoBulkAll]
 | cons x r ih=>simp[Rows.uptoBulkAll,ih]
theorem progOwn:ownKnob Tryd.prog.godebug=none:=by kernel_rfl
theorem progLaid:laidOutB Tryd.prog=true:=by kernel_rfl
def awt (x:ByteArray × ByteArray):Nat:=1+x.1.size+x.2.size
def wt:Nat→List Tr→Nat
 | 0,_=>0
 | n+1,ts=>(ts.map fun t=>1+t.s.size+(t.attrs.map awt).sum+wt n t.kids).sum
theorem attrCellsOf:Tryd.prog.cellsOf 69=2:=by kernel_rfl
theorem treeCellsOf:Tryd.prog.cellsOf 25=4:=by kernel_rfl
theorem strCellsOf:Tryd.prog.cellsOf 9=1:=by kernel_rfl
theorem boolCellsOf:Tryd.prog.cellsOf 4=1:=by kernel_rfl
theorem attrsCellsOf:Tryd.prog.cellsOf 22=1:=by kernel_rfl
theorem treesCellsOf:Tryd.prog.cellsOf 23=1:=by kernel_rfl
section
variable {H : Type} {enc : TypeId × Value → H} {W : World}
theorem yA {fuel:Nat}{cs:List Value}{x:DataW H × List MemPlace}(h:DataW.trod enc Tryd.prog W 0 (fun _=>true) true fuel 22 cs=some x) :
 ∃ v l,cs=[v]∧qe (fun b=>b<W.heap.size) W v l∧(l.map awt).sum≤Rows.uptoBulk x.1∧∀ y∈l,y.1.size≤maxLen∧y.2.size≤maxLen:=by
 rcases DataW.trod_slice Tryd.underlying22 h with ⟨rfl,rfl⟩|⟨a,len,cap,elems,rest,n,_,rfl,rfl,_,hlc,hm,hlen,hel,_⟩
 · exact ⟨_,[],rfl,qe.nil,by simp,by simp⟩
 · rw[attrCellsOf]at hel
   by_cases hz:len=0
   · subst hz;exact ⟨_,[],rfl,⟨some a,cap,rfl,nZ9 _,hm,fun h=>absurd rfl h⟩,by simp,by simp⟩
   have hspot:a.spot=none:=by
    have he:=hel 0 (by omega)
    rw[List.getElem?_eq_getElem (by omega)]at he
    simp only[Option.bind_eq_some_iff]at he
    obtain ⟨cs',h1,_⟩:=he;obtain ⟨_,hl',hcell⟩:=World.cells?_some h1;have k:=hcell 0 (by omega)
    rw[List.getElem?_eq_getElem (by omega)]at k
    simpa[Addr.add] using World.cell?_spot k
   obtain ⟨ab,ao,asp⟩:=a;simp only at hspot
   subst hspot
   have each:∀ i,i<len→∃ y:ByteArray × ByteArray,W.cell? ⟨ab,ao+i*2,none⟩=some (.string y.1)∧W.cell? ⟨ab,ao+i*2+1,none⟩=some (.string y.2) ∧
    (∀ e,elems[i]?=some e→awt y≤Rows.uptoBulk e.1)∧y.1.size≤maxLen∧y.2.size≤maxLen:=by
    intro i hi;have he:=hel i hi;rw[List.getElem?_eq_getElem (by omega)]at he
    simp only[Option.bind_eq_some_iff]at he
    obtain ⟨cs',h1,h2⟩:=he;obtain ⟨_,hl',hcell⟩:=World.cells?_some h1;rw[Addr.add_lit]at hcell
    match cs',hl' with
    | [c0, c1], _ =>
      have k0:=hcell 0 (by omega)
      have k1:=hcell 1 (by omega)
      rw[Addr.add_lit]at k0 k1
      obtain ⟨y0,y1,k,hx,_,u0,u1⟩:=trod_struct2 Tryd.underlying69 h2;simp[strCellsOf]at u0 u1
      obtain ⟨s0,hc0,hy0,hs0⟩:=DataW.trod_string Tryd.underlying9 u0;obtain ⟨s1,hc1,hy1,hs1⟩:=DataW.trod_string Tryd.underlying9 u1;simp only[List.cons.injEq,and_true]at hc0 hc1
      subst hc0 hc1;refine ⟨(s0,s1),?_,?_,?_,hs0,hs1⟩
      · simpa using k0
      · simpa using k1
      · intro e hee;rw[List.getElem?_eq_getElem (by omega)]at hee
        cases hee;rw[hx,hy0,hy1];simp only[Rows.uptoBulk,Rows.uptoBulkAll,awt,jh];omega
   obtain ⟨l,hl,hp⟩:=zY len each;refine ⟨_,l,rfl,⟨_,cap,by rw[hl],by omega,hm,fun hne=>?_⟩,?_,?_⟩
   · have h0 : 0 < l.length := List.length_pos_iff.2 hne;obtain ⟨k0,_⟩:=hp 0 l[0] (by simp[h0])
     refine ⟨ab,ao,rfl,World.block_lt_of_cell? W _ k0,fun i x hx=>?_⟩
     obtain ⟨q0,q1,_⟩:=hp i x hx;exact ⟨q0,q1⟩
   · simp only[Rows.uptoBulk];rw[xe,List.map_map];have:=XC awt (Rows.uptoBulk ∘ (fun y:DataW H × List MemPlace=>y.1)) l elems (by omega) (fun i x y hx hy=>(hp i x hx).2.2.1 y hy)
     omega
   · intro y hy;obtain ⟨i,hi⟩:=List.mem_iff_getElem?.1 hy;exact (hp i y hi).2.2.2
theorem wt_more:∀ (n:Nat) (ts:List Tr),Deep n ts→wt (n+1) ts=wt n ts:=by
 intro n
 induction n with
 | zero=>intro ts h;rw[show ts=[] from h];simp[wt]
 | succ n ih =>
   intro ts h
   show (ts.map fun t=>1+t.s.size+(t.attrs.map awt).sum+wt (n+1) t.kids).sum=(ts.map fun t=>1+t.s.size+(t.attrs.map awt).sum+wt n t.kids).sum
   congr 1
   refine List.map_congr_left (fun t ht=>?_)
   rw[ih t.kids (h t ht)]
theorem texts_more:∀ (n:Nat) (ts:List Tr),Deep n ts→TextsN n ts→TextsN (n+1) ts:=by
 intro n
 induction n with
 | zero=>intro ts h _;rw[show ts=[] from h];intro t ht;simp at ht
 | succ n ih=>intro ts h hx t ht;exact ⟨(hx t ht).1,ih t.kids (h t ht) (hx t ht).2⟩
theorem open_trees:∀ (fuel:Nat) {cs:List Value} {x:DataW H × List MemPlace},DataW.trod enc Tryd.prog W 0 (fun _=>true) true fuel 23 cs=some x →
 ∃ v ts,cs=[v]∧qb (fun b=>b<W.heap.size) W fuel v ts∧wt fuel ts≤Rows.uptoBulk x.1∧TextsN fuel ts:=by
 intro fuel
 induction fuel using Nat.strongRecOn with
 | _ fuel ih =>
   intro cs x h
   rcases DataW.trod_slice Tryd.underlying23 h with ⟨rfl,rfl⟩|⟨a,len,cap,elems,rest,n,rfl,rfl,rfl,_,hlc,hm,hlen,hel,_⟩
   · refine ⟨_, [], rfl, qb.nil _ ⟨none, 0, rfl, nZ9 _⟩, ?_, ?_⟩
     · cases fuel<;>simp[wt]
     · cases fuel<;>simp[TextsN]
   · rw[treeCellsOf]at hel
     by_cases hz:len=0
     · subst hz;exact ⟨_,[],rfl,qb.nil _ ⟨some a,cap,rfl,hm⟩,by simp[wt],by simp[TextsN]⟩
     have hspot:a.spot=none:=by
      have he:=hel 0 (by omega)
      rw[List.getElem?_eq_getElem (by omega)]at he
      simp only[Option.bind_eq_some_iff]at he
      obtain ⟨cs',h1,_⟩:=he;obtain ⟨_,hl',hcell⟩:=World.cells?_some h1;have k:=hcell 0 (by omega)
      rw[List.getElem?_eq_getElem (by omega)]at k
      simpa[Addr.add] using World.cell?_spot k
     obtain ⟨ab,ao,asp⟩:=a;simp only at hspot
     subst hspot
     have each:∀ i,i<len→∃ t:Tr,(∃ va vk,W.cell? ⟨ab,ao+i*4,none⟩=some (.bool t.text)∧W.cell? ⟨ab,ao+i*4+1,none⟩=some (.string t.s) ∧
      W.cell? ⟨ab,ao+i*4+2,none⟩=some va∧W.cell? ⟨ab,ao+i*4+3,none⟩=some vk∧qe (fun b=>b<W.heap.size) W va t.attrs∧qb (fun b=>b<W.heap.size) W n vk t.kids) ∧
      (∀ e,elems[i]?=some e→1+t.s.size+(t.attrs.map awt).sum+wt n t.kids≤Rows.uptoBulk e.1)∧Zq t∧TextsN n t.kids:=by
      intro i hi;have he:=hel i hi;rw[List.getElem?_eq_getElem (by omega)]at he
      simp only[Option.bind_eq_some_iff]at he
      obtain ⟨cs',h1,h2⟩:=he;obtain ⟨_,hl',hcell⟩:=World.cells?_some h1;rw[Addr.add_lit]at hcell
      match cs',hl' with
      | [c0, c1, c2, c3], _ =>
        have k0:=hcell 0 (by omega)
        have k1:=hcell 1 (by omega)
        have k2:=hcell 2 (by omega)
        have k3:=hcell 3 (by omega)
        rw[Addr.add_lit]at k0 k1 k2 k3
        obtain ⟨xs,k,hnk,hx,_,hxl,hf⟩:=DataW.trod_struct Tryd.underlying25 h2
        match xs,hxl with
        | [y0, y1, y2, y3], _ =>
          have u0:=hf 0 _ rfl;have u1:=hf 1 _ rfl;have u2:=hf 2 _ rfl;have u3:=hf 3 _ rfl;simp[boolCellsOf,strCellsOf,attrsCellsOf,treesCellsOf]at u0 u1 u2 u3
          obtain ⟨tx,hc0,hy0⟩:=DataW.trod_bool Tryd.underlying4 u0;obtain ⟨s,hc1,hy1,hs⟩:=DataW.trod_string Tryd.underlying9 u1;obtain ⟨va,l,hc2,hA,hAb,hAt⟩:=yA u2;obtain ⟨vk,ks,hc3,hK,hKb,hKt⟩:=ih k (by omega) u3
          simp only[List.cons.injEq,and_true]at hc0 hc1 hc2 hc3
          subst hc0 hc1 hc2 hc3;have hdp:=qb.deep k hK;subst hnk;refine ⟨⟨tx,s,l,ks⟩,⟨c2,c3,by simpa using k0,by simpa using k1,by simpa using k2,by simpa using k3,hA,qb.deeper k hK⟩,?_,⟨hs,hAt⟩,texts_more k ks hdp hKt⟩
          intro e hee;rw[List.getElem?_eq_getElem (by omega)]at hee
          cases hee;rw[hx,hy0,hy1];simp only[List.map_cons,List.map_nil,Rows.uptoBulk,Rows.uptoBulkAll,jh,wt_more k ks hdp];omega
     obtain ⟨ts,hl,hp⟩:=zY len each;refine ⟨_,ts,rfl,⟨_,cap,by rw[hl],by omega,hm,fun hne=>?_⟩,?_,?_⟩
     · have h0 : 0 < ts.length := List.length_pos_iff.2 hne;obtain ⟨⟨_,_,k0,_⟩,_⟩:=hp 0 ts[0] (by simp[h0])
       exact ⟨ab,ao,rfl,World.block_lt_of_cell? W _ k0,fun i t ht=>(hp i t ht).1⟩
     · simp only[Rows.uptoBulk, wt];rw[xe,List.map_map];have:=XC (fun t:Tr=>1+t.s.size+(t.attrs.map awt).sum+wt n t.kids) (Rows.uptoBulk ∘ (fun y:DataW H × List MemPlace=>y.1)) ts elems (by omega) (fun i x y hx hy=>(hp i x hx).2.1 y hy)
       omega
     · intro t ht;obtain ⟨i,hi⟩:=List.mem_iff_getElem?.1 ht;exact (hp i t hi).2.2
end
theorem Zl {α:Type}(f:α→Nat){l:List α}{x:α}(h:x∈l):f x≤(l.map f).sum:=by
 induction l with
 | nil=>cases h
 | cons y r ih =>
   simp only[List.map_cons,List.sum_cons]
   rcases List.mem_cons.1 h with rfl|h
   · omega
   · have:=ih h;omega
theorem xA (n:Nat)(t:Tr)(r:List Tr):wt (n+1) (t::r)=1+t.s.size+(t.attrs.map awt).sum+wt n t.kids+wt (n+1) r:=by simp[wt]
theorem Kh (n:Nat)(ts:List Tr):ts.length≤wt (n+1) ts:=by
 induction ts with
 | nil=>simp
 | cons t r ih=>rw[xA];simp only[List.length_cons];omega
theorem Kg (n:Nat)(ts:List Tr):(catL ts).length≤wt (n+1) ts:=by
 induction ts with
 | nil=>simp[catL]
 | cons t r ih=>rw[xA];simp only[catL,List.length_append,jh];omega
theorem wt_small:∀ (n:Nat) (ts:List Tr),wt n ts≤1048576→Small n ts:=by
  intro n
  induction n with
  | zero=>intro ts _;trivial
  | succ n ih =>
    intro ts h;refine ⟨Nat.le_trans (Kh n ts) h,Nat.le_trans (Kg n ts) (by omega),fun t ht=>?_⟩
    have h1:1+t.s.size+(t.attrs.map awt).sum+wt n t.kids≤wt (n+1) ts:=Zl (fun t:Tr=>1+t.s.size+(t.attrs.map awt).sum+wt n t.kids) ht
    have h2:t.attrs.length≤(t.attrs.map awt).sum:=by
      have h3:∀ l:List (ByteArray × ByteArray),l.length≤(l.map awt).sum:=by
        intro l
        induction l with
        | nil=>simp
        | cons x r ih => simp only[List.length_cons, List.map_cons, List.sum_cons];have : 1 ≤ awt x := by unfold awt;omega
                         omega
      exact h3 t.attrs
    exact ⟨by omega,by omega,ih t.kids (by omega)⟩
theorem wt_cnt:∀ (n:Nat) (ts:List Tr),cnt n ts≤wt n ts:=by
 intro n
 induction n with
 | zero=>intro ts;simp[cnt]
 | succ n ih =>
   intro ts
   induction ts with
   | nil=>simp[cnt]
   | cons t r ihr=>rw[zz,xA];have:=ih t.kids;omega
end
end Go.Proofs.YtfdbipeidmpciaaDoor
