/- Bundled: SizeM AppT ContM CountT Count CountS SizeT JoinR RefSize. What each says stands ahead of it. -/
import Derived.Test.YtnppmdpmippcoaaGreatDoorBundle05
import Derived.Test.YtnppmdpmippcoaaGreatDoorBundle08
namespace Go.Proofs.YtnppmdpmippcoaaGreatDoor
open Go.ChangeShapes Go.WideShapes Go.ChangeAt Go.RowKit
set_option maxRecDepth 100000
def dep:Nat→List Tr→Nat
 | 0,_=>0
 | n+1,ts=>(ts.map fun t=>1+dep n t.kids).foldr max 0
theorem yK (n:Nat):dep n []=0:=by cases n<;>rfl
theorem jC (n:Nat)(t:Tr)(r:List Tr):dep (n+1) (t::r)=max (1+dep n t.kids) (dep (n+1) r):=rfl
theorem yr (n:Nat)(a b:List Tr):dep n (a++b)=max (dep n a) (dep n b):=by
 cases n with
 | zero=>rfl
 | succ n =>
   induction a with
   | nil=>simp[yK]
   | cons t r ih=>rw[List.cons_append,jC,jC,ih];omega
theorem zG (n:Nat)(a b:List Tr):cnt n (a++b)=cnt n a+cnt n b:=by
 cases n with
 | zero=>rfl
 | succ n =>
   induction a with
   | nil=>simp[qQ]
   | cons t r ih=>rw[List.cons_append,zf,zf,ih];omega
theorem dep_cnt:∀ (n:Nat)(ts:List Tr),dep n ts≤cnt n ts:=by
 intro n
 induction n with
 | zero=>intro ts;exact nR9 _
 | succ n ih =>
   intro ts
   induction ts with
   | nil=>rw[yK];omega
   | cons t r ihr=>rw[jC,zf];have:=ih t.kids;omega
def nx (ts:List Tr):List Tr:=ts.flatMap fun t=>t.kids
theorem nx_nil:nx []=[]:=rfl
theorem xd (t:Tr)(r:List Tr):nx (t::r)=t.kids++nx r:=by simp[nx]
theorem jZ (a b:List Tr):nx (a++b)=nx a++nx b:=by simp[nx]
theorem Zh (n:Nat)(ts:List Tr):cnt (n+1) ts=ts.length+cnt n (nx ts):=by
 induction ts with
 | nil=>simp[qQ,nx_nil]
 | cons t r ih=>rw[zf,xd,zG,ih,List.length_cons];omega
theorem Xn (n:Nat)(ts:List Tr)(h:ts≠[]):dep (n+1) ts=1+dep n (nx ts):=by
 induction ts with
 | nil=>exact absurd rfl h
 | cons t r ih =>
   rw[jC,xd,yr]
   by_cases hr:r=[]
   · subst hr;rw[yK,nx_nil,yK];omega
   · rw[ih hr];omega
theorem Deep.nx {n:Nat}{ts:List Tr}(h:Deep (n+1) ts):Deep n (nx ts):=by
 cases n with
 | zero =>
   show Go.Proofs.YtnppmdpmippcoaaGreatDoor.nx ts=[]
   induction ts with
   | nil=>rfl
   | cons t r ih =>
     rw[xd,ih (fun x hx=>h x (List.mem_cons_of_mem _ hx))]
     have:t.kids=[]:=h t (List.mem_cons_self ..);rw[this];rfl
 | succ n =>
   intro x hx;obtain ⟨t,ht,hxt⟩:=List.mem_flatMap.1 hx;exact h t ht x hxt
theorem Deep.len {n:Nat}{ts:List Tr}(h:Deep n ts):ts.length≤cnt n ts:=by
 cases n with
 | zero =>
   have:ts=[]:=h;rw[this];exact nZ9 _
 | succ n=>rw[Zh];omega
theorem QM {α:Type}{p:Nat→α→Prop}:∀ (n:Nat),(∀ i,i<n→∃ y,p i y)→∃ l:List α,l.length=n∧∀ i y,l[i]?=some y→p i y:=by
 intro n
 induction n with
 | zero=>intro _;exact ⟨[],rfl,fun i y h=>by simp at h⟩
 | succ n ih =>
   intro h;obtain ⟨l,hl,hp⟩:=ih (fun i hi=>h i (by omega))
   obtain ⟨y,hy⟩:=h n (by omega)
   refine ⟨l++[y],by simp[hl],fun i z hz=>?_⟩
   rcases Nat.lt_or_ge i n with hi|hi
   · rw[List.getElem?_append_left (by omega)]at hz;exact hp i z hz
   · rw[List.getElem?_append_right (by omega), hl]at hz
     rcases Nat.eq_zero_or_pos (i-n) with h0|h0
     · rw[h0]at hz;simp at hz;subst hz
       have:i=n:=by omega
       rw[this];exact hy
     · rw[List.getElem?_eq_none (by simp;omega)]at hz;cases hz
theorem QC {ps:List (Bool × ByteArray × Value × Value)}{j:Nat}{u:Value}(h:(quadCells ps)[j]?=some u) :
 ∃ i q,ps[i]?=some q∧((j=i*4∧u=.bool q.1)∨(j=i*4+1∧u=.string q.2.1)∨(j=i*4+2∧u=q.2.2.1)∨(j=i*4+3∧u=q.2.2.2)):=by
 have hj:j<(quadCells ps).length:=(List.getElem?_eq_some_iff.1 h).1;rw[y8]at hj
 have hi:j / 4<ps.length:=by omega
 have hq:ps[j / 4]?=some ps[j / 4]:=by simp
 obtain ⟨g0,g1,g2,g3⟩:=yH ps (j / 4) _ hq;refine ⟨j / 4,ps[j / 4],hq,?_⟩;have hm:j % 4=0∨j % 4=1∨j % 4=2∨j % 4=3:=by omega
 rcases hm with e|e|e|e
 · have hj' : j = j / 4 * 4 := by omega
   rw[←hj',h]at g0;exact Or.inl ⟨hj',by simpa using g0⟩
 · have hj' : j = j / 4 * 4 + 1 := by omega
   rw[←hj',h]at g1;exact Or.inr (Or.inl ⟨hj',by simpa using g1⟩)
 · have hj' : j = j / 4 * 4 + 2 := by omega
   rw[←hj',h]at g2;exact Or.inr (Or.inr (Or.inl ⟨hj',by simpa using g2⟩))
 · have hj' : j = j / 4 * 4 + 3 := by omega
   rw[←hj',h]at g3;exact Or.inr (Or.inr (Or.inr ⟨hj',by simpa using g3⟩))
theorem qw.quads {S:Nat→Prop}{w:World}{n:Nat}{ad:Addr}{len cap:Nat}{ts:List Tr}(h:qw S w (n+1) (.slice (some ad) len cap) ts) :
    ∃ ps : List (Bool × ByteArray × Value × Value), ps.length = ts.length ∧ (∀ j u, (quadCells ps)[j]? = some u → w.cell? (ad.add j) = some u) ∧ (∀ u ∈ quadCells ps, u.oneCell' = true) ∧
      ∀ (i:Nat) (q:Bool × ByteArray × Value × Value) (t:Tr),ps[i]?=some q→ts[i]?=some t→q.1=t.text∧q.2.1=t.s∧qC S w q.2.2.1 t.attrs∧qw S w n q.2.2.2 t.kids:=by
  obtain ⟨a,c,hv,h2,h3,h4⟩:=h
  by_cases hne:ts=[]
  · subst hne;exact ⟨[],rfl,fun j u hj=>by simp[quadCells]at hj,fun u hu=>by simp[quadCells]at hu,fun i q t hq=>by simp at hq⟩
  obtain ⟨b,o,ha,hs,hc⟩:=h4 hne
  have had:ad=⟨b,o,none⟩:=by
    rw[ha]at hv
    injection hv with h5
    injection h5
  obtain ⟨ps,hl,hp⟩:=QM (α:=Bool × ByteArray × Value × Value) (p:=fun i q=>∀ t,ts[i]?=some t →
      w.cell? ⟨b,o+i*4,none⟩=some (.bool q.1)∧w.cell? ⟨b,o+i*4+1,none⟩=some (.string q.2.1)∧w.cell? ⟨b,o+i*4+2,none⟩=some q.2.2.1∧w.cell? ⟨b,o+i*4+3,none⟩=some q.2.2.2 ∧
      q.1=t.text∧q.2.1=t.s∧qC S w q.2.2.1 t.attrs∧qw S w n q.2.2.2 t.kids) ts.length (by
    intro i hi;have ht:ts[i]?=some ts[i]:=by simp
    obtain ⟨va,vk,c0,c1,c2,c3,hat,hkt⟩:=hc i _ ht;refine ⟨(ts[i].text,ts[i].s,va,vk),fun t ht'=>?_⟩
    rw[ht]at ht';cases ht'
    exact ⟨c0,c1,c2,c3,rfl,rfl,hat,hkt⟩)
  have find:∀ (i:Nat) (q:Bool × ByteArray × Value × Value),ps[i]?=some q→∃ t,ts[i]?=some t:=by
    intro i q hq;have:i<ps.length:=(List.getElem?_eq_some_iff.1 hq).1;exact ⟨ts[i]'(by omega),by simp⟩
  refine ⟨ps,hl,?_,?_,?_⟩
  · intro j u hj;obtain ⟨i,q,hq,hu⟩:=QC hj;obtain ⟨t,ht⟩:=find i q hq;obtain ⟨c0,c1,c2,c3,_⟩:=hp i q hq t ht;subst had;rw[Addr.add_lit]
    rcases hu with ⟨rfl,rfl⟩|⟨rfl,rfl⟩|⟨rfl,rfl⟩|⟨rfl,rfl⟩
    · exact c0
    · exact c1
    · exact c2
    · exact c3
  · intro u hu;obtain ⟨j,hj⟩:=List.mem_iff_getElem?.1 hu;obtain ⟨i,q,hq,hu⟩:=QC hj;obtain ⟨t,ht⟩:=find i q hq;obtain ⟨_,_,_,_,_,_,hA,hT⟩:=hp i q hq t ht
    rcases hu with ⟨_,rfl⟩|⟨_,rfl⟩|⟨_,rfl⟩|⟨_,rfl⟩
    · rfl
    · rfl
    · obtain ⟨x,y,e⟩:=hA.shape;rw[e];rfl
    · obtain ⟨x,y,e,_⟩:=qw.shape n hT;rw[e];rfl
  · intro i q t hq ht;obtain ⟨_,_,_,_,r⟩:=hp i q hq t ht;exact r
theorem zC.many {S:Nat→Prop}{n B:Nat}{w w':World}{v v':Value}{us ts:List Tr}{qs ps:List (Bool × ByteArray × Value × Value)}
 (h:zC S n B w v us qs) (hl:ps.length=ts.length) (hown:w'.ownsRow B 56 4 v' (us.length+ts.length) (quadCells qs++quadCells ps))
 (hg:w.grownBy w' v.ownBlock) (hat:v'.ownBlock=v.ownBlock∨v'.ownBlock=some w.heap.size)
 (he:∀ (i:Nat) (q:Bool × ByteArray × Value × Value) (t:Tr),ps[i]?=some q→ts[i]?=some t→q.1=t.text∧q.2.1=t.s∧qC (Oth S B w v) w q.2.2.1 t.attrs∧qw (Oth S B w v) w n q.2.2.2 t.kids):zC S n B w' v' (us++ts) (qs++ps):=by
 have carry:∀ b,Oth S B w v b→Oth S B w' v' b∧w'.heap[b]?=w.heap[b]?:=by
  intro b hb;refine ⟨⟨hb.1,Nat.lt_of_lt_of_le hb.2.1 hg.size,?_⟩,hg.block b hb.2.1 (fun e=>hb.2.2 e.symm)⟩
  rcases hat with e|e
  · rw[e];exact hb.2.2
  · rw[e];intro e';cases e';exact Nat.lt_irrefl _ hb.2.1
 refine ⟨by simp[h.len,hl],?_,?_⟩
 · rw[yA,List.length_append];exact hown
 · intro i q' t' hq ht
   rcases Nat.lt_or_ge i us.length with hi|hi
   · rw[List.getElem?_append_left (by rw[h.len];exact hi)]at hq
     rw[List.getElem?_append_left hi]at ht
     obtain ⟨a,b,c,d⟩:=h.each i q' t' hq ht;exact ⟨a,b,c.carry carry,qw.carry carry n d⟩
   · rw[List.getElem?_append_right (by rw[h.len];exact hi)]at hq
     rw[List.getElem?_append_right hi]at ht
     rw[h.len]at hq
     obtain ⟨a,b,c,d⟩:=he _ q' t' hq ht;exact ⟨a,b,c.carry carry,qw.carry carry n d⟩
theorem xU {ops:Array Oper}{rest:List Oper}{o:Oper}{a:Act}{w:World}{Q:Exit→Act→World→Prop}(hgd:o.guard=none)(s x:Operand)
 (ho:o.op=.call { callee:=.builtin .append,args:=#[s,x],argTypes:=#[28,28] })
 (S S1:Nat→Prop) (n B:Nat) (v vk:Value) (us ts:List Tr) (qs:List (Bool × ByteArray × Value × Value)) (hs:a.eval s=v) (hG:zC S n B w v us qs) (hx:a.eval x=vk) (hk:qw S1 w (n+1) vk ts)
 (hS:∀ b,S1 b→Oth S B w v b) (hl:us.length+ts.length≤1048576) (hB:B≤w.heap.size)
 (h:∀ v' w' qs',zC S n B w' v' (us++ts) qs'→Below B w w'→wpList Tryz.prog ops Q rest (a.put o.dst v') w') :
 wpList Tryz.prog ops Q (o::rest) a w:=by
 obtain ⟨i0,hi,hz0,hz1,hz2⟩:=info_parts treeInfo;obtain ⟨ka,kc,rfl,hkc,hkm⟩:=qw.shape (n+1) hk;cases ka with
 | none =>
   have hn:ts=[]:=by
    apply Classical.byContradiction;intro hne
    obtain ⟨a,c,hv,_,_,h4⟩:=hk;obtain ⟨b,o,ha,_⟩:=h4 hne;rw[ha]at hv;cases hv
   subst hn;refine wpList_plain hgd fun K hK=>?_
   have hrun:(Builtin.append_ #[28,28] o.type #[v,.slice none 0 kc]).run Tryz.prog w=.ok v w:=by
    rcases hG.own.2 with ⟨rfl,e⟩|⟨g,cap,cur,rfl,_,_,hnc,_⟩
    · simp[Builtin.append_,run_underlying Tryz.underlying28,sizeOf,typeInfo,hi,Builtin.lenOf,Builtin.firstCells]
    · simp[Builtin.append_,run_underlying Tryz.underlying28,sizeOf,typeInfo,hi,Builtin.lenOf,Builtin.firstCells,hnc,storeCells]
   simp only[List.length_nil]at hx
   unfold Oper.wp;simp[execOp,ho,resolve,invoke,builtin,hs,hx,hrun,Result.andThen];exact hK _ _ (h v w qs (by rw[List.append_nil];exact hG) (Below.refl _ _))
 | some ad =>
   obtain ⟨ps,hpl,hpc,hp1,hpe⟩:=qw.quads hk;refine wpList_append_own_at w hgd s x 28 ho B 56 i0 _ 4 72 Tryz.underlying28 hi hz0 hz1 hz2 rfl (by decide) v us.length (quadCells qs) hs hG.own ad ts.length kc (quadCells ps) hx ?_ hpc hp1 ?_ ?_ hB ?_
   · rw[y8,hpl]
   · unfold maxLen;omega
   · omega
   · intro v' w' hown hgr _ hat
     exact h v' w' _ (hG.many hpl hown hgr hat (fun i q t hq ht=>by
      obtain ⟨a,b,c,d⟩:=hpe i q t hq ht;exact ⟨a,b,c.carry (fun b hb=>⟨hS b hb,rfl⟩),qw.carry (fun b hb=>⟨hS b hb,rfl⟩) n d⟩)) ((Below.refl _ w).grown hgr hB (fun k hk'=>(hG.own.lt k hk').1))
def TGr (B n:Nat)(w:World)(v:Value)(us:List Tr):Prop:=∃ qs,zC (fun _=>False) n B w v us qs
theorem TGr.nil (B n:Nat)(w:World):TGr B n w (.slice none 0 0) []:=⟨[],zC.nil _ _ _ _⟩
theorem TGr.shape {B n:Nat}{w:World}{v:Value}{us:List Tr}(h:TGr B n w v us):∃ a c,v=.slice a us.length c∧us.length≤c∧c≤maxLen:=by
 obtain ⟨qs,h⟩:=h
 rcases h.own.2 with ⟨hv,h0⟩|⟨g,cap,cur,hv,_,_,hc,hm,_⟩
 · exact ⟨none,0,by rw[hv,h0],by omega,nZ9 _⟩
 · exact ⟨_,_,hv,hc,hm⟩
theorem TGr.later {B n:Nat}{w w':World}{v:Value}{us:List Tr}(h:TGr B n w v us)(hb:Below w.heap.size w w'):TGr B n w' v us:=by
 obtain ⟨qs,h⟩:=h;exact ⟨qs,h.later hb⟩
theorem TGr.block {B n:Nat}{w:World}{v:Value}{us:List Tr}(h:TGr B n w v us){g:Nat}(hg:v.ownBlock=some g):B≤g∧g<w.heap.size:=by
 obtain ⟨qs,h⟩:=h;exact h.own.lt g hg
theorem TGr.trees {B n:Nat}{w:World}{v:Value}{us:List Tr}(h:TGr B n w v us):qw (fun b=>B≤b∧b<w.heap.size) w (n+1) v us:=by
 obtain ⟨qs,h⟩:=h;exact qw.carry (fun b hb=>⟨⟨by rcases hb.1 with h|h;exact h.elim;exact h,hb.2⟩,rfl⟩) (n+1) (qw.bounded (n+1) h.done)
theorem TGr.keep {B n:Nat}{w w':World}{v:Value}{us:List Tr}(h:TGr B n w v us)(hs:w.heap.size≤w'.heap.size)(hb:∀ b,B≤b→b<w.heap.size→w'.heap[b]?=w.heap[b]?):TGr B n w' v us:=by
 obtain ⟨qs,h⟩:=h;refine ⟨qs,h.len,⟨h.own.1,?_⟩,fun i q t hq ht=>?_⟩
 · rcases h.own.2 with hv | ⟨g, cap, cur, hv, hB, hh, hr⟩
   · exact Or.inl hv
   · exact Or.inr ⟨g,cap,cur,hv,hB,(hb g hB (Array.getElem?_eq_some_iff.1 hh).1).trans hh,hr⟩
 · obtain ⟨a, b, c, d⟩ := h.each i q t hq ht
   have carry:∀ b,Oth (fun _=>False) B w v b→Oth (fun _=>False) B w' v b∧w'.heap[b]?=w.heap[b]?:=by
    rintro b ⟨h1,h2,h3⟩;have h1':B≤b:=by rcases h1 with h|h;exact h.elim;exact h
    exact ⟨⟨Or.inr h1',Nat.lt_of_lt_of_le h2 hs,h3⟩,hb b h1' h2⟩
   exact ⟨a,b,c.carry carry,qw.carry carry n d⟩
theorem TGr.lower {B B' n:Nat}{w:World}{v:Value}{us:List Tr}(h:TGr B n w v us)(hB:B'≤B):TGr B' n w v us:=by
 obtain ⟨qs,h⟩:=h;refine ⟨qs,h.len,⟨h.own.1,?_⟩,fun i q t hq ht=>?_⟩
 · rcases h.own.2 with hv | ⟨g, cap, cur, hv, hB1, hr⟩
   · exact Or.inl hv
   · exact Or.inr ⟨g,cap,cur,hv,Nat.le_trans hB hB1,hr⟩
 · obtain ⟨a, b, c, d⟩ := h.each i q t hq ht
   have carry:∀ b,Oth (fun _=>False) B w v b→Oth (fun _=>False) B' w v b∧w.heap[b]?=w.heap[b]?:=by
    rintro b ⟨h1,h2,h3⟩;have h1':B≤b:=by rcases h1 with h|h;exact h.elim;exact h
    exact ⟨⟨Or.inr (by omega),h2,h3⟩,rfl⟩
   exact ⟨a,b,c.carry carry,qw.carry carry n d⟩
theorem zC.more {n B:Nat}{w w':World}{v v':Value}{us ts:List Tr}{qs ps:List (Bool × ByteArray × Value × Value)}{T:Nat→Prop}
 (h:zC (fun _=>False) n B w v us qs) (hown:w'.ownsRow B 56 4 v' (us.length+ts.length) (quadCells qs++quadCells ps)) (hp:ps.length=ts.length)
 (hg:w.grownBy w' v.ownBlock) (hat:v'.ownBlock=v.ownBlock∨v'.ownBlock=some w.heap.size) (hT:∀ b,T b→B≤b∧b<w.heap.size∧v.ownBlock≠some b)
 (he:∀ (i:Nat) q t,ps[i]?=some q→ts[i]?=some t→q.1=t.text∧q.2.1=t.s∧qC T w q.2.2.1 t.attrs∧qw T w n q.2.2.2 t.kids):zC (fun _=>False) n B w' v' (us++ts) (qs++ps):=by
 have carry:∀ b,Oth (fun _=>False) B w v b→Oth (fun _=>False) B w' v' b∧w'.heap[b]?=w.heap[b]?:=by
  intro b hb;refine ⟨⟨hb.1,Nat.lt_of_lt_of_le hb.2.1 hg.size,?_⟩,hg.block b hb.2.1 (fun e=>hb.2.2 e.symm)⟩
  rcases hat with e|e
  · rw[e];exact hb.2.2
  · rw[e];intro e';cases e';exact Nat.lt_irrefl _ hb.2.1
 have carryT:∀ b,T b→Oth (fun _=>False) B w' v' b∧w'.heap[b]?=w.heap[b]?:=fun b hb=>carry b ⟨Or.inr (hT b hb).1,(hT b hb).2.1,(hT b hb).2.2⟩
 refine ⟨by simp[h.len,hp],by rw[yA,List.length_append];exact hown,fun i q t hq ht=>?_⟩
 rcases Nat.lt_or_ge i us.length with hi|hi
 · rw[List.getElem?_append_left (by rw[h.len];exact hi)]at hq
   rw[List.getElem?_append_left hi]at ht
   obtain ⟨a,b,c,d⟩:=h.each i q t hq ht;exact ⟨a,b,c.carry carry,qw.carry carry n d⟩
 · rw[List.getElem?_append_right (by rw[h.len];exact hi)]at hq
   rw[List.getElem?_append_right hi]at ht
   rw[h.len]at hq
   obtain ⟨a,b,c,d⟩:=he _ q t hq ht;exact ⟨a,b,c.carry carryT,qw.carry carryT n d⟩
theorem j3 (w:World)(ty:TypeId){B n:Nat}{v x:Value}{us ts:List Tr}{T:Nat→Prop}(h:TGr B n w v us)(hx:qw T w (n+1) x ts)(hT:∀ b,T b→B≤b∧b<w.heap.size∧v.ownBlock≠some b)(hl:us.length+ts.length≤1048576)(hB:B≤w.heap.size) :
 ∃ v' w',(Builtin.append_ #[28,28] ty #[v,x]).run Tryz.prog w=.ok v' w'∧TGr B n w' v' (us++ts)∧w.grownBy w' v.ownBlock∧(v'.ownBlock=v.ownBlock∨v'.ownBlock=some w.heap.size):=by
 obtain ⟨i0,hi,hz0,hz1,hz2⟩:=info_parts treeInfo;obtain ⟨qs,hG⟩:=h;obtain ⟨a,cap,rfl,_,_⟩:=qw.shape (n+1) hx;cases a with
 | none =>
   have e:ts=[]:=by
    apply Classical.byContradiction
    intro hne;obtain ⟨a',cap',hv,_,_,h4⟩:=hx;obtain ⟨b,o,ha,_⟩:=h4 hne
    injection hv with hv _ _
    rw[ha]at hv
    cases hv
   subst e;refine ⟨v,w,?_,⟨qs,by rw[List.append_nil];exact hG⟩,⟨rfl,rfl,rfl,nR9 _,fun _ _ _=>rfl⟩,Or.inl rfl⟩
   rcases hG.own.2 with ⟨rfl,h0⟩|⟨g,cap,cur,rfl,_,_,hnc,_⟩
   · simp[Builtin.append_,run_underlying Tryz.underlying28,sizeOf,typeInfo,hi,Builtin.lenOf,Builtin.firstCells]
   · simp[Builtin.append_,run_underlying Tryz.underlying28,sizeOf,typeInfo,hi,Builtin.lenOf,Builtin.firstCells,hnc,storeCells]
 | some ad =>
   obtain ⟨ps,hpl,hpc,hp1,hpe⟩:=hx.quads;obtain ⟨v',w',hr,h2,h3,_,h5⟩:=run_append_own_at (P:=Tryz.prog) w B 28 ty 56 i0 _ 4 72 Tryz.underlying28 hi hz0 hz1 hz2 rfl (by decide) v us.length (quadCells qs) hG.own ad ts.length cap (quadCells ps) (by rw[y8,hpl]) hpc hp1 (by unfold maxLen;omega) (by omega) hB
   exact ⟨v',w',hr,⟨_,hG.more h2 hpl h3 h5 hT hpe⟩,h3,h5⟩
theorem zz {ops:Array Oper}{rest:List Oper}{o:Oper}{a:Act}{w:World}{Q:Exit→Act→World→Prop}(hgd:o.guard=none)(s x:Operand)
 (ho:o.op=.call { callee:=.builtin .append,args:=#[s,x],argTypes:=#[28,28] })
 (B n:Nat) (v vx:Value) (us ts:List Tr) (T:Nat→Prop) (hs:a.eval s=v) (hx:a.eval x=vx) (h:TGr B n w v us) (hX:qw T w (n+1) vx ts) (hT:∀ b,T b→B≤b∧b<w.heap.size∧v.ownBlock≠some b) (hl:us.length+ts.length≤1048576) (hB:B≤w.heap.size)
 (hK:∀ v' w',TGr B n w' v' (us++ts)→w.grownBy w' v.ownBlock→(v'.ownBlock=v.ownBlock∨v'.ownBlock=some w.heap.size)→wpList Tryz.prog ops Q rest (a.put o.dst v') w'):wpList Tryz.prog ops Q (o::rest) a w:=by
 refine wpList_plain hgd fun K hK'=>?_
 obtain ⟨v',w',hr,h1,h2,h3⟩:=j3 w o.type h hX hT hl hB;unfold Oper.wp execOp;simp only[ho,resolve,invoke,builtin,Sem.run_bind,Sem.run_pure,Result.andThen_ok,List.map_toArray,List.map_cons,List.map_nil,hs,hx,hr];exact hK' _ _ (hK v' w' h1 h2 h3)
theorem xM (n:Nat):rgt n []=true:=by cases n<;>rfl
theorem XO {n:Nat}{t:Tr}(h:qT t=true):(t.text||rgt n t.kids)=rgt n t.kids:=by
 cases htt:t.text with
 | false=>rfl
 | true =>
   have:t.kids=[]:=by
    simp[qT,htt]at h
    exact h.2
   rw[this,xM];rfl
theorem qca (d n:Nat)(f:Int→List Tr→Int)
    (hf:∀ room k,0≤room→Deep n k→f room k=if dep n k≤d∧(cnt n k:Int)≤room∧rgt n k=true then room-cnt n k else -1) :
    ∀ (l : List Tr) (p : Bool) (room : Int), 0 ≤ room → Deep (n + 1) l →
      rl f p room l=if dep n (nx l)≤d∧(cnt n (nx l):Int)≤room∧rgL (rgt n) p l=true then room-cnt n (nx l) else -1:=by
  intro l
  induction l with
  | nil =>
    intro p room h0 _;rw[nx_nil,yK,qQ,if_pos ⟨nZ9 _,by simpa using h0,rfl⟩]
    simp[rl]
  | cons t r ih =>
    intro p room h0 hd;have hk:Deep n t.kids:=hd t (List.mem_cons_self ..);have hr:Deep (n+1) r:=fun x hx=>hd x (List.mem_cons_of_mem _ hx)
    rw[xd,yr,zG];unfold rl;have hfk:=hf room t.kids h0 hk
    by_cases hA:(!qT t||(p&&t.text))=true
    · rw[if_pos hA, if_neg];rintro ⟨_,_,h3⟩;unfold rgL at h3
      cases h1:qT t<;>cases h2:(p&&t.text)<;>simp[h1,h2]at hA h3
    · rw[if_neg hA];have h1:qT t=true:=by cases h:qT t<;>simp[h]at hA ⊢
      have h2:(p&&t.text)=false:=by cases h:(p&&t.text)<;>simp[h]at hA ⊢
      have hg:rgL (rgt n) p (t::r)=(rgt n t.kids&&rgL (rgt n) t.text r):=by
        show (qT t&&!(p&&t.text)&&(t.text||rgt n t.kids)&&rgL (rgt n) t.text r)=_
        rw[h1,h2,XO h1];rfl
      rw[hg]
      by_cases hK:dep n t.kids≤d∧(cnt n t.kids:Int)≤room∧rgt n t.kids=true
      · rw[if_pos hK]at hfk
        rw[hfk,if_neg (by omega),ih t.text (room-cnt n t.kids) (by omega) hr]
        by_cases hR:dep n (nx r)≤d∧(cnt n (nx r):Int)≤room-cnt n t.kids∧rgL (rgt n) t.text r=true
        · rw[if_pos hR, if_pos ⟨by omega, by push_cast;omega, by rw[hK.2.2, hR.2.2];rfl⟩]
          push_cast;omega
        · rw[if_neg hR, if_neg];rintro ⟨a,b,c⟩;rw[hK.2.2]at c
          exact hR ⟨by omega,by push_cast at b;omega,by simpa using c⟩
      · rw[if_neg hK]at hfk
        rw[hfk,if_pos (by decide),if_neg]
        rintro ⟨a,b,c⟩;simp only[Bool.and_eq_true]at c
        exact hK ⟨by omega,by push_cast at b;omega,c.1⟩
theorem rb_eq:∀ (d n:Nat)(l:List Tr)(room:Int),0≤room→Deep n l →
 rb d room l=if dep n l≤d∧(cnt n l:Int)≤room∧rgt n l=true then room-cnt n l else -1:=by
 intro d
 induction d with
 | zero =>
   intro n l room h0 hd;unfold rb;cases l with
   | nil=>simp[yK,qQ,xM];omega
   | cons t r =>
     cases n with
     | zero=>cases (show t::r=[] from hd)
     | succ n =>
       rw[if_neg (by simp),if_neg]
       rintro ⟨a,_⟩;rw[jC]at a;omega
 | succ d ih =>
   intro n l room h0 hd;unfold rb;cases l with
   | nil=>simp[yK,qQ,xM];omega
   | cons t r =>
     cases n with
     | zero=>cases (show t::r=[] from hd)
     | succ n =>
       rw[if_neg (by simp)]
       generalize hl:t::r=l at *
       have hne:l≠[]:=by rw[←hl];simp
       rw[Xn n l hne,Zh n l]
       by_cases hrm:room<(l.length:Int)
       · rw[if_pos hrm, if_neg];rintro ⟨_,b,_⟩
         push_cast at b;omega
       · rw[if_neg hrm, qca d n (rb d) (fun room k h hk => ih n k room h hk) l false (room - l.length) (by omega) hd]
         by_cases hR:dep n (nx l)≤d∧(cnt n (nx l):Int)≤room-l.length∧rgL (rgt n) false l=true
         · rw[if_pos hR,if_pos ⟨by omega,by push_cast;omega,hR.2.2⟩];push_cast;omega
         · rw[if_neg hR, if_neg];rintro ⟨a,b,c⟩;exact hR ⟨by omega,by push_cast at b;omega,c⟩
theorem jL {n:Nat}{l:List Tr}(hd:Deep n l):q9 l=(decide (dep n l≤8)&&decide (cnt n l≤80)&&rgt n l):=by
 unfold q9;rw[rb_eq 8 n l 80 (by decide) hd]
 by_cases h:dep n l≤8∧(cnt n l:Int)≤80∧rgt n l=true
 · rw[if_pos h];have h2:cnt n l≤80:=by omega
   simp[h.1,h2,h.2.2];omega
 · rw[if_neg h];cases hr:rgt n l with
   | false=>simp
   | true =>
     have:¬ (dep n l≤8∧cnt n l≤80):=fun ⟨a,b⟩=>h ⟨a,by omega,hr⟩
     by_cases h1:dep n l≤8
     · have h2 : ¬ cnt n l ≤ 80 := fun b => this ⟨h1, b⟩
       simp[h2]
     · simp[h1]
theorem jY {n:Nat}{t:Tr}(hd:Deep n t.kids):zh t=(!t.text&&decide (dep (n+1) [t]<9)&&decide (cnt (n+1) [t]<81)&&rgt (n+1) [t]):=by
 have h:Deep (n+1) [t]:=by intro x hx;simp at hx;subst hx;exact hd
 unfold zh;rw[jL h];have e1:decide (dep (n+1) [t]≤8)=decide (dep (n+1) [t]<9):=by congr 1;apply propext;omega
 have e2:decide (cnt (n+1) [t]≤80)=decide (cnt (n+1) [t]<81):=by congr 1;apply propext;omega
 rw[e1,e2,Bool.and_assoc,Bool.and_assoc,Bool.and_assoc]
def groupCells:List (Value × Nat)→List Value
 | []=>[]
 | x::r=>x.1::.int .i64 (x.2:Int)::groupCells r
theorem jN (l:List (Value × Nat)):(groupCells l).length=l.length*2:=by
 induction l with
 | nil=>rfl
 | cons x r ih=>simp[groupCells,ih];omega
theorem yq (l m:List (Value × Nat)):groupCells (l++m)=groupCells l++groupCells m:=by
 induction l with
 | nil=>rfl
 | cons x r ih=>simp[groupCells,ih]
theorem ZQ {w:World}{B:Nat}{e:TypeId}{size g cap n:Nat}{xs ys:List Value}(h:w.ownsRow B e size (.slice (some ⟨g,0,none⟩) (n+1) cap) (n+1) (xs++ys))(hx:xs.length=n*size) :
 w.ownsRow B e size (.slice (some ⟨g,0,none⟩) n cap) n xs:=by
 obtain ⟨h1,h2⟩:=h
 rcases h2 with ⟨h0,_⟩|⟨g',cap',cur,hv,hg,hh,hn,hcap,hsz,htake⟩
 · cases h0
 · cases hv;refine ⟨hx,Or.inr ⟨g,cap,cur,rfl,hg,hh,by omega,hcap,hsz,?_⟩⟩
   have e1:cur.toList.take (n*size)=(cur.toList.take ((n+1)*size)).take (n*size):=by
    rw[List.take_take,Nat.min_eq_left (Nat.mul_le_mul_right _ (by omega))]
   rw[e1,htake,←hx,List.take_left]
structure Cst (B cb:Nat) (w:World) (dd cc:Nat) (v:Value) (G:List (Value × Nat)):Prop where
 base:B≤cb
 held:w.heap[cb]?=some (.cells #[.int .i64 (dd:Int),.int .i64 (cc:Int),v] 120 (0,0))
 own:w.ownsRow B 141 2 v G.length (groupCells G)
 slices:∀ x∈G,∃ a l c,x.1=.slice a l c
theorem Cst.lt {B cb:Nat}{w:World}{dd cc:Nat}{v:Value}{G:List (Value × Nat)}(h:Cst B cb w dd cc v G):cb<w.heap.size:=by
 rcases Nat.lt_or_ge cb w.heap.size with h'|h'
 · exact h'
 · have:=h.held;simp[Array.getElem?_eq_none h']at this
theorem Cst.apart {B cb:Nat}{w:World}{dd cc:Nat}{v:Value}{G:List (Value × Nat)}(h:Cst B cb w dd cc v G):v.ownBlock≠some cb:=by
 intro e;obtain ⟨_,c,fz,hc⟩:=qx h.own e;rw[h.held]at hc
 simp at hc
theorem Cst.shape {B cb:Nat}{w:World}{dd cc:Nat}{v:Value}{G:List (Value × Nat)}(h:Cst B cb w dd cc v G):∃ a c,v=.slice a G.length c:=by
 rcases h.own.2 with ⟨hv,h0⟩|⟨g,cap,cur,hv,_⟩
 · exact ⟨none,0,by rw[hv,h0]⟩
 · exact ⟨_,_,hv⟩
theorem Vm (B cb:Nat)(w:World)(dd cc:Nat)(v:Value)(G:List (Value × Nat))(x:Value)(d:Nat)(h:Cst B cb w dd cc v (G++[(x,d)]))(hBw:B≤w.heap.size) :
 Calls Tryz.prog 121 #[.pointer (some ⟨cb,2,none⟩)] w fun e w'=>e=.returned (.agg #[x,.int .i64 (d:Int)])∧∃ v',Cst B cb w' dd cc v' G∧v'.ownBlock=v.ownBlock∧(∀ b,b<w.heap.size→b≠cb→w'.heap[b]?=w.heap[b]?)∧Below B w w':=by
 have hap:=h.apart;have hlt:=h.lt;obtain ⟨hB,hj,hown,hsl⟩:=h;obtain ⟨xa,xl,xc,hx⟩:=hsl (x,d) (by simp)
 simp only at hx
 subst hx
 rcases hown.2 with ⟨_,h0⟩|⟨g,cap,cur,rfl,hg,hh,hc,hm,hs,ht⟩
 · simp at h0
 have hlen:(G++[(Value.slice xa xl xc,d)]).length=G.length+1:=by simp
 rw[hlen]at hown hj hc ht
 have c2:w.cell? ⟨cb,2,none⟩=some (.slice (some ⟨g,0,none⟩) (G.length+1) cap):=by rw[cH9 hj];rfl
 have f2:w.frozen? ⟨cb,2,none⟩=false:=fH9 hj 2;have hgl:=jN G
 have k0:w.cell? ⟨g,G.length*2,none⟩=some (.slice xa xl xc):=by
  rw[World.ownsRow.cellAt hown _ (by omega),yq,List.getElem?_append_right (by omega),hgl];simp[groupCells]
 have k1:w.cell? ⟨g,G.length*2+1,none⟩=some (.int .i64 (d:Int)):=by
  rw[World.ownsRow.cellAt hown _ (by omega),yq,List.getElem?_append_right (by omega),hgl];simp[groupCells]
 have hgs:g<w.heap.size:=World.block_lt_of_cell? w _ k0;unfold maxLen at hm
 have HJ:Hid (w.heap[cb]?=some (.cells #[.int .i64 (dd:Int),.int .i64 (cc:Int),.slice (some ⟨g,0,none⟩) (G.length+1) cap] 120 (0,0))):=hj;clear hj hgl
 go_enter Tryz.func121,Tryz.ntmps121
 go_wp2_with fail
 have hk:∀ b,b<w.heap.size→b≠cb→(((w.setCell ⟨cb,2,none⟩ (.slice (some ⟨g,0,none⟩) G.length cap)).alloc (.cells #[.slice xa xl xc,.int .i64 (d:Int)] 141)).alloc (.cells #[.slice xa xl xc,.int .i64 (d:Int)] 141)).heap[b]?=w.heap[b]?:=by
  intro b hb hbc;rw[Lib.alloc_old _ _ _ (by simp;omega),Lib.alloc_old _ _ _ (by simp;omega),Below.heap_setCell _ _ _ _ hbc]
 have hgc:g≠cb:=fun e=>hap (by rw[e];rfl)
 refine bodyPost_ret (v:=.agg #[.slice xa xl xc,.int .i64 (d:Int)]) (by simp[results,Tryz.results121,go_sem]) rfl ⟨rfl,.slice (some ⟨g,0,none⟩) G.length cap,⟨hB,?_,?_,fun y hy=>hsl y (by simp[hy])⟩,?_,hk,?_⟩
 · rw[Lib.alloc_old _ _ _ (by simp;omega), Lib.alloc_old _ _ _ (by simp;omega)]
   simp[World.setCell,Array.getElem?_modify,HJ.out]
 · rw[yq]at hown
   exact qF (ZQ hown (jN G)) fun b hb=>by cases hb;exact hk g hgs hgc
 · rfl
 · exact ((((Below.refl B w).setCell hB _).alloc (by simp;omega) _).alloc (by simp;omega) _)
theorem groupInfo:(Tryz.prog.info? 141).map (fun i=>(i.zero,i.size,i.bytes))=some (some (.agg #[.slice none 0 0,.int .i64 0]),2,32):=by kernel_rfl
theorem XX {ops:Array Oper}{o:Oper}{a:Act}{w:World}{K:Act→World→Prop}{Q:Exit→Act→World→Prop}{E:Prop}
 (hg:o.guard=none) (s x:Operand) (hop:o.op=Op.call { callee:=Callee.builtin Builtin.append,args:=#[s,x],argTypes:=#[118,118] })
 (B:Nat) (v:Value) (n:Nat) (xs:List Value) (hs:a.eval s=v) (hown:w.ownsRow B 141 2 v n xs) (ad:Addr) (sa:Option Addr) (sl sc:Nat) (d:Int) (hx:a.eval x=.slice (some ad) 1 1)
 (hnews:∀ j u,[Value.slice sa sl sc,Value.int .i64 d][j]?=some u→w.cell? (ad.add j)=some u) (hn:n≤1048576) (hB:B≤w.heap.size)
 (hK:∀ v' w',w'.ownsRow B 141 2 v' (n+1) (xs++[.slice sa sl sc,.int .i64 d])→w.grownBy w' v.ownBlock→(v'.ownBlock=v.ownBlock∨v'.ownBlock=some w.heap.size)→K (a.put o.dst v') w') :
 if Region.wanted o (yielded ops a.tmps)=true then Oper.wp Tryz.prog o a w K Q else E:=by
 have hw:Region.wanted o (yielded ops a.tmps)=true:=by simp[Region.wanted,hg]
 rw[if_pos hw];obtain ⟨i0,hi,hz0,hz1,hz2⟩:=info_parts groupInfo;obtain ⟨v',w',hr,h2,h3,_,h5⟩:=run_append_own_at (P:=Tryz.prog) w B 118 o.type 141 i0 _ 2 32 Tryz.underlying118 hi hz0 hz1 hz2 rfl (by decide) v n xs hown ad 1 1 [.slice sa sl sc,.int .i64 d] rfl hnews (by intro u hu;simp at hu;rcases hu with rfl|rfl<;>rfl) (by unfold maxLen;omega) (by omega) hB
 unfold Oper.wp;simp[execOp,hop,resolve,invoke,builtin,hs,hx,hr,Result.andThen];exact hK v' w' h2 h3 h5
structure CE where
 v:Value
 n:Nat
 ts:List Tr
 o:Nat
def csum (P:List CE):Nat:=(P.map fun e=>cnt e.n e.ts).sum
def jX (P:List CE):Nat:=(P.map fun e=>e.o+dep e.n e.ts).foldr max 0
def grp (e:CE):Value × Nat:=(e.v,e.o+1)
theorem jM (P Q:List CE):csum (P++Q)=csum P+csum Q:=by simp[csum]
theorem xq (P Q:List CE):jX (P++Q)=max (jX P) (jX Q):=by
 induction P with
 | nil=>simp[jX]
 | cons e r ih =>
   have h1:jX (e::r++Q)=max (e.o+dep e.n e.ts) (jX (r++Q)):=rfl;have h2:jX (e::r)=max (e.o+dep e.n e.ts) (jX r):=rfl;rw[h1,h2,ih];omega
def Kd (S:Nat→Prop)(w:World)(e:CE):Prop:=e.ts≠[]∧qw S w e.n e.v e.ts∧e.o+dep e.n e.ts≤1048577
structure Yn (S:Nat→Prop) (B cb:Nat) (w:World) (ds cs L:Nat) (o:Nat) (ts:List Tr) (dd cc:Nat) (wv:Value) (G:List (Value × Nat)) (w':World) (P:List CE) (dd' cc':Nat) (wv':Value):Prop where
 below:Below B w w'
 cst:Cst B cb w' dd' cc' wv' (G++P.map grp)
 row:wv'.ownBlock=wv.ownBlock∨∃ b,wv'.ownBlock=some b∧w.heap.size≤b
 frame:∀ b,b<w.heap.size→b≠cb→wv.ownBlock≠some b→w'.heap[b]?=w.heap[b]?
 pend:∀ e∈P,Kd S w e
 dmax:max dd' (jX P)=max dd ds
 csum:cc'+csum P=cc+cs
 more:cc≤cc'∧(0<L→cc+ts.length≤cc')
def YW (S:Nat→Prop)(B cb L:Nat):Prop:=∀ (n:Nat)(v:Value)(ts:List Tr)(o d dd cc:Nat)(wv:Value)(G:List (Value × Nat))(w:World),
 d=o+1→(∀ b,S b→b<w.heap.size∧b≠cb∧wv.ownBlock≠some b)→qw S w n v ts→Cst B cb w dd cc wv G→B≤w.heap.size→o+dep n ts≤1048577→dd≤1048577→cc+cnt n ts≤1048576→G.length+cnt n ts≤1048576 →
 Calls Tryz.prog 120 #[.pointer (some ⟨cb,0,none⟩),.agg #[v,.int .i64 (d:Int)],.int .i64 (L:Int)] w fun e w'=>e=.returned (.tuple #[]) ∧
  ∃ P dd' cc' wv',Yn S B cb w (if ts=[] then 0 else o+dep n ts) (cnt n ts) L o ts dd cc wv G w' P dd' cc' wv'
theorem Cst.later {B cb:Nat}{w w':World}{dd cc:Nat}{v:Value}{G:List (Value × Nat)}(h:Cst B cb w dd cc v G)(hb:Below w.heap.size w w'):Cst B cb w' dd cc v G :=
 ⟨h.base,by rw[hb.block cb h.lt];exact h.held,qH h.own hb,h.slices⟩
theorem Ke (S:Nat→Prop)(B cb L n:Nat)(v:Value)(o d dd cc:Nat)(wv:Value)(G:List (Value × Nat))(w:World)(h:qw S w n v [])(hc:Cst B cb w dd cc wv G)(hB:B≤w.heap.size) :
 Calls Tryz.prog 120 #[.pointer (some ⟨cb,0,none⟩),.agg #[v,.int .i64 (d:Int)],.int .i64 (L:Int)] w fun e w'=>e=.returned (.tuple #[]) ∧
  ∃ P dd' cc' wv',Yn S B cb w 0 (cnt n []) L o [] dd cc wv G w' P dd' cc' wv':=by
 obtain ⟨a,c,rfl,_,_⟩:=qw.shape n h;simp only[List.length_nil]
 go_enter Tryz.func120,Tryz.ntmps120
 go_wp2_with fail
 go_returns
 refine ⟨rfl,[],dd,cc,wv,?_⟩;refine ⟨(Below.refl B w).alloc hB _,by simpa using hc.later (Below.alloc1 w _),Or.inl rfl,fun b hb _ _=>Below.heap_alloc _ _ _ hb,by simp,by simp[jX],by simp[Go.Proofs.YtnppmdpmippcoaaGreatDoor.csum,qQ],nR9 _,fun _=>by simp⟩
theorem Js {W:World}{ad:Nat}{x y:Value}(h0:W.cell? ⟨ad,0,none⟩=some x)(h1:W.cell? ⟨ad,1,none⟩=some y):∀ j u,[x,y][j]?=some u→W.cell? ((⟨ad,0,none⟩:Addr).add j)=some u:=by
 intro j u hj
 match j,hj with
 | 0,hj=>simp at hj;subst hj;exact h0
 | 1,hj=>simp at hj;subst hj;exact h1
theorem Vh {w:World}{B n:Nat}{e:TypeId}{size:Nat}{v:Value}{xs:List Value}(h:w.ownsRow B e size v n xs):∃ a l c,v=.slice a l c:=by
 rcases h.2 with ⟨hv,_⟩|⟨g,cap,cur,hv,_⟩
 · exact ⟨_,_,_,hv⟩
 · exact ⟨_,_,_,hv⟩
theorem Zm {B cb:Nat}{W X w1:World}{dd cc:Nat}{wv:Value}{G:List (Value × Nat)}(h:Cst B cb W dd cc wv G)(hX:Below W.heap.size W X)(hg:X.grownBy w1 wv.ownBlock) :
 w1.heap[cb]?=some (.cells #[.int .i64 (dd:Int),.int .i64 (cc:Int),wv] 120 (0,0)):=by
 rw[hg.block cb (Nat.lt_of_lt_of_le h.lt hX.size) (fun e=>h.apart e.symm),hX.block cb h.lt]
 exact h.held
theorem qaE {S:Nat→Prop}{B cb:Nat}{w W0 w1:World}{n o d dd cc:Nat}{ts:List Tr}{va wa a1:Option Addr}{vc wc l1 c1:Nat}{G:List (Value × Nat)}{c:Obj}(hd:d=o+1)(hne:ts≠[])
 (hT:qw S w n (.slice va ts.length vc) ts) (hod:o+dep n ts≤1048577) (hBw:B≤w.heap.size) (hbx:Below w.heap.size w W0) (hX:Cst B cb W0 dd cc (.slice wa G.length wc) G)
 (hown1:w1.ownsRow B 141 2 (.slice a1 l1 c1) (G.length+1) (groupCells G++[.slice va ts.length vc,.int .i64 (d:Int)]))
 (hgr1:(W0.alloc c).drew.grownBy w1 (Value.slice wa G.length wc).ownBlock)
 (hat1:(Value.slice a1 l1 c1).ownBlock=(Value.slice wa G.length wc).ownBlock∨(Value.slice a1 l1 c1).ownBlock=some (W0.alloc c).drew.heap.size) :
 Yn S B cb w (o+dep n ts) (cnt n ts) 0 o ts dd cc (.slice wa G.length wc) G (w1.setCell ⟨cb,2,none⟩ (.slice a1 l1 c1)) [⟨.slice va ts.length vc,n,ts,o⟩] dd cc (.slice a1 l1 c1):=by
 have hH:=Zm hX (Below.alloc1 W0 c).drew hgr1;have hsz:=hbx.size;have hsX:(W0.alloc c).drew.heap.size=W0.heap.size+1:=by simp[World.drew]
 have hap:(Value.slice a1 l1 c1).ownBlock≠some cb:=by
  intro e;obtain ⟨_,cs,fz,hc⟩:=qx hown1 e;rw[hH]at hc
  simp at hc
 subst hd;refine ⟨?_,⟨hX.base,?_,?_,?_⟩,?_,?_,?_,?_,?_,nR9 _,fun h=>by omega⟩
 · exact (((((hbx.mono hBw).alloc (by omega) c).drew).grown hgr1 (by omega) (fun k hk=>(hX.own.lt k hk).1))).setCell hX.base _
 · simp[World.setCell,Array.getElem?_modify,hH]
 · have e1 : (G ++ List.map grp [(⟨.slice va ts.length vc, n, ts, o⟩ : CE)]).length = G.length + 1 := by simp
   rw[e1,yq];exact qF hown1 fun b hb=>Below.heap_setCell _ _ _ _ (fun e=>hap (by rw[hb,e]))
 · intro x hx
   rcases List.mem_append.1 hx with hx|hx
   · exact hX.slices x hx
   · simp[grp]at hx;subst hx;exact ⟨_,_,_,rfl⟩
 · rcases hat1 with h | h
   · exact Or.inl h
   · exact Or.inr ⟨_,h,by omega⟩
 · intro b hb h1 h2;rw[Below.heap_setCell _ _ _ _ h1,hgr1.block b (by omega) (fun e=>h2 e.symm)]
   show (W0.alloc c).heap[b]?=_
   rw[Lib.alloc_old _ _ _ (by omega),hbx.block b hb]
 · intro e he;simp at he
   subst he;exact ⟨hne,hT,hod⟩
 · simp[jX]
 · simp[Go.Proofs.YtnppmdpmippcoaaGreatDoor.csum]
theorem add_zero (S:Nat→Prop)(B cb:Nat):YW S B cb 0:=by
 intro n v ts o d dd cc wv G w hd _ hT hC hBw hod hdd hcc hG;have HD:Hid (d=o+1):=hd
 by_cases hne:ts=[]
 · subst hne
   simpa using Ke S B cb 0 n v o d dd cc wv G w hT hC hBw
 · have hTo : Hid (qw S w n v ts) := hT;obtain ⟨va,vc,rfl,_,hvm⟩:=qw.shape n hT;have hl0:0<ts.length:=List.length_pos_iff.2 hne
   have hcn:1≤cnt n ts:=by
    have:=(qw.deep n hT).len;omega
   have hlt:=hC.lt;have hap:=hC.apart
   have hne1:((ts.length:Int)==0)=false:=by
    have:(ts.length:Int)≠0:=by omega
    simpa using this
   have hbx:=Below.alloc1 w (.cells #[.slice va ts.length vc,.int .i64 (d:Int)] 141);have hX:=hC.later hbx;have b0:(w.alloc (.cells #[.slice va ts.length vc,.int .i64 (d:Int)] 141)).cell? ⟨w.heap.size,0,none⟩=some (.slice va ts.length vc):=by simp
   have b1:(w.alloc (.cells #[.slice va ts.length vc,.int .i64 (d:Int)] 141)).cell? ⟨w.heap.size,1,none⟩=some (.int .i64 (d:Int)):=by simp
   have hsz:(w.alloc (.cells #[.slice va ts.length vc,.int .i64 (d:Int)] 141)).heap.size=w.heap.size+1:=by simp
   have HO:Hid (o+dep n ts≤1048577):=hod;clear hT hd hod hcc hdd;unfold maxLen at hvm
   go_enter Tryz.func120,Tryz.ntmps120
   go_wp2_with fail
   generalize w.alloc (.cells #[.slice va ts.length vc,.int .i64 (d:Int)] 141)=W0 at hbx hX b0 b1 hsz ⊢
   obtain ⟨wa,wc,rfl⟩:=hC.shape;have HS:Hid (W0.heap.size=w.heap.size+1):=hsz;have hB0:B≤W0.heap.size:=by omega
   have hszl:w.heap.size<W0.heap.size:=by omega
   clear hsz;have k2:W0.cell? ⟨cb,2,none⟩=some (.slice wa G.length wc):=by rw[cH9 hX.held];rfl
   have kf:W0.frozen? ⟨cb,2,none⟩=false:=fH9 hX.held 2;have hcb0:cb<W0.heap.size:=hX.lt;have HX:Hid (Cst B cb W0 dd cc (.slice wa G.length wc) G):=hX;clear hX hC;have hrow:(W0.alloc (.cells #[.slice va ts.length vc,.int .i64 (d:Int)] 141)).drew.ownsRow B 141 2 (.slice wa G.length wc) G.length (groupCells G):=HX.out.own.alloc _;have hgc:∀ j u,[Value.slice va ts.length vc,Value.int .i64 (d:Int)][j]?=some u→(W0.alloc (.cells #[.slice va ts.length vc,.int .i64 (d:Int)] 141)).drew.cell? ((⟨W0.heap.size,0,none⟩:Addr).add j)=some u:=Js (W:=(W0.alloc (.cells #[.slice va ts.length vc,.int .i64 (d:Int)] 141)).drew) (by simp) (by simp)
   have HR:Hid _:=hrow;have HGC:Hid _:=hgc;clear hrow hgc;have hGl:G.length≤1048576:=by omega
   have HH:Hid (∀ w1,(W0.alloc (.cells #[.slice va ts.length vc,.int .i64 (d:Int)] 141)).drew.grownBy w1 (Value.slice wa G.length wc).ownBlock→w1.heap[cb]?=some (.cells #[.int .i64 (dd:Int),.int .i64 (cc:Int),.slice wa G.length wc] 120 (0,0))):=fun w1 hg=>Zm HX.out (Below.alloc1 W0 _).drew hg
   go_region_law (first
    | (refine XX (by rfl) (.tmp 17) (.tmp 19) (by rfl) B (.slice wa G.length wc) G.length (groupCells G) (by simp[Act.eval]) HR.out ⟨W0.heap.size,0,none⟩ va ts.length vc (d:Int) (by simp[Act.eval]) HGC.out hGl (by simp;omega) ?_;intro v1 w1 hown1 hgr1 hat1;obtain ⟨a1,l1,c1,rfl⟩:=Vh hown1;have hj1:=cH9 (HH.out w1 hgr1) 2;have hf1:=fH9 (HH.out w1 hgr1) 2;simp at hj1))
   all_goals
    go_wp2_with fail
    go_returns
    exact ⟨rfl,_,_,_,_,qaE HD.out hne hTo.out HO.out hBw hbx HX.out hown1 hgr1 hat1⟩
section
attribute [local go_sem] qD
structure ZZ (S:Nat→Prop) (B cb:Nat) (w:World) (m o k:Nat) (ts:List Tr) (bx by_:Value) (dd cc:Nat) (wv:Value) (G:List (Value × Nat)) (w':World) (P:List CE) (dd' cc':Nat) (wv':Value):Prop where
 below:Below B w w'
 cst:Cst B cb w' dd' cc' wv' (G++P.map grp)
 row:wv'.ownBlock=wv.ownBlock∨∃ b,wv'.ownBlock=some b∧w.heap.size+1≤b
 frame:∀ b,b<w.heap.size→b≠cb→wv.ownBlock≠some b→w'.heap[b]?=w.heap[b]?
 box0:w'.cell? ⟨w.heap.size,0,none⟩=some bx
 box1:w'.cell? ⟨w.heap.size,1,none⟩=some by_
 size:w.heap.size+1≤w'.heap.size
 pend:∀ e∈P,Kd S w e
 dmax:max dd' (jX P)=max dd (max (o+1) (o+dep (m+1) (ts.take k)))
 csum:cc'+csum P=cc+ts.length+cnt m (nx (ts.take k))
 more:cc+ts.length≤cc'
theorem Jg {S:Nat→Prop}{w:World}{P:List CE}(h:∀ e∈P,Kd S w e):P.length≤csum P:=by
 induction P with
 | nil=>simp
 | cons e r ih =>
   have h1:=ih (fun x hx=>h x (List.mem_cons_of_mem _ hx))
   obtain ⟨h2,h3,_⟩:=h e List.mem_cons_self;have h4:=(qw.deep e.n h3).len;have h5:=List.length_pos_iff.2 h2;have h6:csum (e::r)=cnt e.n e.ts+csum r:=by simp[csum]
   simp only[List.length_cons];omega
theorem XE {S:Nat→Prop}{B cb:Nat}{w:World}{m o k L:Nat}{ts:List Tr}{bx by_:Value}{dd cc:Nat}{wv:Value}{G:List (Value × Nat)}{wr w3:World}{P P1:List CE}{dd' cc' dd3 cc3:Nat}{wv' wv3:Value}{t:Tr}
 (hS:∀ b,S b→wr.heap[b]?=w.heap[b]?) (I:ZZ S B cb w m o k ts bx by_ dd cc wv G wr P dd' cc' wv') (hwv:∀ b,wv.ownBlock=some b→b<w.heap.size) (hcb:cb<w.heap.size) (hsn:ts.take (k+1)=ts.take k++[t])
 (J:Yn S B cb wr (if t.kids=[] then 0 else o+1+dep m t.kids) (cnt m t.kids) L (o+1) t.kids dd' cc' wv' (G++P.map grp) w3 P1 dd3 cc3 wv3) :
 ZZ S B cb w m o (k+1) ts bx by_ dd cc wv G w3 (P++P1) dd3 cc3 wv3:=by
 have hsz3:=J.below.size;have hszr:=I.size
 have hrow:∀ b,b<w.heap.size+1→wv.ownBlock≠some b→wv'.ownBlock≠some b:=by
  intro b hb h1 h2
  rcases I.row with h|⟨b',h,h3⟩
  · exact h1 (h.symm.trans h2)
  · rw[h]at h2;cases h2;omega
 have hbox:w3.heap[w.heap.size]?=wr.heap[w.heap.size]?:=J.frame _ (by omega) (by omega) (hrow _ (by omega) (fun e=>by have:=hwv _ e;omega))
 refine ⟨I.below.trans J.below,?_,?_,?_,?_,?_,by omega,?_,?_,?_,?_⟩
 · have:=J.cst;simpa using this
 · rcases J.row with h | ⟨b, h, h1⟩
   · rw[h];exact I.row
   · exact Or.inr ⟨b,h,by omega⟩
 · intro b hb h1 h2;rw[J.frame b (by omega) h1 (hrow b (by omega) h2),I.frame b hb h1 h2]
 · rw[World.cell?_of_block (a:=⟨w.heap.size,0,none⟩) hbox];exact I.box0
 · rw[World.cell?_of_block (a:=⟨w.heap.size,1,none⟩) hbox];exact I.box1
 · intro e he
   rcases List.mem_append.1 he with he|he
   · exact I.pend e he
   · obtain ⟨h1, h2, h3⟩ := J.pend e he;exact ⟨h1,qw.carry (fun b hb=>⟨hb,(hS b hb).symm⟩) e.n h2,h3⟩
 · rw[xq, hsn, yr, jC, yK];have h1:=J.dmax;have h2:=I.dmax
   by_cases hk:t.kids=[]
   · rw[if_pos hk]at h1
     rw[hk,yK];omega
   · rw[if_neg hk]at h1
     omega
 · rw[jM, hsn, jZ, xd, nx_nil, List.append_nil, zG];have h1:=J.csum;have h2:=I.csum;omega
 · have:=J.more.1;have:=I.more;omega
theorem JH {S:Nat→Prop}{B cb:Nat}{w W0:World}{m o d:Nat}{ts:List Tr}{bx by_:Value}{dd cc:Nat}{wv:Value}{G:List (Value × Nat)}(hd:d=o+1)(hBw:B≤w.heap.size)(hcb:cb<w.heap.size)(hsz:W0.heap.size=w.heap.size+1)(hbx:Below w.heap.size w W0)(hX:Cst B cb W0 dd cc wv G)
 (b0:W0.cell? ⟨w.heap.size,0,none⟩=some bx) (b1:W0.cell? ⟨w.heap.size,1,none⟩=some by_) :
 ZZ S B cb w m o 0 ts bx by_ dd cc wv G ((W0.setCell ⟨cb,0,none⟩ (.int .i64 (max (dd:Int) (d:Int)))).setCell ⟨cb,1,none⟩ (.int .i64 ((cc:Int)+(ts.length:Int)))).drew.drew [] (max dd d) (cc+ts.length) wv:=by
 have hk:∀ b,b≠cb→((W0.setCell ⟨cb,0,none⟩ (.int .i64 (max (dd:Int) (d:Int)))).setCell ⟨cb,1,none⟩ (.int .i64 ((cc:Int)+(ts.length:Int)))).drew.drew.heap[b]?=W0.heap[b]?:=by
  intro b hb
  show ((W0.setCell ⟨cb,0,none⟩ (.int .i64 (max (dd:Int) (d:Int)))).setCell ⟨cb,1,none⟩ (.int .i64 ((cc:Int)+(ts.length:Int)))).heap[b]?=_
  rw[Below.heap_setCell _ _ _ _ hb,Below.heap_setCell _ _ _ _ hb]
 subst hd;refine ⟨((((hbx.mono hBw).setCell hX.base _).setCell hX.base _).drew).drew,⟨hX.base,?_,?_,?_⟩,Or.inl rfl,?_,?_,?_,?_,by simp,?_,?_,nR9 _⟩
 · show ((W0.setCell ⟨cb, 0, none⟩ _).setCell ⟨cb, 1, none⟩ _).heap[cb]? = _
   have e1:(((max dd (o+1):Nat)):Int)=max (dd:Int) ((o+1:Nat):Int):=by omega
   have e2:(((cc+ts.length:Nat)):Int)=(cc:Int)+(ts.length:Int):=by omega
   rw[e1,e2];simp[World.setCell,Array.getElem?_modify,hX.held]
 · simp only[List.map_nil, List.append_nil];exact qF hX.own fun b hb=>hk b (fun e=>hX.apart (by rw[hb,e]))
 · simp only[List.map_nil, List.append_nil];exact hX.slices
 · intro b hb h1 _;rw[hk b h1,hbx.block b hb]
 · rw[World.cell?_of_block (a:=⟨w.heap.size,0,none⟩) (hk w.heap.size (by omega))];exact b0
 · rw[World.cell?_of_block (a:=⟨w.heap.size,1,none⟩) (hk w.heap.size (by omega))];exact b1
 · show w.heap.size + 1 ≤ ((W0.setCell ⟨cb, 0, none⟩ _).setCell ⟨cb, 1, none⟩ _).heap.size
   simp;omega
 · simp[jX,yK]
 · simp[Go.Proofs.YtnppmdpmippcoaaGreatDoor.csum,nx_nil,qQ]
theorem XF {S:Nat→Prop}{B cb:Nat}{w:World}{m o L:Nat}{ts:List Tr}{bx by_:Value}{dd cc:Nat}{wv:Value}{G:List (Value × Nat)}{wr:World}{P:List CE}{dd' cc':Nat}{wv':Value}
 (hne:ts≠[]) (I:ZZ S B cb w m o ts.length ts bx by_ dd cc wv G wr P dd' cc' wv'):Yn S B cb w (o+dep (m+1) ts) (cnt (m+1) ts) L o ts dd cc wv G wr P dd' cc' wv':=by
 refine ⟨I.below,I.cst,?_,I.frame,I.pend,?_,?_,?_,fun _=>I.more⟩
 · rcases I.row with h | ⟨b, h, h1⟩
   · exact Or.inl h
   · exact Or.inr ⟨b,h,by omega⟩
 · have h := I.dmax;rw[List.take_length]at h
   rw[h,Xn m ts hne];omega
 · have h := I.csum;rw[List.take_length]at h
   rw[h,Zh m ts];omega
 · have:=I.more;omega
theorem Yn.undrew {S:Nat→Prop}{B cb:Nat}{w:World}{ds cs L o:Nat}{ts:List Tr}{dd cc:Nat}{wv:Value}{G:List (Value × Nat)}{w':World}{P:List CE}{dd' cc':Nat}{wv':Value}
    (h:Yn S B cb w.drew ds cs L o ts dd cc wv G w' P dd' cc' wv'):Yn S B cb w ds cs L o ts dd cc wv G w' P dd' cc' wv' :=
  ⟨(Below.refl B w).drew.trans h.below, h.cst, h.row, h.frame, fun e he => by
    obtain ⟨h1,h2,h3⟩:=h.pend e he;exact ⟨h1,qw.carry (w:=w.drew) (w':=w) (fun b hb=>⟨hb,rfl⟩) e.n h2,h3⟩,h.dmax,h.csum,h.more⟩
theorem Vx (S:Nat→Prop)(B cb:Nat)(L:Nat)(hL:L<1000)(ih:YW S B cb L):YW S B cb (L+1):=by
 intro n v ts o d dd cc wv G w hd hS0 hT hC hBw hod hdd hcc hG;have HS0:Hid (∀ b,S b→b<w.heap.size∧b≠cb∧wv.ownBlock≠some b):=hS0;clear hS0;have HD:Hid (d=o+1):=hd
 by_cases hne:ts=[]
 · subst hne
   simpa using Ke S B cb (L+1) n v o d dd cc wv G w hT hC hBw
 · have hTo : Hid (qw S w n v ts) := hT;obtain ⟨va,vc,rfl,_,hvm⟩:=qw.shape n hT;have hl0:0<ts.length:=List.length_pos_iff.2 hne;have hcn:=(qw.deep n hT).len;have hlt:=hC.lt;have hap:=hC.apart
   have hne1:((ts.length:Int)==0)=false:=by
    have:(ts.length:Int)≠0:=by omega
    simpa using this
   have hne2:((((L+1:Nat):Int))==0)=false:=by
    have:(((L+1:Nat):Int))≠0:=by omega
    simpa using this
   obtain ⟨M,hM⟩:∃ M,L+1=M:=⟨_,rfl⟩;rw[hM]at hne2 ⊢
   have hbx:=Below.alloc1 w (.cells #[.slice va ts.length vc,.int .i64 (d:Int)] 141);have hX:=hC.later hbx;have b0:(w.alloc (.cells #[.slice va ts.length vc,.int .i64 (d:Int)] 141)).cell? ⟨w.heap.size,0,none⟩=some (.slice va ts.length vc):=by simp
   have b1:(w.alloc (.cells #[.slice va ts.length vc,.int .i64 (d:Int)] 141)).cell? ⟨w.heap.size,1,none⟩=some (.int .i64 (d:Int)):=by simp
   have hsz:(w.alloc (.cells #[.slice va ts.length vc,.int .i64 (d:Int)] 141)).heap.size=w.heap.size+1:=by simp
   have HO:Hid (o+dep n ts≤1048577):=hod;have HIH:Hid (YW S B cb L):=ih;have HM:Hid (L+1=M):=hM;clear hT hd ih hM;unfold maxLen at hvm
   go_enter Tryz.func120,Tryz.ntmps120
   go_wp2_with fail
   generalize w.alloc (.cells #[.slice va ts.length vc,.int .i64 (d:Int)] 141)=W0 at hbx hX b0 b1 hsz ⊢
   have HS:Hid (W0.heap.size=w.heap.size+1):=hsz;have hB0:B≤W0.heap.size:=by omega
   have hszl:w.heap.size<W0.heap.size:=by omega
   have hcw:cb≠w.heap.size:=by omega
   clear hsz;have k0:W0.cell? ⟨cb,0,none⟩=some (.int .i64 (dd:Int)):=by rw[cH9 hX.held];rfl
   have k1:W0.cell? ⟨cb,1,none⟩=some (.int .i64 (cc:Int)):=by rw[cH9 hX.held];rfl
   have kf0:W0.frozen? ⟨cb,0,none⟩=false:=fH9 hX.held 0;have kf1:W0.frozen? ⟨cb,1,none⟩=false:=fH9 hX.held 1;have HX:Hid (Cst B cb W0 dd cc wv G):=hX;have HWV:Hid (∀ b,wv.ownBlock=some b→b<w.heap.size):=fun b hb=>(hC.own.lt b hb).2
   clear hX hC
   go_region
   go_wp2_with fail
   go_region
   go_wp2_with fail;cases n with
   | zero=>exact absurd hTo.out.1 hne
   | succ m =>
   have hwv:∀ b,wv.ownBlock=some b→b<w.heap.size:=fun b hb=>HWV.out b hb
   have HW:Hid (∀ b,wv.ownBlock=some b→b<w.heap.size):=hwv;clear hwv
   go_loopg [46] ts.length (fun g i wr=>∃ (k:Nat) (P:List CE) (dd' cc':Nat) (wv':Value),k+g=ts.length∧i=.int .i64 k∧ZZ S B cb w m o k ts (.slice va ts.length vc) (.int .i64 (d:Int)) dd cc wv G wr P dd' cc' wv')
   case atStart => exact ⟨0,[],_,_,_,by omega,rfl,JH HD.out hBw hlt HS.out hbx HX.out b0 b1⟩
   case round =>
    obtain ⟨k,P,dd',cc',wv',hk,rfl,I⟩:=hrel;have HI:Hid (ZZ S B cb w m o k ts (.slice va ts.length vc) (.int .i64 (d:Int)) dd cc wv G wr P dd' cc' wv'):=I;have x0:=I.box0;have x1:=I.box1;have hBr:=I.below;have hsr:=I.size;clear I b0 b1 k0 k1 kf0 kf1 HX hbx hcw hB0 hszl HS
    by_cases hlt':k<ts.length
    · obtain ⟨_, _, hve, _, _, h4⟩ := hTo.out;obtain ⟨b,o',hao,hs,hcc'⟩:=h4 hne
      injection hve with e1 e2 e3
      subst e1;subst hao;obtain ⟨t,ht⟩:∃ t,ts[k]?=some t:=⟨ts[k],by simp[hlt']⟩
      obtain ⟨xa,xk,c0,c1,c2,c3,hat,hkt⟩:=hcc' k t ht;obtain ⟨ka,kc,rfl,_,hkm⟩:=qw.shape m hkt;have hkeep:∀ b,S b→wr.heap[b]?=w.heap[b]?:=fun b hb=>HI.out.frame b (HS0.out b hb).1 (HS0.out b hb).2.1 (HS0.out b hb).2.2
      have HKEEP:Hid (∀ b,S b→wr.heap[b]?=w.heap[b]?):=hkeep;rw[←World.cell?_of_block (a:=⟨b,o'+k*4+3,none⟩) (hkeep b hs)]at c3
      have hsn:ts.take (k+1)=ts.take k++[t]:=by
       rw[List.take_succ_eq_append_getElem hlt'];congr 2;simpa[hlt'] using ht
      have HSN:Hid (ts.take (k+1)=ts.take k++[t]):=hsn;have hkT:qw S wr m (.slice ka t.kids.length kc) t.kids:=qw.carry (fun b hb=>⟨hb,hkeep b hb⟩) m hkt
      have HKT:Hid (qw S wr m (.slice ka t.kids.length kc) t.kids):=hkT
      have hkids:dep m t.kids+1≤dep (m+1) ts∧cnt m (nx (ts.take (k+1)))≤cnt m (nx ts)∧dep (m+1) (ts.take k)≤dep (m+1) ts:=by
       refine ⟨?_,?_,?_⟩
       · obtain ⟨a, b, e⟩ := List.append_of_mem (List.mem_of_getElem? ht);rw[e,yr,jC];omega
       · have e : nx ts = nx (ts.take (k + 1)) ++ nx (ts.drop (k + 1)) := by rw[←jZ, List.take_append_drop]
         rw[e,zG];omega
       · have e : dep (m + 1) ts = max (dep (m + 1) (ts.take k)) (dep (m + 1) (ts.drop k)) := by rw[←yr, List.take_append_drop]
         omega
      have HCALL:Hid (Calls Tryz.prog 120 #[.pointer (some ⟨cb,0,none⟩),.agg #[.slice ka t.kids.length kc,.int .i64 ((d:Int)+1)],.int .i64 ((M:Int)-1)] wr.drew fun e w'=>∃ r,e=.returned r∧(r=.tuple #[]∧∃ P1 dd3 cc3 wv3,Yn S B cb wr (if t.kids=[] then 0 else o+1+dep m t.kids) (cnt m t.kids) L (o+1) t.kids dd' cc' wv' (G++P.map grp) w' P1 dd3 cc3 wv3)):=by
       have I:=HI.out;have h1:=I.dmax;have h2:=I.csum;have h3:=Jg I.pend;have h4:=I.more;have h5:=Zh m ts;obtain ⟨h6,h7,h8⟩:=hkids;rw[hsn,jZ,xd,nx_nil,List.append_nil,zG]at h7
       have hd:=HD.out
       have hfree:∀ b,S b→b<wr.drew.heap.size∧b≠cb∧wv'.ownBlock≠some b:=by
        intro b hb;obtain ⟨q1,q2,q3⟩:=HS0.out b hb;refine ⟨Nat.lt_of_lt_of_le q1 (Nat.le_trans (Nat.le_succ _) I.size),q2,fun h=>?_⟩
        rcases I.row with h'|⟨b',h',h''⟩
        · exact q3 (h'.symm.trans h)
        · rw[h']at h;cases h;omega
       have hcst:Cst B cb wr.drew dd' cc' wv' (G++P.map grp):=⟨I.cst.base,I.cst.held,I.cst.own,I.cst.slices⟩;have hTd:qw S wr.drew m (.slice ka t.kids.length kc) t.kids:=qw.carry (w:=wr) (w':=wr.drew) (fun b hb=>⟨hb,rfl⟩) m HKT.out
       have:=HIH.out m (.slice ka t.kids.length kc) t.kids (o+1) (d+1) dd' cc' wv' (G++P.map grp) wr.drew (by omega) hfree hTd hcst (by show B≤wr.heap.size;omega) (by omega) (by omega) (by omega) (by rw[List.length_append,List.length_map];omega)
       have e1:((d+1:Nat):Int)=(d:Int)+1:=by omega
       have e2:(L:Int)=(M:Int)-1:=by have:=HM.out;omega
       rw[e1,e2]at this
       refine this.mono ?_;rintro e w' ⟨rfl,P1,dd3,cc3,wv3,J⟩;exact ⟨_,rfl,rfl,P1,dd3,cc3,wv3,J.undrew⟩
      have hkb:(k:Int)<(ts.length:Int):=by omega
      have hdb:d≤1048578:=by have:=HD.out;omega
      have hMb:1≤M∧M≤1000:=by have:=HM.out;omega
      clear c0 c1 c2 hat hkt hkT hcc' h4 e2 e3 ht hsn hs hkids hkeep;go_wp2_with fail
      go_region_law (first
       | (refine zy (by rfl) 120 #[.pointer (some ⟨cb,0,none⟩),.agg #[.slice ka t.kids.length kc,.int .i64 ((d:Int)+1)],.int .i64 ((M:Int)-1)] (by go_simp;exact ⟨IntWalk.i64_in _ (by omega),IntWalk.i64_in _ (by omega)⟩) _ HCALL.out ?_;intro r w3 hR;obtain ⟨hr,P1,dd3,cc3,wv3,J⟩:=hR))
      all_goals
       go_wp2_with fail
       go_roundg (ts.length-(k+1))
       case measure => omega
       case rel => exact ⟨k+1,_,_,_,_,by omega,by go_num,XE HKEEP.out HI.out HW.out hlt HSN.out J⟩
    · have hkk : k = ts.length := by omega
      subst hkk;go_wp2_with fail
      go_returns
      exact ⟨rfl,_,_,_,_,XF hne HI.out⟩
end
section
attribute [local go_sem] qD
theorem qaD (S:Nat→Prop)(B cb:Nat):∀ L,L≤1000→YW S B cb L:=by
 intro L
 induction L with
 | zero=>intro _;exact add_zero S B cb
 | succ L ih=>intro h;exact Vx S B cb L (by omega) (ih (by omega))
structure qbs (S:Nat→Prop) (B cb:Nat) (w:World) (D C:Nat) (w':World) (P:List CE) (dd cc:Nat) (wv:Value):Prop where
 below:Below B w w'
 cst:Cst B cb w' dd cc wv (P.map grp)
 keep:∀ b,S b→w'.heap[b]?=w.heap[b]?
 free:∀ b,S b→wv.ownBlock≠some b
 pend:∀ e∈P,Kd S w e
 dmax:max dd (jX P)=D
 csum:cc+csum P=C
theorem KK {S:Nat→Prop}{B cb n:Nat}{va:Option Addr}{vc:Nat}{ts:List Tr}{w:World}(hS:∀ b,S b→b<w.heap.size∧b≠cb)(hne:ts≠[])(hT:qw S w n (.slice va ts.length vc) ts)(hD:dep n ts≤1048577)(hC:Cst B cb w 0 0 (.slice none 0 0) [])(hBw:B≤w.heap.size) :
 qbs S B cb w (dep n ts) (cnt n ts) ((w.setCell ⟨cb,2,none⟩ (.slice (some ⟨w.heap.size,0,none⟩) 1 1)).alloc (.cells #[.slice va ts.length vc,.int .i64 1] 141)) [⟨.slice va ts.length vc,n,ts,0⟩] 0 0 (.slice (some ⟨w.heap.size,0,none⟩) 1 1):=by
 have hlt:=hC.lt;refine ⟨((Below.refl B w).setCell hC.base _).alloc (by simp;omega) _,⟨hC.base,?_,?_,?_⟩,?_,?_,?_,?_,?_⟩
 · rw[Lib.alloc_old _ _ _ (by simp;omega)]
   simp[World.setCell,Array.getElem?_modify,hC.held]
 · have := World.ownsRow_lit (base := B) (e := 141) (size := 2) (w.setCell ⟨cb, 2, none⟩ (.slice (some ⟨w.heap.size, 0, none⟩) 1 1)) #[.slice va ts.length vc, .int .i64 1] 1 (by simp;omega) (by unfold maxLen;omega) rfl
   simpa[grp,groupCells] using this
 · intro x hx;simp[grp]at hx
   subst hx;exact ⟨_,_,_,rfl⟩
 · intro b hb;rw[Lib.alloc_old _ _ _ (by simp;exact (hS b hb).1),Below.heap_setCell _ _ _ _ (hS b hb).2]
 · intro b hb h;cases h;exact Nat.lt_irrefl _ (hS _ hb).1
 · intro e he;simp at he
   subst he;exact ⟨hne,hT,by simpa using hD⟩
 · simp[jX]
 · simp[Go.Proofs.YtnppmdpmippcoaaGreatDoor.csum]
theorem YB (S:Nat→Prop)(B cb n:Nat)(v:Value)(ts:List Tr)(w:World)(hS:∀ b,S b→b<w.heap.size∧b≠cb)(hne:ts≠[])(hT:qw S w n v ts)(hC:Cst B cb w 0 0 (.slice none 0 0) [])(hBw:B≤w.heap.size)(hcnt:cnt n ts≤1048576) :
 Calls Tryz.prog 98 #[.pointer (some ⟨cb,0,none⟩),v] w fun e w'=>e=.returned (.tuple #[])∧∃ wv,Cst B cb w' (dep n ts) (cnt n ts) wv []∧Below B w w':=by
 obtain ⟨va,vc,rfl,_,hvm⟩:=qw.shape n hT;have hDC:=dep_cnt n ts;have hlt:=hC.lt;have c2:w.cell? ⟨cb,2,none⟩=some (.slice none 0 0):=by rw[cH9 hC.held];rfl
 have f2:w.frozen? ⟨cb,2,none⟩=false:=fH9 hC.held 2;have HC:Hid (Cst B cb w 0 0 (.slice none 0 0) []):=hC;have HT:Hid (qw S w n (.slice va ts.length vc) ts):=hT;clear hC hT
 go_enter Tryz.func98,Tryz.ntmps98
 go_wp2_with fail
 go_loopg [] (cnt n ts) (fun g wr=>∃ P dd cc wv,csum P=g∧qbs S B cb w (dep n ts) (cnt n ts) wr P dd cc wv)
 case atStart => exact ⟨_,_,_,_,by simp[csum],KK hS hne HT.out (by omega) HC.out hBw⟩
 case round =>
  obtain ⟨P,dd,cc,wv,hm,I⟩:=hrel;subst hm;obtain ⟨wa,wc,rfl⟩:=I.cst.shape;rw[List.length_map]at I
  have d2:wr.cell? ⟨cb,2,none⟩=some (.slice wa P.length wc):=by rw[cH9 I.cst.held];rfl
  have HI:Hid (qbs S B cb w (dep n ts) (cnt n ts) wr P dd cc (.slice wa P.length wc)):=I;clear I
  rcases List.eq_nil_or_concat P with rfl|⟨P0,e,hPe⟩
  · simp only[List.length_nil]at d2
    go_wp2_with fail
    go_returns
    have I:=HI.out;have h1:=I.dmax;have h2:=I.csum;have h3:jX []=0:=rfl;have h4:csum []=0:=rfl;rw[h3]at h1
    rw[h4]at h2
    have e1:dd=dep n ts:=by omega
    have e2:cc=cnt n ts:=by omega
    have hc:=I.cst;rw[e1,e2]at hc
    exact ⟨rfl,_,hc,I.below⟩
  · rw[List.concat_eq_append]at hPe
    subst hPe;have hl:(P0++[e]).length=P0.length+1:=by simp
    rw[hl]at d2
    have hcs:Cst B cb wr dd cc (.slice wa (P0++[e]).length wc) (P0.map grp++[(e.v,e.o+1)]):=by
     have:=HI.out.cst;rw[List.map_append,List.map_cons,List.map_nil]at this
     exact this
    have hszr:B≤wr.heap.size:=Nat.le_trans hBw HI.out.below.size;have HCS:Hid _:=hcs;clear hcs;go_wp2_with fail;refine (Vm B cb wr dd cc _ (P0.map grp) e.v (e.o+1) HCS.out hszr).mono ?_;rintro e' w1 ⟨rfl,v1,hc1,hv1,hk1,hb1⟩;have hB1:Below B w w1:=HI.out.below.trans hb1;obtain ⟨hp1,hp2,hp3⟩:=HI.out.pend e (by simp)
    have hwr:=HI.out.below.size;have hw1:=hb1.size;have hkp:∀ b,S b→w1.heap[b]?=w.heap[b]?:=fun b hb=>(hk1 b (by have:=(hS b hb).1;omega) (hS b hb).2).trans (HI.out.keep b hb)
    have HKP:Hid (∀ b,S b→w1.heap[b]?=w.heap[b]?):=hkp;have hfr:∀ b,S b→b<w1.heap.size∧b≠cb∧v1.ownBlock≠some b:=fun b hb=>⟨by have:=(hS b hb).1;omega,(hS b hb).2,by rw[hv1];exact HI.out.free b hb⟩
    have HFR:Hid (∀ b,S b→b<w1.heap.size∧b≠cb∧v1.ownBlock≠some b):=hfr;have hTe:qw S w1 e.n e.v e.ts:=qw.carry (fun b hb=>⟨hb,hkp b hb⟩) e.n hp2
    have h1:=HI.out.dmax;have h2:=HI.out.csum;have h3:csum (P0++[e])=csum P0+cnt e.n e.ts:=by rw[jM];simp[csum]
    have h4:jX (P0++[e])=max (jX P0) (e.o+dep e.n e.ts):=by rw[xq];simp[jX]
    have h5:=Jg (P:=P0) (fun x hx=>HI.out.pend x (by simp[hx]))
    rw[h3]at h2
    rw[h4]at h1
    have hcall:=qaD S B cb 1000 (nR9 _) e.n e.v e.ts e.o (e.o+1) dd cc v1 (P0.map grp) w1 rfl hfr hTe hc1 (by have:=hb1.size;omega) hp3 (by omega) (by omega) (by rw[List.length_map];omega)
    have e1:((e.o+1:Nat):Int)=(e.o:Int)+1:=by omega
    rw[e1,show ((1000:Nat):Int)=1000 from rfl]at hcall
    have HCALL:Hid _:=hcall;clear hcall e1 hkp hfr hk1;have H1:Hid (max dd (max (jX P0) (e.o+dep e.n e.ts))=dep n ts):=h1;have H2:Hid (cc+(csum P0+cnt e.n e.ts)=cnt n ts):=h2;have H3:Hid (csum (P0++[e])=csum P0+cnt e.n e.ts):=h3;clear d2 h1 h2 h3 h4 h5 hp3 hTe hc1 hv1 hl hszr;go_wp2_with fail;refine (Calls.mono HCALL.out ?_);rintro e' w2 ⟨rfl,P1,dd3,cc3,wv3,J⟩;go_wp2_with fail
    go_roundg (csum (P0++P1))
    case measure =>
     have h6:=J.csum;have h7:=J.more.2 (by omega)
     have h8:=List.length_pos_iff.2 hp1;rw[H3.out,jM];omega
    case rel =>
     refine ⟨P0++P1,dd3,cc3,wv3,rfl,hB1.trans J.below,by rw[List.map_append];exact J.cst,fun b hb=>(J.frame b (HFR.out b hb).1 (HFR.out b hb).2.1 (HFR.out b hb).2.2).trans (HKP.out b hb),?_,?_,?_,?_⟩
     · intro b hb h
       rcases J.row with h'|⟨b',h',h''⟩
       · exact (HFR.out b hb).2.2 (h'.symm.trans h)
       · rw[h']at h;cases h;have:=(HFR.out _ hb).1;omega
     · intro x hx
       rcases List.mem_append.1 hx with hx|hx
       · exact HI.out.pend x (by simp[hx])
       · obtain ⟨q1, q2, q3⟩ := J.pend x hx;exact ⟨q1,qw.carry (fun b hb=>⟨hb,(HKP.out b hb).symm⟩) x.n q2,q3⟩
     · have h6 := J.dmax;rw[if_neg hp1]at h6
       have h1:=H1.out;rw[xq];omega
     · have h6 := J.csum;have h2:=H2.out;rw[jM];omega
theorem qan (S:Nat→Prop)(n:Nat)(va vk:Value)(t:Tr)(w:World)(h:qC S w va t.attrs)(hk:qw S w n vk t.kids)(hc:cnt (n+1) [t]≤1048576) :
 Calls Tryz.prog 71 #[.agg #[.bool t.text,.string t.s,va,vk]] w fun e w'=>e=.returned (.tuple #[.int .i64 (dep (n+1) [t]:Int),.int .i64 (cnt (n+1) [t]:Int)])∧Below w.heap.size w w':=by
 obtain ⟨aa,ac,rfl⟩:=h.shape;obtain ⟨ka,kc,rfl,_,_⟩:=qw.shape n hk;have hb:∀ X Y Z,Below w.heap.size w (((w.alloc X).alloc Y).alloc Z):=fun X Y Z=>((Below.alloc1 w X).alloc (by simp) Y).alloc (by simp;omega) Z
 have HB:Hid (∀ X Y Z,Below w.heap.size w (((w.alloc X).alloc Y).alloc Z)):=hb;have HA:Hid (qC (fun b=>S b∧b<w.heap.size) w (.slice aa t.attrs.length ac) t.attrs):=h.bounded
 have HK:Hid (qw (fun b=>S b∧b<w.heap.size) w n (.slice ka t.kids.length kc) t.kids):=qw.bounded n hk
 clear h hk hb
 go_enter Tryz.func71,Tryz.ntmps71
 go_wp2_with fail
 have hT:=qw.of_block (S:=fun b=>S b∧b<w.heap.size) (n:=n) (len:=1) (cap:=1) (ts:=[t]) (e:=56) (fz:=(0,0)) (qs:=[(t.text,t.s,.slice aa t.attrs.length ac,.slice ka t.kids.length kc)]) (heap_alloc_new ((w.alloc (.cells #[.bool t.text,.string t.s,.slice aa t.attrs.length ac,.slice ka t.kids.length kc] 56)).alloc (.cells #[.int .i64 0,.int .i64 0,.slice none 0 0] 120)) (.cells #[.bool t.text,.string t.s,.slice aa t.attrs.length ac,.slice ka t.kids.length kc] 56)) rfl rfl rfl (nR9 _) (by unfold maxLen;simp) (by
  intro i q t' hq ht';cases i with
  | zero =>
    simp at hq ht'
    subst hq ht';exact ⟨rfl,rfl,HA.out.later (HB.out _ _ _),qw.later (HB.out _ _ _) n HK.out⟩
  | succ i=>simp at ht')
 have hCst:Cst w.heap.size (w.heap.size+1) (((w.alloc (.cells #[.bool t.text,.string t.s,.slice aa t.attrs.length ac,.slice ka t.kids.length kc] 56)).alloc (.cells #[.int .i64 0,.int .i64 0,.slice none 0 0] 120)).alloc (.cells #[.bool t.text,.string t.s,.slice aa t.attrs.length ac,.slice ka t.kids.length kc] 56)) 0 0 (.slice none 0 0) []:=by
  refine ⟨by omega,?_,World.ownsRow_nil _ _ _ _,by simp⟩
  have e:=heap_alloc_new (w.alloc (.cells #[.bool t.text,.string t.s,.slice aa t.attrs.length ac,.slice ka t.kids.length kc] 56)) (.cells #[.int .i64 0,.int .i64 0,.slice none 0 0] 120);rw[World.size_alloc]at e
  rw[Lib.alloc_old _ _ _ (by simp)]
  exact e
 have hB3:=HB.out (.cells #[.bool t.text,.string t.s,.slice aa t.attrs.length ac,.slice ka t.kids.length kc] 56) (.cells #[.int .i64 0,.int .i64 0,.slice none 0 0] 120) (.cells #[.bool t.text,.string t.s,.slice aa t.attrs.length ac,.slice ka t.kids.length kc] 56);have hs2:((w.alloc (.cells #[.bool t.text,.string t.s,.slice aa t.attrs.length ac,.slice ka t.kids.length kc] 56)).alloc (.cells #[.int .i64 0,.int .i64 0,.slice none 0 0] 120)).heap.size=w.heap.size+1+1:=by simp
 rw[hs2]at hT
 refine (YB _ w.heap.size (w.heap.size+1) (n+1) _ [t] _ ?_ (by simp) hT hCst hB3.size hc).mono ?_
 · intro b hb;simp only[World.size_alloc]
   rcases hb with hb|hb
   · have:=hb.2;omega
   · omega
 rintro e w2 ⟨rfl,wv,hC2,hb2⟩;have k0:w2.cell? ⟨w.heap.size+1,0,none⟩=some (.int .i64 (dep (n+1) [t]:Int)):=by rw[cH9 hC2.held];rfl
 have k1:w2.cell? ⟨w.heap.size+1,1,none⟩=some (.int .i64 (cnt (n+1) [t]:Int)):=by rw[cH9 hC2.held];rfl
 have hB4:Below w.heap.size w w2:=hB3.trans hb2;obtain ⟨D,hD⟩:∃ D,dep (n+1) [t]=D:=⟨_,rfl⟩;obtain ⟨C,hC⟩:∃ C,cnt (n+1) [t]=C:=⟨_,rfl⟩;rw[hD]at k0
 rw[hC]at k1
 have HD:Hid (dep (n+1) [t]=D):=hD;have HC:Hid (cnt (n+1) [t]=C):=hC;clear hD hC hc;clear hC2 hT hCst hB3 hb2 hs2;go_wp2_with fail
 go_region
 all_goals
  go_wp2_with fail
  go_ret2
  exact ⟨by rw[HD.out,HC.out];rfl,hB4.drew⟩
end
section
def jn:Nat→List Tr→List Tr
 | 0,_=>[]
 | n+1,ts=>jG n ts
theorem YE (n:Nat)(t:Tr):(jk n t).kids=jn n t.kids:=by cases n<;>rfl
def JOk (n:Nat):Prop:=∀ (S:Nat→Prop)(v:Value)(ts:List Tr)(w:World),qw S w n v ts→Small n ts→(∀ b,S b→b<w.heap.size) →
 Calls Tryz.prog 37 #[v] w fun e w'=>∃ r,e=.returned r∧qw (fun b=>S b∨w.heap.size≤b) w' n r (jn n ts)∧Below w.heap.size w w'
theorem joinR_zero:JOk 0:=by
 intro S v ts w h _ _;obtain ⟨rfl,a,cap,rfl,_⟩:=h
 go_enter Tryz.func37,Tryz.ntmps37
 go_wp2_with fail;go_rounds 1;go_ret;exact ⟨_,rfl,⟨rfl,none,0,rfl,nZ9 _⟩,Below.refl _ _⟩
attribute [local go_sem] qD
def Ka (ts p:List Tr)(b o m:Nat)(f:Value):Prop :=
 (firstNE (p.take m)=none∧f=.pointer none)∨∃ i x,ts[i]?=some x∧firstNE (p.take m)=some x∧f=.pointer (some ⟨b,o+i*4,none⟩)
set_option maxHeartbeats 4000000 in
set_option maxRecDepth 100000 in
theorem Xz (n:Nat)(h:JOk n):JOk (n+1):=by
 intro S v ts w h1 hsm hS;have H:Hid (JOk n):=h;clear h;obtain ⟨i0,hi,hz0,hz1,hz2⟩:=info_parts treeInfo;have hlen:=hsm.1;obtain ⟨a,cap,rfl,_,hm,h4⟩:=h1;unfold maxLen at hm
 go_enter Tryz.func37,Tryz.ntmps37
 go_wp2_with fail
 go_loopg [4,3] ts.length (fun g i o wr=>∃ (k:Nat) (us:List Tr) (qs:List (Bool × ByteArray × Value × Value)),k+g=ts.length∧i=.int .i64 k∧zC S n w.heap.size wr o us qs∧Below w.heap.size w wr∧jG n ts=us++jG n (ts.drop k)∧us.length≤k)
 case atStart => exact ⟨0,[],[],by omega,rfl,zC.nil _ _ _ _,Below.refl _ _,rfl,by simp⟩
 case round =>
  obtain ⟨k,us,qs,hk,rfl,hG,hB,hj,hul⟩:=hrel;have HJ:Hid (jG n ts=us++jG n (ts.drop k)):=hj;clear hj;have hsz:=hB.size;obtain ⟨ja,jc,rfl⟩:=hG.shape
  by_cases hlt:k<ts.length
  · have hne : ts ≠ [] := by intro e;subst e;simp at hlt
    obtain ⟨b,o,rfl,hs,hcc⟩:=h4 hne;obtain ⟨t,ht⟩:∃ t,ts[k]?=some t:=⟨ts[k],by simp[hlt]⟩
    obtain ⟨va,vk,c0,c1,c2,c3,hat,hkt⟩:=hcc k t ht;obtain ⟨aa,ac,rfl⟩:=hat.shape;obtain ⟨ka,kc,rfl,_,_⟩:=qw.shape n hkt;have hbl:b<w.heap.size:=World.block_lt_of_cell? w _ c0;have hblr:b<wr.heap.size:=by omega
    rw[←hB.cell (p:=⟨b,o+k*4,none⟩) hbl]at c0
    rw[←hB.cell (p:=⟨b,o+k*4+1,none⟩) hbl]at c1
    rw[←hB.cell (p:=⟨b,o+k*4+2,none⟩) hbl]at c2
    rw[←hB.cell (p:=⟨b,o+k*4+3,none⟩) hbl]at c3
    have hd:ts.drop k=t::ts.drop (k+1):=by
     rw[List.drop_eq_getElem_cons hlt];congr 1;simpa[hlt] using ht
    have HD:Hid (ts.drop k=t::ts.drop (k+1)):=hd;obtain ⟨hal,hssz,hsk⟩:=hsm.2.2 t (List.mem_of_getElem? ht);have hlti:(k:Int)<(ts.length:Int):=by omega
    cases htx:t.text with
    | false =>
      rw[htx]at c0
      clear hcc h4 ht hd;go_wp2_with fail;refine (H.out S _ t.kids _ (qw.later (hB.alloc hsz _) n hkt) hsk (fun b hb=>by have:=hS b hb;simp;omega)).mono ?_
      rintro e w1 ⟨v1,rfl,hT1,hb1⟩;obtain ⟨a1,c1',rfl,_,_⟩:=qw.shape n hT1;have hsz1:=hb1.size;simp only[World.size_alloc]at hsz1
      have hsz1':wr.heap.size<w1.heap.size:=by omega
      have q0:w1.cell? ⟨wr.heap.size,0,none⟩=some (.bool false):=by rw[hb1.cell (p:=⟨wr.heap.size,0,none⟩) (by simp)];simp[go_sem]
      have q1:w1.cell? ⟨wr.heap.size,1,none⟩=some (.string t.s):=by rw[hb1.cell (p:=⟨wr.heap.size,1,none⟩) (by simp)];simp[go_sem]
      have q2:w1.cell? ⟨wr.heap.size,2,none⟩=some (.slice aa t.attrs.length ac):=by rw[hb1.cell (p:=⟨wr.heap.size,2,none⟩) (by simp)];simp[go_sem]
      have q3:w1.cell? ⟨wr.heap.size,3,none⟩=some (.slice ka t.kids.length kc):=by rw[hb1.cell (p:=⟨wr.heap.size,3,none⟩) (by simp)];simp[go_sem]
      have qf:w1.frozen? ⟨wr.heap.size,3,none⟩=false:=by rw[hb1.frozen (p:=⟨wr.heap.size,3,none⟩) (by simp)];simp[go_sem]
      have hbw1:Below wr.heap.size wr w1:=(Below.alloc1 _ _).trans (hb1.mono (by simp))
      have hbw2:Below wr.heap.size wr (w1.setCell ⟨wr.heap.size,3,none⟩ (.slice a1 (jn n t.kids).length c1')):=hbw1.setCell (by exact nR9 _) _
      have hG2:=hG.later hbw2;have hB2:Below w.heap.size w (w1.setCell ⟨wr.heap.size,3,none⟩ (.slice a1 (jn n t.kids).length c1')):=hB.trans (hbw2.mono hsz)
      have hTs:qw (fun b=>S b∨wr.heap.size+1≤b) (w1.setCell ⟨wr.heap.size,3,none⟩ (.slice a1 (jn n t.kids).length c1')) n (.slice a1 (jn n t.kids).length c1') (jn n t.kids):=by
       refine qw.carry (fun b hb=>⟨?_,?_⟩) n hT1
       · simpa using hb
       · refine Below.heap_setCell _ _ _ _ ?_
         rcases hb with hb|hb
         · have:=hS b hb;simp only;omega
         · simp only[World.size_alloc]at hb;simp only;omega
      go_wp2_with (at_builtin;refine wpList_append_own_at _ rfl _ _ 28 rfl w.heap.size 56 i0 _ 4 72 Tryz.underlying28 hi hz0 hz1 hz2 rfl (by decide) _ _ _ rfl (hG2.own.alloc _) ⟨w1.heap.size,0,none⟩ 1 1 [.bool false,.string t.s,.slice aa t.attrs.length ac,.slice a1 (jn n t.kids).length c1'] rfl ?qc1 ?qc2 ?qc3 ?qc4 ?qc5 ?qc6 ?_)
      case qc1 => rfl
      case qc2 =>
       have:=yG (w1.setCell ⟨wr.heap.size,3,none⟩ (.slice a1 (jn n t.kids).length c1')) (.bool false) (.string t.s) (.slice aa t.attrs.length ac) (.slice a1 (jn n t.kids).length c1') 56;rw[World.size_setCell]at this
       exact this
      case qc3 => intro u hu;simp at hu;rcases hu with rfl|rfl|rfl|rfl<;>rfl
      case qc4 => unfold maxLen;omega
      case qc5 => omega
      case qc6 => simp;omega
      intro v' w3 hown' hgrow _ hat'
      have hG3:=(hG2.later (Below.alloc1 _ (.cells #[.bool false,.string t.s,.slice aa t.attrs.length ac,.slice a1 (jn n t.kids).length c1'] 56))).snoc (t:=jk n t) (q:=(false,t.s,.slice aa t.attrs.length ac,.slice a1 (jn n t.kids).length c1')) hown' hgrow (by rw[World.size_alloc,World.size_setCell];exact hat') (by rw[QZ,htx]) (by rw[KW])
       (by
        rw[jo];refine (hat.later (hB2.alloc (by simp;omega) _)).bounded.carry (fun b hb=>⟨⟨Or.inl hb.1,hb.2,fun e=>?_⟩,rfl⟩)
        have:=(hG2.own.lt b e).1;have:=hS b hb.1;omega)
       (by
        rw[YE];refine qw.carry (fun b hb=>⟨⟨?_,hb.2,fun e=>?_⟩,rfl⟩) n (qw.bounded n (qw.later (Below.alloc1 _ _) n hTs))
        · rcases hb.1 with h | h
          · exact Or.inl h
          · right;omega
        · rcases hb.1 with h | h
          · have:=(hG2.own.lt b e).1;have:=hS b h;omega
          · have:=(hG.own.lt b e).2;omega)
      have hB3:Below w.heap.size w w3:=(hB2.alloc (by simp;omega) _).grown hgrow (by simp;omega) (fun k hk=>(hG2.own.lt k hk).1)
      obtain ⟨va',vc',rfl⟩:=hG3.shape;have hll:(us++[jk n t]).length=us.length+1:=by simp
      rw[hll]at hG3 ⊢
      clear hown' hll;go_wp2_with fail
      go_roundg (ts.length-(k+1))
      case measure => omega
      case rel =>
       refine ⟨k+1,_,_,by omega,by go_num,hG3,hB3,?_,by simp;omega⟩
       rw[HJ.out,HD.out];unfold jG;rw[jO t _ htx];simp
    | true =>
      rw[htx]at c0
      obtain ⟨N,hN⟩:∃ N,ahead (ts.drop k)=N:=⟨_,rfl⟩;have hN0:0<N:=by rw[←hN,hd];simp[ahead,htx]
      have hN1:N≤ts.length-k:=by rw[←hN];have:=Zb (ts.drop k);simpa using this
      have hrun:=Z3 (ts.drop k);have hja:=JE (ts.drop k);rw[hN]at hrun hja
      obtain ⟨p,hp⟩:∃ p,(ts.drop k).take N=p:=⟨_,rfl⟩;have hpl:p.length=N:=by rw[←hp,List.length_take,List.length_drop];omega
      rw[hp,List.drop_drop]at hja
      rw[hp,List.drop_drop]at hrun
      have hpi:∀ m,m<N→p[m]?=ts[k+m]?:=by
       intro m hm';rw[←hp,List.getElem?_take,if_pos hm',List.getElem?_drop]
      have hsp:Small (n+1) p:=by rw[←hp];exact hsm.drop.take
      have HP:Hid ((∀ m,m<N→p[m]?=ts[k+m]?)∧p.length=N∧(∀ t∈p,t.text=true)∧(∀ u r,ts.drop (k+N)=u::r→u.text=false)∧jt (ts.drop k)=zb p++jt (ts.drop (k+N))):=⟨hpi,hpl,hrun.1,hrun.2,hja⟩;have HCC:Hid (∀ i t,ts[i]?=some t→∃ va vk,w.cell? ⟨b,o+i*4,none⟩=some (.bool t.text)∧w.cell? ⟨b,o+i*4+1,none⟩=some (.string t.s)∧w.cell? ⟨b,o+i*4+2,none⟩=some va∧w.cell? ⟨b,o+i*4+3,none⟩=some vk∧qC S w va t.attrs∧qw S w n vk t.kids):=hcc;clear hp hpl hrun hja hpi hcc h4 ht hd hN HD c1 c2 c3 hat hkt;go_wp2_with fail
      go_loopg [4,6,7] N (fun g2 i f s wx=>∃ j:Nat,k≤j∧j+g2=k+N∧i=.int .i64 j∧s=.string (sOf (catL (p.take (j-k))))∧Ka ts p b o (j-k) f∧wr=wx)
      case atStart => exact ⟨k,nR9 _,rfl,rfl,by rw[Nat.sub_self];rfl,by rw[Nat.sub_self];exact Or.inl ⟨rfl,rfl⟩,rfl⟩
      case round =>
       obtain ⟨j,hkj,hj2,rfl,rfl,hfs,rfl⟩:=hrel
       by_cases hjN:j<k+N
       · have hjl : j < ts.length := by omega
         obtain ⟨x,hx⟩:∃ x,ts[j]?=some x:=⟨ts[j],by simp[hjl]⟩
         have hpx:p[j-k]?=some x:=by rw[HP.out.1 (j-k) (by omega),show k+(j-k)=j from by omega];exact hx
         have hxt:x.text=true:=HP.out.2.2.1 x (List.mem_of_getElem? hpx);have hmp:j-k<p.length:=by rw[HP.out.2.1];omega
         have hsn:p.take (j+1-k)=p.take (j-k)++[x]:=by
          rw[show j+1-k=j-k+1 from by omega,List.take_succ_eq_append_getElem hmp];congr 2;simpa[hmp] using hpx
         have hcl:(catL (p.take (j-k))).length+x.s.size≤1099511627776:=by
          have h1:catL p=catL (p.take (j+1-k))++catL (p.drop (j+1-k)):=by rw[←yg,List.take_append_drop]
          have h2:=hsp.2.1;rw[h1,hsn,yg]at h2
          have h3:catL [x]=x.s.data.toList:=by simp[catL]
          rw[h3]at h2
          simp only[List.length_append]at h2
          rw[jA x.s];omega
         obtain ⟨_,_,x0,x1,_⟩:=HCC.out j x hx;rw[←hB.cell (p:=⟨b,o+j*4,none⟩) hbl,hxt]at x0
         rw[←hB.cell (p:=⟨b,o+j*4+1,none⟩) hbl]at x1
         obtain ⟨L,hL⟩:∃ L,catL (p.take (j-k))=L:=⟨_,rfl⟩;rw[hL]at hcl ⊢
         have hszL:(sOf L).size+x.s.size≤1099511627776:=by rw[qal];exact hcl
         have HL:Hid (sOf L++x.s=sOf (catL (p.take (j+1-k)))):=by
          show _=_
          rw[hsn,yg,hL];have h3:catL [x]=x.s.data.toList:=by simp[catL]
          rw[h3,←XR,ZB]
         have HX:Hid (ts[j]?=some x):=hx;have hji:(j:Int)<(ts.length:Int):=by omega
         have hfn:∀ y,firstNE (p.take (j+1-k))=y↔(firstNE (p.take (j-k))).or (firstNE [x])=y:=by intro y;rw[hsn,jD]
         have HFN:Hid (∀ y,firstNE (p.take (j+1-k))=y↔(firstNE (p.take (j-k))).or (firstNE [x])=y):=hfn;clear hx hpx hxt hmp hsn hcl hL hfn c0
         rcases hfs with ⟨hf0,rfl⟩|⟨i1,y,hy,hfy,rfl⟩
         · have HF0 : Hid (firstNE (p.take (j - k)) = none) := hf0;clear hf0
           by_cases hxe:x.s.data.toList=[]
           · have hxb : x.s.toList.isEmpty = true := by rw[ByteArray.toList_eq, hxe];rfl
             have HXE:Hid (firstNE [x]=none):=by show (if _ then _ else _)=_;rw[if_pos hxe];rfl
             clear hxe;go_wp2_with fail
             go_roundg (k+N-(j+1))
             case measure => omega
             case rel => exact ⟨j+1,by omega,by omega,by go_num,by rw[HL.out],Or.inl ⟨by rw[HFN.out,HF0.out,HXE.out];rfl,rfl⟩,rfl⟩
           · have hxb : x.s.toList.isEmpty = false := K6 hxe;have HXE:Hid (firstNE [x]=some x):=by show (if _ then _ else _)=_;rw[if_neg hxe]
             clear hxe;go_wp2_with fail
             go_roundg (k+N-(j+1))
             case measure => omega
             case rel => exact ⟨j+1,by omega,by omega,by go_num,by rw[HL.out],Or.inr ⟨j,x,HX.out,by rw[HFN.out,HF0.out,HXE.out];rfl,rfl⟩,rfl⟩
         · have HY : Hid (ts[i1]? = some y ∧ firstNE (p.take (j - k)) = some y) := ⟨hy, hfy⟩;clear hy hfy;go_wp2_with fail
           go_roundg (k+N-(j+1))
           case measure => omega
           case rel => exact ⟨j+1,by omega,by omega,by go_num,by rw[HL.out],Or.inr ⟨i1,y,HY.out.1,by rw[HFN.out,HY.out.2];rfl,rfl⟩,rfl⟩
       · have hjj : j = k + N := by omega
         have hjk:j-k=N:=by omega
         have hpt:p.take N=p:=List.take_of_length_le (by rw[HP.out.2.1];exact nR9 _)
         unfold Ka at hfs
         rw[hjk,hpt]at hfs ⊢
         have HEnd:Hid (jG n ts=us++((zb p).map (jk n)++jG n (ts.drop j))):=by
          show _=_
          rw[HJ.out,hjj];unfold jG;rw[HP.out.2.2.2.2,List.map_append]
         have hul2:us.length<j:=by omega
         clear c0 hjk hpt
         by_cases hjl:j<ts.length
         · obtain ⟨u, hu⟩ : ∃ u, ts[j]? = some u := ⟨ts[j], by simp[hjl]⟩
           have hut:u.text=false:=HP.out.2.2.2.1 u (ts.drop (j+1)) (by
            rw[←hjj,List.drop_eq_getElem_cons hjl];congr 1;simpa[hjl] using hu)
           obtain ⟨_,_,x0,_⟩:=HCC.out j u hu;rw[←hB.cell (p:=⟨b,o+j*4,none⟩) hbl,hut]at x0
           have hji:(j:Int)<(ts.length:Int):=by omega
           clear hu hut hjj
           rcases hfs with ⟨hf0,rfl⟩|⟨i1,y,hy,hfy,rfl⟩
           · have HH : Hid (zb p = []) := by show _ = _;unfold zb;rw[hf0]
             clear hf0;go_wp2_with fail
             go_roundg (ts.length-j)
             case measure => omega
             case rel =>
              refine ⟨j,us,qs,by omega,by go_num,hG,hB,?_,by omega⟩
              rw[HEnd.out,HH.out];rfl
           · obtain ⟨yva, yvk, y0, y1, y2, y3, hya, hyk⟩ := HCC.out i1 y hy;obtain ⟨yaa,yac,rfl⟩:=hya.shape;obtain ⟨yka,ykc,rfl,_,_⟩:=qw.shape n hyk;rw[←hB.cell (p:=⟨b,o+i1*4,none⟩) hbl]at y0
             rw[←hB.cell (p:=⟨b,o+i1*4+1,none⟩) hbl]at y1
             rw[←hB.cell (p:=⟨b,o+i1*4+2,none⟩) hbl]at y2
             rw[←hB.cell (p:=⟨b,o+i1*4+3,none⟩) hbl]at y3
             obtain ⟨_,_,hysk⟩:=hsm.2.2 y (List.mem_of_getElem? hy);have HH:Hid ((zb p).map (jk n)=[jk n { y with s:=sOf (catL p) }]):=by show _=_;unfold zb;rw[hfy];rfl
             clear hy hfy;obtain ⟨cs,hcs⟩:∃ cs,sOf (catL p)=cs:=⟨_,rfl⟩;rw[hcs]at HH ⊢
             clear hcs;go_wp2_with fail;refine (H.out S _ y.kids _ (qw.later (hB.alloc hsz _) n hyk) hysk (fun b hb=>by have:=hS b hb;simp;omega)).mono ?_
             rintro e w1 ⟨v1,rfl,hT1,hb1⟩;obtain ⟨a1,c1',rfl,_,_⟩:=qw.shape n hT1;have hsz1:=hb1.size;simp only[World.size_alloc]at hsz1
             have hsz1':wr.heap.size<w1.heap.size:=by omega
             have q0:w1.cell? ⟨wr.heap.size,0,none⟩=some (.bool y.text):=by rw[hb1.cell (p:=⟨wr.heap.size,0,none⟩) (by simp)];simp[go_sem]
             have q1:w1.cell? ⟨wr.heap.size,1,none⟩=some (.string y.s):=by rw[hb1.cell (p:=⟨wr.heap.size,1,none⟩) (by simp)];simp[go_sem]
             have q2:w1.cell? ⟨wr.heap.size,2,none⟩=some (.slice yaa y.attrs.length yac):=by rw[hb1.cell (p:=⟨wr.heap.size,2,none⟩) (by simp)];simp[go_sem]
             have q3:w1.cell? ⟨wr.heap.size,3,none⟩=some (.slice yka y.kids.length ykc):=by rw[hb1.cell (p:=⟨wr.heap.size,3,none⟩) (by simp)];simp[go_sem]
             have qf:∀ i,w1.frozen? ⟨wr.heap.size,i,none⟩=false:=by intro i;rw[hb1.frozen (p:=⟨wr.heap.size,i,none⟩) (by simp)];simp[go_sem]
             have hbw1:Below wr.heap.size wr w1:=(Below.alloc1 _ _).trans (hb1.mono (by simp))
             have hbw2:Below wr.heap.size wr ((w1.setCell ⟨wr.heap.size,1,none⟩ (.string cs)).setCell ⟨wr.heap.size,3,none⟩ (.slice a1 (jn n y.kids).length c1')):=(hbw1.setCell (by exact nR9 _) _).setCell (by exact nR9 _) _
             have hG2:=hG.later hbw2;have hB2:=hB.trans (hbw2.mono hsz)
             have hTs:qw (fun b=>S b∨wr.heap.size+1≤b) ((w1.setCell ⟨wr.heap.size,1,none⟩ (.string cs)).setCell ⟨wr.heap.size,3,none⟩ (.slice a1 (jn n y.kids).length c1')) n (.slice a1 (jn n y.kids).length c1') (jn n y.kids):=by
              refine qw.carry (fun b hb=>⟨?_,?_⟩) n hT1
              · simpa using hb
              · have hbne:b≠wr.heap.size:=by
                 rcases hb with hb|hb
                 · have:=hS b hb;omega
                 · simp only[World.size_alloc]at hb;omega
                rw[Below.heap_setCell _ _ _ _ hbne,Below.heap_setCell _ _ _ _ hbne]
             go_wp2_with (at_builtin;refine wpList_append_own_at _ rfl _ _ 28 rfl w.heap.size 56 i0 _ 4 72 Tryz.underlying28 hi hz0 hz1 hz2 rfl (by decide) _ _ _ rfl (hG2.own.alloc _) ⟨w1.heap.size,0,none⟩ 1 1 [.bool y.text,.string cs,.slice yaa y.attrs.length yac,.slice a1 (jn n y.kids).length c1'] rfl ?qc1 ?qc2 ?qc3 ?qc4 ?qc5 ?qc6 ?_)
             case qc1 => rfl
             case qc2 =>
              have:=yG ((w1.setCell ⟨wr.heap.size,1,none⟩ (.string cs)).setCell ⟨wr.heap.size,3,none⟩ (.slice a1 (jn n y.kids).length c1')) (.bool y.text) (.string cs) (.slice yaa y.attrs.length yac) (.slice a1 (jn n y.kids).length c1') 56;rw[World.size_setCell,World.size_setCell]at this
              exact this
             case qc3 => intro u hu;simp at hu;rcases hu with rfl|rfl|rfl|rfl<;>rfl
             case qc4 => unfold maxLen;omega
             case qc5 => omega
             case qc6 => simp;omega
             intro v' w3 hown' hgrow _ hat'
             have hG3:=(hG2.later (Below.alloc1 _ (.cells #[.bool y.text,.string cs,.slice yaa y.attrs.length yac,.slice a1 (jn n y.kids).length c1'] 56))).snoc (t:=jk n { y with s:=cs }) (q:=(y.text,cs,.slice yaa y.attrs.length yac,.slice a1 (jn n y.kids).length c1')) hown' hgrow (by rw[World.size_alloc,World.size_setCell,World.size_setCell];exact hat') (by rw[QZ]) (by rw[KW])
              (by
               rw[jo];refine (hya.later (hB2.alloc (by simp;omega) _)).bounded.carry (fun b hb=>⟨⟨Or.inl hb.1,hb.2,fun e=>?_⟩,rfl⟩)
               have:=(hG2.own.lt b e).1;have:=hS b hb.1;omega)
              (by
               rw[YE];refine qw.carry (fun b hb=>⟨⟨?_,hb.2,fun e=>?_⟩,rfl⟩) n (qw.bounded n (qw.later (Below.alloc1 _ _) n hTs))
               · rcases hb.1 with h | h
                 · exact Or.inl h
                 · right;omega
               · rcases hb.1 with h | h
                 · have:=(hG2.own.lt b e).1;have:=hS b h;omega
                 · have:=(hG.own.lt b e).2;omega)
             have hB3:Below w.heap.size w w3:=(hB2.alloc (by simp;omega) _).grown hgrow (by simp;omega) (fun k hk=>(hG2.own.lt k hk).1)
             obtain ⟨va',vc',rfl⟩:=hG3.shape;have hll:(us++[jk n { y with s:=cs }]).length=us.length+1:=by simp
             rw[hll]at hG3 ⊢
             clear hown' hll;go_wp2_with fail
             go_roundg (ts.length-j)
             case measure => omega
             case rel =>
              refine ⟨j,_,_,by omega,by go_num,hG3,hB3,?_,by simp;omega⟩
              rw[HEnd.out,HH.out];simp
         · clear hjj
           rcases hfs with ⟨hf0,rfl⟩|⟨i1,y,hy,hfy,rfl⟩
           · have HH : Hid (zb p = []) := by show _ = _;unfold zb;rw[hf0]
             clear hf0;go_wp2_with fail
             go_roundg (ts.length-j)
             case measure => omega
             case rel =>
              refine ⟨j,us,qs,by omega,by go_num,hG,hB,?_,by omega⟩
              rw[HEnd.out,HH.out];rfl
           · obtain ⟨yva, yvk, y0, y1, y2, y3, hya, hyk⟩ := HCC.out i1 y hy;obtain ⟨yaa,yac,rfl⟩:=hya.shape;obtain ⟨yka,ykc,rfl,_,_⟩:=qw.shape n hyk;rw[←hB.cell (p:=⟨b,o+i1*4,none⟩) hbl]at y0
             rw[←hB.cell (p:=⟨b,o+i1*4+1,none⟩) hbl]at y1
             rw[←hB.cell (p:=⟨b,o+i1*4+2,none⟩) hbl]at y2
             rw[←hB.cell (p:=⟨b,o+i1*4+3,none⟩) hbl]at y3
             obtain ⟨_,_,hysk⟩:=hsm.2.2 y (List.mem_of_getElem? hy);have HH:Hid ((zb p).map (jk n)=[jk n { y with s:=sOf (catL p) }]):=by show _=_;unfold zb;rw[hfy];rfl
             clear hy hfy;obtain ⟨cs,hcs⟩:∃ cs,sOf (catL p)=cs:=⟨_,rfl⟩;rw[hcs]at HH ⊢
             clear hcs;go_wp2_with fail;refine (H.out S _ y.kids _ (qw.later (hB.alloc hsz _) n hyk) hysk (fun b hb=>by have:=hS b hb;simp;omega)).mono ?_
             rintro e w1 ⟨v1,rfl,hT1,hb1⟩;obtain ⟨a1,c1',rfl,_,_⟩:=qw.shape n hT1;have hsz1:=hb1.size;simp only[World.size_alloc]at hsz1
             have hsz1':wr.heap.size<w1.heap.size:=by omega
             have q0:w1.cell? ⟨wr.heap.size,0,none⟩=some (.bool y.text):=by rw[hb1.cell (p:=⟨wr.heap.size,0,none⟩) (by simp)];simp[go_sem]
             have q1:w1.cell? ⟨wr.heap.size,1,none⟩=some (.string y.s):=by rw[hb1.cell (p:=⟨wr.heap.size,1,none⟩) (by simp)];simp[go_sem]
             have q2:w1.cell? ⟨wr.heap.size,2,none⟩=some (.slice yaa y.attrs.length yac):=by rw[hb1.cell (p:=⟨wr.heap.size,2,none⟩) (by simp)];simp[go_sem]
             have q3:w1.cell? ⟨wr.heap.size,3,none⟩=some (.slice yka y.kids.length ykc):=by rw[hb1.cell (p:=⟨wr.heap.size,3,none⟩) (by simp)];simp[go_sem]
             have qf:∀ i,w1.frozen? ⟨wr.heap.size,i,none⟩=false:=by intro i;rw[hb1.frozen (p:=⟨wr.heap.size,i,none⟩) (by simp)];simp[go_sem]
             have hbw1:Below wr.heap.size wr w1:=(Below.alloc1 _ _).trans (hb1.mono (by simp))
             have hbw2:Below wr.heap.size wr ((w1.setCell ⟨wr.heap.size,1,none⟩ (.string cs)).setCell ⟨wr.heap.size,3,none⟩ (.slice a1 (jn n y.kids).length c1')):=(hbw1.setCell (by exact nR9 _) _).setCell (by exact nR9 _) _
             have hG2:=hG.later hbw2;have hB2:=hB.trans (hbw2.mono hsz)
             have hTs:qw (fun b=>S b∨wr.heap.size+1≤b) ((w1.setCell ⟨wr.heap.size,1,none⟩ (.string cs)).setCell ⟨wr.heap.size,3,none⟩ (.slice a1 (jn n y.kids).length c1')) n (.slice a1 (jn n y.kids).length c1') (jn n y.kids):=by
              refine qw.carry (fun b hb=>⟨?_,?_⟩) n hT1
              · simpa using hb
              · have hbne:b≠wr.heap.size:=by
                 rcases hb with hb|hb
                 · have:=hS b hb;omega
                 · simp only[World.size_alloc]at hb;omega
                rw[Below.heap_setCell _ _ _ _ hbne,Below.heap_setCell _ _ _ _ hbne]
             go_wp2_with (at_builtin;refine wpList_append_own_at _ rfl _ _ 28 rfl w.heap.size 56 i0 _ 4 72 Tryz.underlying28 hi hz0 hz1 hz2 rfl (by decide) _ _ _ rfl (hG2.own.alloc _) ⟨w1.heap.size,0,none⟩ 1 1 [.bool y.text,.string cs,.slice yaa y.attrs.length yac,.slice a1 (jn n y.kids).length c1'] rfl ?qc1 ?qc2 ?qc3 ?qc4 ?qc5 ?qc6 ?_)
             case qc1 => rfl
             case qc2 =>
              have:=yG ((w1.setCell ⟨wr.heap.size,1,none⟩ (.string cs)).setCell ⟨wr.heap.size,3,none⟩ (.slice a1 (jn n y.kids).length c1')) (.bool y.text) (.string cs) (.slice yaa y.attrs.length yac) (.slice a1 (jn n y.kids).length c1') 56;rw[World.size_setCell,World.size_setCell]at this
              exact this
             case qc3 => intro u hu;simp at hu;rcases hu with rfl|rfl|rfl|rfl<;>rfl
             case qc4 => unfold maxLen;omega
             case qc5 => omega
             case qc6 => simp;omega
             intro v' w3 hown' hgrow _ hat'
             have hG3:=(hG2.later (Below.alloc1 _ (.cells #[.bool y.text,.string cs,.slice yaa y.attrs.length yac,.slice a1 (jn n y.kids).length c1'] 56))).snoc (t:=jk n { y with s:=cs }) (q:=(y.text,cs,.slice yaa y.attrs.length yac,.slice a1 (jn n y.kids).length c1')) hown' hgrow (by rw[World.size_alloc,World.size_setCell,World.size_setCell];exact hat') (by rw[QZ]) (by rw[KW])
              (by
               rw[jo];refine (hya.later (hB2.alloc (by simp;omega) _)).bounded.carry (fun b hb=>⟨⟨Or.inl hb.1,hb.2,fun e=>?_⟩,rfl⟩)
               have:=(hG2.own.lt b e).1;have:=hS b hb.1;omega)
              (by
               rw[YE];refine qw.carry (fun b hb=>⟨⟨?_,hb.2,fun e=>?_⟩,rfl⟩) n (qw.bounded n (qw.later (Below.alloc1 _ _) n hTs))
               · rcases hb.1 with h | h
                 · exact Or.inl h
                 · right;omega
               · rcases hb.1 with h | h
                 · have:=(hG2.own.lt b e).1;have:=hS b h;omega
                 · have:=(hG.own.lt b e).2;omega)
             have hB3:Below w.heap.size w w3:=(hB2.alloc (by simp;omega) _).grown hgrow (by simp;omega) (fun k hk=>(hG2.own.lt k hk).1)
             obtain ⟨va',vc',rfl⟩:=hG3.shape;have hll:(us++[jk n { y with s:=cs }]).length=us.length+1:=by simp
             rw[hll]at hG3 ⊢
             clear hown' hll;go_wp2_with fail
             go_roundg (ts.length-j)
             case measure => omega
             case rel =>
              refine ⟨j,_,_,by omega,by go_num,hG3,hB3,?_,by simp;omega⟩
              rw[HEnd.out,HH.out];simp
  · have hkk : k = ts.length := by omega
    subst hkk;go_wp2_with fail;go_ret;refine ⟨_,rfl,?_,hB⟩;have:=HJ.out;rw[List.drop_length,show jG n []=[] from rfl,List.append_nil]at this
    show qw _ wr (n+1) _ (jG n ts)
    rw[this];exact hG.done
theorem KX (n:Nat):JOk n:=by
 induction n with
 | zero=>exact joinR_zero
 | succ n ih=>exact Xz n ih
end
theorem qw.pred {S:Nat→Prop}{w:World}{m:Nat}{v:Value}{ts:List Tr}(h:qw S w m v ts):qw S w (m.pred+1) v ts:=by
 cases m with
 | zero=>exact qw.deeper 0 h
 | succ m=>exact h
theorem qw.back {S:Nat→Prop}{w:World}{m:Nat}{v:Value}{ts:List Tr}(h:qw S w (m.pred+1) v ts)(hd:Deep m ts):qw S w m v ts:=by
 cases m with
 | zero =>
   have:ts=[]:=hd;subst this;obtain ⟨a,c,e,_,hc⟩:=qw.shape 1 h;exact ⟨rfl,a,c,e,hc⟩
 | succ m=>exact h
theorem ZD (S:Nat→Prop)(n:Nat)(va vk:Value)(t:Tr)(w:World)(h:qC S w va t.attrs)(hk:qw S w n vk t.kids)(hc:cnt (n+1) [t]≤1048576) :
 Calls Tryz.prog 50 #[.agg #[.bool t.text,.string t.s,va,vk]] w fun e w'=>e=.returned (.tuple #[.int .i64 (dep (n+1) [t]:Int),.int .i64 (cnt (n+1) [t]:Int)])∧Below w.heap.size w w':=by
 obtain ⟨aa,ac,rfl⟩:=h.shape;obtain ⟨ka,kc,rfl,_,_⟩:=qw.shape n hk;have hb:∀ X Y,Below w.heap.size w ((w.alloc X).alloc Y):=fun X Y=>(Below.alloc1 w X).alloc (by simp) Y
 have hT:qw (fun _=>True) ((w.alloc (.cells #[.bool t.text,.string t.s,.slice aa t.attrs.length ac,.slice ka t.kids.length kc] 56)).alloc (.cells #[.bool t.text,.string t.s,.slice aa t.attrs.length ac,.slice ka t.kids.length kc] 56)) (n+1) (.slice (some ⟨w.heap.size+1,0,none⟩) 1 1) [t]:=by
  refine qw.carry (fun b _=>⟨trivial,rfl⟩) (n+1) (qw.of_block (S:=S) (e:=56) (fz:=(0,0)) (qs:=[(t.text,t.s,.slice aa t.attrs.length ac,.slice ka t.kids.length kc)]) ?_ rfl rfl rfl (nR9 _) (by unfold maxLen;simp) ?_)
  · have := heap_alloc_new (w.alloc (.cells #[.bool t.text, .string t.s, .slice aa t.attrs.length ac, .slice ka t.kids.length kc] 56)) (.cells #[.bool t.text, .string t.s, .slice aa t.attrs.length ac, .slice ka t.kids.length kc] 56);rw[World.size_alloc]at this
    exact this
  · intro i q t' hq ht';cases i with
    | zero =>
      simp at hq ht'
      subst hq ht';exact ⟨rfl,rfl,h.later (hb _ _),qw.later (hb _ _) n hk⟩
    | succ i=>simp at ht'
 have HT:Hid _:=hT;have HB:Hid (∀ X Y,Below w.heap.size w ((w.alloc X).alloc Y)):=hb;clear hT hb h hk;obtain ⟨D,hD⟩:∃ D,dep (n+1) [t]=D:=⟨_,rfl⟩;obtain ⟨C,hC⟩:∃ C,cnt (n+1) [t]=C:=⟨_,rfl⟩;rw[hD,hC];rw[hC]at hc
 have HD:Hid (dep (n+1) [t]=D):=hD;have HC:Hid (cnt (n+1) [t]=C):=hC;clear hD hC;have hDC:D≤1048576:=by have:=dep_cnt (n+1) [t];rw[HD.out,HC.out]at this;omega
 go_enter Tryz.func50,Tryz.ntmps50
 go_wp2_with fail
 go_loopg [4,5,6] (n+1) (fun g d c v wr=>∃ (dd cc:Nat) (lv:List Tr),d=.int .i64 (dd:Int)∧c=.int .i64 (cc:Int)∧qw (fun _=>True) wr g v lv∧dd+dep g lv=D∧cc+cnt g lv=C∧Below w.heap.size w wr)
 case atStart => exact ⟨0,0,[t],rfl,rfl,HT,by rw[HD.out];omega,by rw[HC.out];omega,HB _ _⟩
 case round =>
  obtain ⟨dd,cc,lv,rfl,rfl,hlv,hd,hcn,hB⟩:=hrel;have hsz:=hB.size
  by_cases hne:lv=[]
  · subst hne;rw[yK]at hd
    rw[qQ]at hcn
    obtain ⟨la,lc,rfl,_,_⟩:=qw.shape _ hlv;have hd':dd=D:=by omega
    have hc':cc=C:=by omega
    subst hd' hc';clear hlv HT HD HC;simp only[List.length_nil];go_wp2_with fail
    go_ret2
    exact ⟨rfl,hB⟩
  · cases gk with
    | zero=>exact absurd hlv.1 hne
    | succ m =>
      obtain ⟨wo,hwo⟩:∃ x,x=wr:=⟨_,rfl⟩;subst hwo;rw[Xn m lv hne]at hd
      rw[Zh m lv]at hcn
      have hdeep:Deep m (nx lv):=(qw.deep (m+1) hlv).nx;have hlen:=hdeep.len;have HDp:Hid (Deep m (nx lv)):=hdeep;have hlv':=qw.bounded (m+1) hlv;obtain ⟨la,lc,rfl,hlc,hlm⟩:=qw.shape _ hlv;obtain ⟨_,_,hve,_,_,h4⟩:=hlv';have hl0:0<lv.length:=List.length_pos_iff.2 hne;obtain ⟨b,o,hao,hs,hcc⟩:=h4 hne
      injection hve with e1 e2 e3
      subst e1;subst hao;have Hd:Hid (dd+(1+dep m (nx lv))=D):=hd;have Hc:Hid (cc+(lv.length+cnt m (nx lv))=C):=hcn;have HCC:Hid _:=hcc;have hcb:cc+lv.length≤1048576:=by omega
      have hdb:dd≤1048576:=by omega
      have hnb:(nx lv).length≤1048576:=by omega
      clear hdeep h4 e2 hd hcn hcc hlen hs e3 HT HD HC hlv;unfold maxLen at hlm
      go_wp2_with fail
      go_loopg [7,23] lv.length (fun g v i wr=>∃ (k:Nat) (qs:List (Bool × ByteArray × Value × Value)),k+g=lv.length∧i=.int .i64 k∧zC (fun b=>b<wo.heap.size) m.pred wo.heap.size wr v (nx (lv.take k)) qs∧Below wo.heap.size wo wr)
      case atStart => exact ⟨0,[],by omega,rfl,zC.nil _ _ _ _,Below.refl _ _⟩
      case round =>
       obtain ⟨k,qs,hk,rfl,hG,hBq⟩:=hrel;have hszq:=hBq.size
       by_cases hlt:k<lv.length
       · obtain ⟨x, hx⟩ : ∃ x, lv[k]? = some x := ⟨lv[k], by simp[hlt]⟩
         obtain ⟨va,vk,c0,c1,c2,c3,hat,hkt⟩:=HCC.out k x hx;obtain ⟨xa,xc,rfl⟩:=hat.shape;obtain ⟨ya,yc,rfl,_,_⟩:=qw.shape m hkt;have hbl:b<wo.heap.size:=World.block_lt_of_cell? wo _ c0;rw[←hBq.cell (p:=⟨b,o+k*4,none⟩) hbl]at c0
         rw[←hBq.cell (p:=⟨b,o+k*4+1,none⟩) hbl]at c1
         rw[←hBq.cell (p:=⟨b,o+k*4+2,none⟩) hbl]at c2
         rw[←hBq.cell (p:=⟨b,o+k*4+3,none⟩) hbl]at c3
         have hsn:nx (lv.take (k+1))=nx (lv.take k)++x.kids:=by
          have e:lv.take (k+1)=lv.take k++[x]:=by
           rw[List.take_succ_eq_append_getElem hlt];congr 2;simpa[hlt] using hx
          rw[e,jZ,xd,nx_nil,List.append_nil]
         have HS:Hid (nx (lv.take (k+1))=nx (lv.take k)++x.kids):=hsn
         have hle:(nx (lv.take k)++x.kids).length≤1048576:=by
          rw[←hsn];have e:nx lv=nx (lv.take (k+1))++nx (lv.drop (k+1)):=by rw[←jZ,List.take_append_drop]
          rw[e,List.length_append]at hnb
          omega
         rw[List.length_append]at hle
         have hblq:b<wr.heap.size:=by omega
         have hG1:=hG.later (Below.alloc1 wr (.cells #[.bool x.text,.string x.s,.slice xa x.attrs.length xc,.slice ya x.kids.length yc] 56));have hB1:Below wo.heap.size wo (wr.alloc (.cells #[.bool x.text,.string x.s,.slice xa x.attrs.length xc,.slice ya x.kids.length yc] 56)):=hBq.alloc hszq _;have hK1:=(qw.later hB1 m hkt).pred;obtain ⟨us,hus⟩:∃ us,nx (lv.take k)=us:=⟨_,rfl⟩;rw[hus]at hG1 hle HS hG
         obtain ⟨ja,jc,rfl⟩:=hG1.shape;clear hx hsn hus hG hat hkt;go_wp2_with (at_builtin;refine xU rfl _ _ rfl (fun b=>b<wo.heap.size) _ m.pred wo.heap.size _ _ us x.kids qs rfl hG1 rfl hK1 ?qc1 hle ?qc2 ?_)
         case qc1 =>
          intro b hb;refine ⟨Or.inl hb.2,Nat.lt_of_lt_of_le hb.2 (by simp;omega),fun e=>?_⟩
          have:=(hG1.own.lt b e).1;have:=hb.2;omega
         case qc2 => simp;omega
         intro v' w2 qs' hG2 hb2;have hB2:Below wo.heap.size wo w2:=hB1.trans hb2;go_wp2_with fail
         go_roundg (lv.length-(k+1))
         case measure => omega
         case rel => exact ⟨k+1,qs',by omega,by go_num,by rw[HS.out];exact hG2,hB2⟩
       · have hkk : k = lv.length := by omega
         subst hkk;rw[List.take_length]at hG
         have hT2:qw (fun _=>True) wr m _ (nx lv):=qw.carry (fun b _=>⟨trivial,rfl⟩) m (hG.done.back HDp.out)
         have hBw:Below w.heap.size w wr:=hB.trans (hBq.mono hsz);go_wp2_with fail
         go_roundg m
         case measure => omega
         case rel => exact ⟨dd+1,cc+lv.length,nx lv,by go_num,by go_num,hT2,by have:=Hd.out;omega,by have:=Hc.out;omega,hBw⟩
end Go.Proofs.YtnppmdpmippcoaaGreatDoor
