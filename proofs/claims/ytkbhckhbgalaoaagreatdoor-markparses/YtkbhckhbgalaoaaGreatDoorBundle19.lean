/- Bundled: ParseM SizeM ContM BackM MntM TxtM AtrM InsX ForM ForC ForS ForP MntX PcsM AppT StkD RefSize PrintT. What each says stands ahead of it. -/
import Derived.Test.YtkbhckhbgalaoaaGreatDoorBundle15
import Derived.Test.YtkbhckhbgalaoaaGreatDoorBundle18
namespace Go.Proofs.YtkbhckhbgalaoaaGreatDoor
open Go.RowKit
set_option maxRecDepth 100000
theorem xY {α:Type}{more:Rs→Bool}{step:Rs→α × Rs}{P:α→Prop}{M:Nat}(hstep:∀ r,more r=true→r.rest.length≤M→P (step r).1)(hle:∀ r,more r=true→(step r).2.le r) :
 ∀ (f:Nat) (r:Rs),r.rest.length≤M→∀ x∈(qN more step f r).1,P x:=by
 intro f
 induction f with
 | zero=>intro r _ x hx;simp[qN]at hx
 | succ f ih =>
   intro r hr x hx;unfold qN at hx
   split at hx
   · rename_i h
     simp only[List.mem_cons]at hx
     rcases hx with rfl|hx
     · exact hstep r h hr
     · exact ih _ (Nat.le_trans (hle r h).1 hr) x hx
   · simp at hx
theorem jo (p:UInt8→Bool)(l:List UInt8):(l.takeWhile p).length≤l.length:=by
 induction l with
 | nil=>simp
 | cons c r ih=>rw[List.takeWhile_cons];split<;>simp<;>omega
theorem Qy (ends:List UInt8):∀ (f:Nat)(r:Rs),(Rs.meant ends f r).1.length≤r.left:=by
 intro f
 induction f with
 | zero=>intro r;simp[Rs.meant]
 | succ f ih =>
   intro r;unfold Rs.meant
   split
   · rename_i h
     have h1:=jh h;have h2:=ih r.sign.2;simp;omega
   · simp
theorem ZN (r:Rs)(ends:List UInt8):(r.text ends).1.length≤r.rest.length+1:=Nat.le_trans (Qy _ _ r) (jF r)
theorem ZR {M:Nat}(r:Rs)(h:r.rest.length≤M):r.attr.1.1.length≤M+1∧r.attr.1.2.length≤M+1:=by
 have h1:=(q9 r).1;have h2:=jo qd r.skip.rest;have h3:=ZN (r.skip.name.must [61,34]) valueEnds;have h4:=((qU r.skip.name [61,34]).trans ((zY _).trans (q9 r))).1;exact ⟨by show (r.skip.rest.takeWhile qd).length≤_;omega,by show ((r.skip.name.must [61,34]).text valueEnds).1.length≤_;omega⟩
def Jk (M:Nat)(t:Tr):Prop:=t.s.size≤M∧∀ x∈t.attrs,x.1.size≤M∧x.2.size≤M
def zw (M:Nat):Nat→List Tr→Prop
 | 0,_=>True
 | n+1,ts=>∀ t∈ts,Jk M t∧zw M n t.kids
theorem zw.texts {M:Nat}(hM:M≤maxLen):∀ (n:Nat)(ts:List Tr),zw M n ts→TextsN n ts:=by
 intro n
 induction n with
 | zero=>intro ts _;trivial
 | succ n ih =>
   intro ts h t ht;obtain ⟨⟨h1,h2⟩,h3⟩:=h t ht;exact ⟨⟨Nat.le_trans h1 hM,fun x hx=>⟨Nat.le_trans (h2 x hx).1 hM,Nat.le_trans (h2 x hx).2 hM⟩⟩,ih _ h3⟩
theorem zw.nil (M n:Nat):zw M n []:=by cases n with|zero=>trivial|succ n=>intro t ht;simp at ht
theorem j0 {M f:Nat}(ih:∀ r,r.rest.length≤M→zw (M+1) f (treesF f r).1)(r:Rs)(h:r.rest.length≤M):Jk (M+1) (r.one (treesF f)).1∧zw (M+1) f (r.one (treesF f)).1.kids:=by
 unfold Rs.one
 by_cases h2:r.ahead [60]=true
 · rw[if_pos h2];unfold Rs.elem;have h3:=(qU r [60]).1
   have hat:∀ x∈(r.must [60]).name.attrs.1,x.1.length≤M+1∧x.2.length≤M+1 :=
    xY (fun r _ hr=>ZR r hr) (fun r _=>(xj r).trans (q9 r)) _ _ (by have:=((zY (r.must [60])).trans (qU r [60])).1;omega)
   have hnm:(qa (r.must [60]).nameOf).size≤M+1:=by
    rw[qc];have:=jo qd (r.must [60]).rest
    show ((r.must [60]).rest.takeWhile qd).length≤_
    omega
   have hsh:∀ x∈asB (sortA (r.must [60]).name.attrs.1),x.1.size≤M+1∧x.2.size≤M+1:=by
    intro x hx;simp only[asB,List.mem_map]at hx
    obtain ⟨y,hy,rfl⟩:=hx;have:=hat y ((zx _).mem_iff.1 hy);simp only[qc];exact this
   unfold Rs.elemIn
   split
   · exact ⟨⟨hnm,hsh⟩,zw.nil _ _⟩
   · exact ⟨⟨hnm,hsh⟩,ih _ (by have:=((qU (r.must [60]).name.attrs.2.skip [62]).trans ((q9 _).trans ((xq _).trans ((zY _).trans (qU r [60]))))).1;omega)⟩
 · rw[if_neg h2];refine ⟨⟨?_,by intro x hx;simp at hx⟩,zw.nil _ _⟩
   rw[qc];have:=ZN r textEnds;omega
theorem yQ (M:Nat):∀ (f:Nat)(r:Rs),r.rest.length≤M→zw (M+1) f (treesF f r).1:=by
 intro f
 induction f with
 | zero=>intro r _;trivial
 | succ f ih =>
   intro r h;exact xY (P:=fun t=>Jk (M+1) t∧zw (M+1) f t.kids) (fun r _ hr=>j0 ih r hr) (fun r _=>Z7 (treesF_le f) r) _ r h
def zeroT:Tr:=⟨false,⟨#[]⟩,[],[]⟩
def qw (s:List UInt8):Tr × Int :=
 if 2500<s.length then (zeroT,2)
 else if ((⟨s,false⟩:Rs).one (treesF s.length)).2.wrong||decide (((⟨s,false⟩:Rs).one (treesF s.length)).2.rest≠[])||!qR ((⟨s,false⟩:Rs).one (treesF s.length)).1 then (zeroT,1)
 else (((⟨s,false⟩:Rs).one (treesF s.length)).1,0)
def zR (s:List UInt8):List Tr × Int :=
 if 2500<s.length then ([],2)
 else if (treesF (s.length+1) ⟨s,false⟩).2.wrong||decide ((treesF (s.length+1) ⟨s,false⟩).2.rest≠[])||!qy (treesF (s.length+1) ⟨s,false⟩).1 then ([],1)
 else ((treesF (s.length+1) ⟨s,false⟩).1,0)
end Go.Proofs.YtkbhckhbgalaoaaGreatDoor
namespace Go.Proofs.YtkbhckhbgalaoaaGreatDoor
open Go.ChangeShapes Go.WideShapes Go.ChangeAt Go.RowKit
set_option maxRecDepth 100000
def dep:Nat→List Tr→Nat
 | 0,_=>0
 | n+1,ts=>(ts.map fun t=>1+dep n t.kids).foldr max 0
theorem zu (n:Nat):dep n []=0:=by cases n<;>rfl
theorem zS (n:Nat)(t:Tr)(r:List Tr):dep (n+1) (t::r)=max (1+dep n t.kids) (dep (n+1) r):=rfl
theorem yj (n:Nat)(a b:List Tr):dep n (a++b)=max (dep n a) (dep n b):=by
 cases n with
 | zero=>rfl
 | succ n =>
   induction a with
   | nil=>simp[zu]
   | cons t r ih=>rw[List.cons_append,zS,zS,ih];omega
theorem za (n:Nat)(a b:List Tr):cnt n (a++b)=cnt n a+cnt n b:=by
 cases n with
 | zero=>rfl
 | succ n =>
   induction a with
   | nil=>simp[q8]
   | cons t r ih=>rw[List.cons_append,zz,zz,ih];omega
theorem dep_cnt:∀ (n:Nat)(ts:List Tr),dep n ts≤cnt n ts:=by
 intro n
 induction n with
 | zero=>intro ts;exact nR9 _
 | succ n ih =>
   intro ts
   induction ts with
   | nil=>rw[zu];omega
   | cons t r ihr=>rw[zS,zz];have:=ih t.kids;omega
def nx (ts:List Tr):List Tr:=ts.flatMap fun t=>t.kids
theorem nx_nil:nx []=[]:=rfl
theorem jJ (t:Tr)(r:List Tr):nx (t::r)=t.kids++nx r:=by simp[nx]
theorem QB (a b:List Tr):nx (a++b)=nx a++nx b:=by simp[nx]
theorem ZW (n:Nat)(ts:List Tr):cnt (n+1) ts=ts.length+cnt n (nx ts):=by
 induction ts with
 | nil=>simp[q8,nx_nil]
 | cons t r ih=>rw[zz,jJ,za,ih,List.length_cons];omega
theorem Js (n:Nat)(ts:List Tr)(h:ts≠[]):dep (n+1) ts=1+dep n (nx ts):=by
 induction ts with
 | nil=>exact absurd rfl h
 | cons t r ih =>
   rw[zS,jJ,yj]
   by_cases hr:r=[]
   · subst hr;rw[zu,nx_nil,zu];omega
   · rw[ih hr];omega
theorem Deep.nx {n:Nat}{ts:List Tr}(h:Deep (n+1) ts):Deep n (nx ts):=by
 cases n with
 | zero =>
   show Go.Proofs.YtkbhckhbgalaoaaGreatDoor.nx ts=[]
   induction ts with
   | nil=>rfl
   | cons t r ih =>
     rw[jJ,ih (fun x hx=>h x (List.mem_cons_of_mem _ hx))]
     have:t.kids=[]:=h t (List.mem_cons_self ..);rw[this];rfl
 | succ n =>
   intro x hx;obtain ⟨t,ht,hxt⟩:=List.mem_flatMap.1 hx;exact h t ht x hxt
theorem Deep.len {n:Nat}{ts:List Tr}(h:Deep n ts):ts.length≤cnt n ts:=by
 cases n with
 | zero =>
   have:ts=[]:=h;rw[this];exact nZ9 _
 | succ n=>rw[ZW];omega
theorem YZ {α:Type}{p:Nat→α→Prop}:∀ (n:Nat),(∀ i,i<n→∃ y,p i y)→∃ l:List α,l.length=n∧∀ i y,l[i]?=some y→p i y:=by
 intro n
 induction n with
 | zero=>intro _;exact ⟨[],rfl,fun i y h=>by simp at h⟩
 | succ n ih =>
   intro h;obtain ⟨l,hl,hp⟩:=ih (fun i hi=>h i (by omega))
   obtain ⟨y,hy⟩:=h n (by omega)
   refine ⟨l++[y],by simp[hl],fun i z hz=>?_⟩
   rcases Nat.lt_or_ge i n with hi|hi
   · rw[List.getElem?_append_left (by omega)]at hz;exact hp i z hz
   · rw[List.getElem?_append_right (by omega), hl]at hz
     rcases Nat.eq_zero_or_pos (i-n) with h0|h0
     · rw[h0]at hz;simp at hz;subst hz
       have:i=n:=by omega
       rw[this];exact hy
     · rw[List.getElem?_eq_none (by simp;omega)]at hz;cases hz
theorem jL {ps:List (Bool × ByteArray × Value × Value)}{j:Nat}{u:Value}(h:(quadCells ps)[j]?=some u) :
 ∃ i q,ps[i]?=some q∧((j=i*4∧u=.bool q.1)∨(j=i*4+1∧u=.string q.2.1)∨(j=i*4+2∧u=q.2.2.1)∨(j=i*4+3∧u=q.2.2.2)):=by
 have hj:j<(quadCells ps).length:=(List.getElem?_eq_some_iff.1 h).1;rw[qC]at hj
 have hi:j / 4<ps.length:=by omega
 have hq:ps[j / 4]?=some ps[j / 4]:=by simp
 obtain ⟨g0,g1,g2,g3⟩:=zr ps (j / 4) _ hq;refine ⟨j / 4,ps[j / 4],hq,?_⟩;have hm:j % 4=0∨j % 4=1∨j % 4=2∨j % 4=3:=by omega
 rcases hm with e|e|e|e
 · have hj' : j = j / 4 * 4 := by omega
   rw[←hj',h]at g0;exact Or.inl ⟨hj',by simpa using g0⟩
 · have hj' : j = j / 4 * 4 + 1 := by omega
   rw[←hj',h]at g1;exact Or.inr (Or.inl ⟨hj',by simpa using g1⟩)
 · have hj' : j = j / 4 * 4 + 2 := by omega
   rw[←hj',h]at g2;exact Or.inr (Or.inr (Or.inl ⟨hj',by simpa using g2⟩))
 · have hj' : j = j / 4 * 4 + 3 := by omega
   rw[←hj',h]at g3;exact Or.inr (Or.inr (Or.inr ⟨hj',by simpa using g3⟩))
theorem qb.quads {S:Nat→Prop}{w:World}{n:Nat}{ad:Addr}{len cap:Nat}{ts:List Tr}(h:qb S w (n+1) (.slice (some ad) len cap) ts) :
    ∃ ps : List (Bool × ByteArray × Value × Value), ps.length = ts.length ∧ (∀ j u, (quadCells ps)[j]? = some u → w.cell? (ad.add j) = some u) ∧ (∀ u ∈ quadCells ps, u.oneCell' = true) ∧
      ∀ (i:Nat) (q:Bool × ByteArray × Value × Value) (t:Tr),ps[i]?=some q→ts[i]?=some t→q.1=t.text∧q.2.1=t.s∧qf S w q.2.2.1 t.attrs∧qb S w n q.2.2.2 t.kids:=by
  obtain ⟨a,c,hv,h2,h3,h4⟩:=h
  by_cases hne:ts=[]
  · subst hne;exact ⟨[],rfl,fun j u hj=>by simp[quadCells]at hj,fun u hu=>by simp[quadCells]at hu,fun i q t hq=>by simp at hq⟩
  obtain ⟨b,o,ha,hs,hc⟩:=h4 hne
  have had:ad=⟨b,o,none⟩:=by
    rw[ha]at hv
    injection hv with h5
    injection h5
  obtain ⟨ps,hl,hp⟩:=YZ (α:=Bool × ByteArray × Value × Value) (p:=fun i q=>∀ t,ts[i]?=some t →
      w.cell? ⟨b,o+i*4,none⟩=some (.bool q.1)∧w.cell? ⟨b,o+i*4+1,none⟩=some (.string q.2.1)∧w.cell? ⟨b,o+i*4+2,none⟩=some q.2.2.1∧w.cell? ⟨b,o+i*4+3,none⟩=some q.2.2.2 ∧
      q.1=t.text∧q.2.1=t.s∧qf S w q.2.2.1 t.attrs∧qb S w n q.2.2.2 t.kids) ts.length (by
    intro i hi;have ht:ts[i]?=some ts[i]:=by simp
    obtain ⟨va,vk,c0,c1,c2,c3,hat,hkt⟩:=hc i _ ht;refine ⟨(ts[i].text,ts[i].s,va,vk),fun t ht'=>?_⟩
    rw[ht]at ht';cases ht'
    exact ⟨c0,c1,c2,c3,rfl,rfl,hat,hkt⟩)
  have find:∀ (i:Nat) (q:Bool × ByteArray × Value × Value),ps[i]?=some q→∃ t,ts[i]?=some t:=by
    intro i q hq;have:i<ps.length:=(List.getElem?_eq_some_iff.1 hq).1;exact ⟨ts[i]'(by omega),by simp⟩
  refine ⟨ps,hl,?_,?_,?_⟩
  · intro j u hj;obtain ⟨i,q,hq,hu⟩:=jL hj;obtain ⟨t,ht⟩:=find i q hq;obtain ⟨c0,c1,c2,c3,_⟩:=hp i q hq t ht;subst had;rw[Addr.add_lit]
    rcases hu with ⟨rfl,rfl⟩|⟨rfl,rfl⟩|⟨rfl,rfl⟩|⟨rfl,rfl⟩
    · exact c0
    · exact c1
    · exact c2
    · exact c3
  · intro u hu;obtain ⟨j,hj⟩:=List.mem_iff_getElem?.1 hu;obtain ⟨i,q,hq,hu⟩:=jL hj;obtain ⟨t,ht⟩:=find i q hq;obtain ⟨_,_,_,_,_,_,hA,hT⟩:=hp i q hq t ht
    rcases hu with ⟨_,rfl⟩|⟨_,rfl⟩|⟨_,rfl⟩|⟨_,rfl⟩
    · rfl
    · rfl
    · obtain ⟨x,y,e⟩:=hA.shape;rw[e];rfl
    · obtain ⟨x,y,e,_⟩:=qb.shape n hT;rw[e];rfl
  · intro i q t hq ht;obtain ⟨_,_,_,_,r⟩:=hp i q hq t ht;exact r
theorem zF.many {S:Nat→Prop}{n B:Nat}{w w':World}{v v':Value}{us ts:List Tr}{qs ps:List (Bool × ByteArray × Value × Value)}
 (h:zF S n B w v us qs) (hl:ps.length=ts.length) (hown:w'.ownsRow B 25 4 v' (us.length+ts.length) (quadCells qs++quadCells ps))
 (hg:w.grownBy w' v.ownBlock) (hat:v'.ownBlock=v.ownBlock∨v'.ownBlock=some w.heap.size)
 (he:∀ (i:Nat) (q:Bool × ByteArray × Value × Value) (t:Tr),ps[i]?=some q→ts[i]?=some t→q.1=t.text∧q.2.1=t.s∧qf (Oth S B w v) w q.2.2.1 t.attrs∧qb (Oth S B w v) w n q.2.2.2 t.kids):zF S n B w' v' (us++ts) (qs++ps):=by
 have carry:∀ b,Oth S B w v b→Oth S B w' v' b∧w'.heap[b]?=w.heap[b]?:=by
  intro b hb;refine ⟨⟨hb.1,Nat.lt_of_lt_of_le hb.2.1 hg.size,?_⟩,hg.block b hb.2.1 (fun e=>hb.2.2 e.symm)⟩
  rcases hat with e|e
  · rw[e];exact hb.2.2
  · rw[e];intro e';cases e';exact Nat.lt_irrefl _ hb.2.1
 refine ⟨by simp[h.len,hl],?_,?_⟩
 · rw[qQ,List.length_append];exact hown
 · intro i q' t' hq ht
   rcases Nat.lt_or_ge i us.length with hi|hi
   · rw[List.getElem?_append_left (by rw[h.len];exact hi)]at hq
     rw[List.getElem?_append_left hi]at ht
     obtain ⟨a,b,c,d⟩:=h.each i q' t' hq ht;exact ⟨a,b,c.carry carry,qb.carry carry n d⟩
   · rw[List.getElem?_append_right (by rw[h.len];exact hi)]at hq
     rw[List.getElem?_append_right hi]at ht
     rw[h.len]at hq
     obtain ⟨a,b,c,d⟩:=he _ q' t' hq ht;exact ⟨a,b,c.carry carry,qb.carry carry n d⟩
theorem jj {ops:Array Oper}{rest:List Oper}{o:Oper}{a:Act}{w:World}{Q:Exit→Act→World→Prop}(hgd:o.guard=none)(s x:Operand)
 (ho:o.op=.call { callee:=.builtin .append,args:=#[s,x],argTypes:=#[23,23] })
 (S S1:Nat→Prop) (n B:Nat) (v vk:Value) (us ts:List Tr) (qs:List (Bool × ByteArray × Value × Value)) (hs:a.eval s=v) (hG:zF S n B w v us qs) (hx:a.eval x=vk) (hk:qb S1 w (n+1) vk ts)
 (hS:∀ b,S1 b→Oth S B w v b) (hl:us.length+ts.length≤1048576) (hB:B≤w.heap.size)
 (h:∀ v' w' qs',zF S n B w' v' (us++ts) qs'→Below B w w'→wpList Tryz.prog ops Q rest (a.put o.dst v') w') :
 wpList Tryz.prog ops Q (o::rest) a w:=by
 obtain ⟨i0,hi,hz0,hz1,hz2⟩:=info_parts treeInfo;obtain ⟨ka,kc,rfl,hkc,hkm⟩:=qb.shape (n+1) hk;cases ka with
 | none =>
   have hn:ts=[]:=by
    apply Classical.byContradiction;intro hne
    obtain ⟨a,c,hv,_,_,h4⟩:=hk;obtain ⟨b,o,ha,_⟩:=h4 hne;rw[ha]at hv;cases hv
   subst hn;refine wpList_plain hgd fun K hK=>?_
   have hrun:(Builtin.append_ #[23,23] o.type #[v,.slice none 0 kc]).run Tryz.prog w=.ok v w:=by
    rcases hG.own.2 with ⟨rfl,e⟩|⟨g,cap,cur,rfl,_,_,hnc,_⟩
    · simp[Builtin.append_,run_underlying Tryz.underlying23,sizeOf,typeInfo,hi,Builtin.lenOf,Builtin.firstCells]
    · simp[Builtin.append_,run_underlying Tryz.underlying23,sizeOf,typeInfo,hi,Builtin.lenOf,Builtin.firstCells,hnc,storeCells]
   simp only[List.length_nil]at hx
   unfold Oper.wp;simp[execOp,ho,resolve,invoke,builtin,hs,hx,hrun,Result.andThen];exact hK _ _ (h v w qs (by rw[List.append_nil];exact hG) (Below.refl _ _))
 | some ad =>
   obtain ⟨ps,hpl,hpc,hp1,hpe⟩:=qb.quads hk;refine wpList_append_own_at w hgd s x 23 ho B 25 i0 _ 4 72 Tryz.underlying23 hi hz0 hz1 hz2 rfl (by decide) v us.length (quadCells qs) hs hG.own ad ts.length kc (quadCells ps) hx ?_ hpc hp1 ?_ ?_ hB ?_
   · rw[qC,hpl]
   · unfold maxLen;omega
   · omega
   · intro v' w' hown hgr _ hat
     exact h v' w' _ (hG.many hpl hown hgr hat (fun i q t hq ht=>by
      obtain ⟨a,b,c,d⟩:=hpe i q t hq ht;exact ⟨a,b,c.carry (fun b hb=>⟨hS b hb,rfl⟩),qb.carry (fun b hb=>⟨hS b hb,rfl⟩) n d⟩)) ((Below.refl _ w).grown hgr hB (fun k hk'=>(hG.own.lt k hk').1))
theorem Q1 (n:Nat):rgt n []=true:=by cases n<;>rfl
theorem Ye {n:Nat}{t:Tr}(h:qn t=true):(t.text||rgt n t.kids)=rgt n t.kids:=by
 cases htt:t.text with
 | false=>rfl
 | true =>
   have:t.kids=[]:=by
    simp[qn,htt]at h
    exact h.2
   rw[this,Q1];rfl
theorem Xz (d n:Nat)(f:Int→List Tr→Int)
    (hf:∀ room k,0≤room→Deep n k→f room k=if dep n k≤d∧(cnt n k:Int)≤room∧rgt n k=true then room-cnt n k else -1) :
    ∀ (l : List Tr) (p : Bool) (room : Int), 0 ≤ room → Deep (n + 1) l →
      rl f p room l=if dep n (nx l)≤d∧(cnt n (nx l):Int)≤room∧rgL (rgt n) p l=true then room-cnt n (nx l) else -1:=by
  intro l
  induction l with
  | nil =>
    intro p room h0 _;rw[nx_nil,zu,q8,if_pos ⟨nZ9 _,by simpa using h0,rfl⟩]
    simp[rl]
  | cons t r ih =>
    intro p room h0 hd;have hk:Deep n t.kids:=hd t (List.mem_cons_self ..);have hr:Deep (n+1) r:=fun x hx=>hd x (List.mem_cons_of_mem _ hx)
    rw[jJ,yj,za];unfold rl;have hfk:=hf room t.kids h0 hk
    by_cases hA:(!qn t||(p&&t.text))=true
    · rw[if_pos hA, if_neg];rintro ⟨_,_,h3⟩;unfold rgL at h3
      cases h1:qn t<;>cases h2:(p&&t.text)<;>simp[h1,h2]at hA h3
    · rw[if_neg hA];have h1:qn t=true:=by cases h:qn t<;>simp[h]at hA ⊢
      have h2:(p&&t.text)=false:=by cases h:(p&&t.text)<;>simp[h]at hA ⊢
      have hg:rgL (rgt n) p (t::r)=(rgt n t.kids&&rgL (rgt n) t.text r):=by
        show (qn t&&!(p&&t.text)&&(t.text||rgt n t.kids)&&rgL (rgt n) t.text r)=_
        rw[h1,h2,Ye h1];rfl
      rw[hg]
      by_cases hK:dep n t.kids≤d∧(cnt n t.kids:Int)≤room∧rgt n t.kids=true
      · rw[if_pos hK]at hfk
        rw[hfk,if_neg (by omega),ih t.text (room-cnt n t.kids) (by omega) hr]
        by_cases hR:dep n (nx r)≤d∧(cnt n (nx r):Int)≤room-cnt n t.kids∧rgL (rgt n) t.text r=true
        · rw[if_pos hR, if_pos ⟨by omega, by push_cast;omega, by rw[hK.2.2, hR.2.2];rfl⟩]
          push_cast;omega
        · rw[if_neg hR, if_neg];rintro ⟨a,b,c⟩;rw[hK.2.2]at c
          exact hR ⟨by omega,by push_cast at b;omega,by simpa using c⟩
      · rw[if_neg hK]at hfk
        rw[hfk,if_pos (by decide),if_neg]
        rintro ⟨a,b,c⟩;simp only[Bool.and_eq_true]at c
        exact hK ⟨by omega,by push_cast at b;omega,c.1⟩
theorem rb_eq:∀ (d n:Nat)(l:List Tr)(room:Int),0≤room→Deep n l →
 rb d room l=if dep n l≤d∧(cnt n l:Int)≤room∧rgt n l=true then room-cnt n l else -1:=by
 intro d
 induction d with
 | zero =>
   intro n l room h0 hd;unfold rb;cases l with
   | nil=>simp[zu,q8,Q1];omega
   | cons t r =>
     cases n with
     | zero=>cases (show t::r=[] from hd)
     | succ n =>
       rw[if_neg (by simp),if_neg]
       rintro ⟨a,_⟩;rw[zS]at a;omega
 | succ d ih =>
   intro n l room h0 hd;unfold rb;cases l with
   | nil=>simp[zu,q8,Q1];omega
   | cons t r =>
     cases n with
     | zero=>cases (show t::r=[] from hd)
     | succ n =>
       rw[if_neg (by simp)]
       generalize hl:t::r=l at *
       have hne:l≠[]:=by rw[←hl];simp
       rw[Js n l hne,ZW n l]
       by_cases hrm:room<(l.length:Int)
       · rw[if_pos hrm, if_neg];rintro ⟨_,b,_⟩
         push_cast at b;omega
       · rw[if_neg hrm, Xz d n (rb d) (fun room k h hk => ih n k room h hk) l false (room - l.length) (by omega) hd]
         by_cases hR:dep n (nx l)≤d∧(cnt n (nx l):Int)≤room-l.length∧rgL (rgt n) false l=true
         · rw[if_pos hR,if_pos ⟨by omega,by push_cast;omega,hR.2.2⟩];push_cast;omega
         · rw[if_neg hR, if_neg];rintro ⟨a,b,c⟩;exact hR ⟨by omega,by push_cast at b;omega,c⟩
theorem j6 {n:Nat}{l:List Tr}(hd:Deep n l):qy l=(decide (dep n l≤8)&&decide (cnt n l≤80)&&rgt n l):=by
 unfold qy;rw[rb_eq 8 n l 80 (by decide) hd]
 by_cases h:dep n l≤8∧(cnt n l:Int)≤80∧rgt n l=true
 · rw[if_pos h];have h2:cnt n l≤80:=by omega
   simp[h.1,h2,h.2.2];omega
 · rw[if_neg h];cases hr:rgt n l with
   | false=>simp
   | true =>
     have:¬ (dep n l≤8∧cnt n l≤80):=fun ⟨a,b⟩=>h ⟨a,by omega,hr⟩
     by_cases h1:dep n l≤8
     · have h2 : ¬ cnt n l ≤ 80 := fun b => this ⟨h1, b⟩
       simp[h2]
     · simp[h1]
theorem xA {n:Nat}{t:Tr}(hd:Deep n t.kids):qR t=(!t.text&&decide (dep (n+1) [t]<9)&&decide (cnt (n+1) [t]<81)&&rgt (n+1) [t]):=by
 have h:Deep (n+1) [t]:=by intro x hx;simp at hx;subst hx;exact hd
 unfold qR;rw[j6 h];have e1:decide (dep (n+1) [t]≤8)=decide (dep (n+1) [t]<9):=by congr 1;apply propext;omega
 have e2:decide (cnt (n+1) [t]≤80)=decide (cnt (n+1) [t]<81):=by congr 1;apply propext;omega
 rw[e1,e2,Bool.and_assoc,Bool.and_assoc,Bool.and_assoc]
end Go.Proofs.YtkbhckhbgalaoaaGreatDoor
namespace Go.Proofs.YtkbhckhbgalaoaaGreatDoor
open Go.RowKit
set_option maxRecDepth 100000
def qj (v:Bool):List UInt8:=if v then valueEnds else textEnds
theorem j9 {c:UInt8}{x:List UInt8}(hc:c≠38)(p:List UInt8):(⟨c::x,false⟩:Rs).ahead (38::p)=false:=by
 have:((38:UInt8)==c)=false:=by simpa using fun e=>hc e.symm
 simp[Rs.ahead,List.isPrefixOf,this]
theorem Y9 (v:Bool)(c:UInt8)(x:List UInt8):(⟨zc v c++x,false⟩:Rs).sign=(c,⟨x,false⟩)∧(⟨zc v c++x,false⟩:Rs).goesOn (qj v)=true:=by
 by_cases h0:c=60
 · subst h0;cases v<;>exact ⟨rfl,rfl⟩
 by_cases h1:c=62
 · subst h1;cases v<;>exact ⟨rfl,rfl⟩
 by_cases h2:c=38
 · subst h2;cases v<;>exact ⟨rfl,rfl⟩
 by_cases h3:(v&&c==34)=true
 · simp only[Bool.and_eq_true, beq_iff_eq]at h3
   obtain ⟨rfl,rfl⟩:=h3;exact ⟨rfl,rfl⟩
 have hm:zc v c=[c]:=by simp only[zc,h0,h1,h2,if_false];rw[if_neg h3]
 rw[hm]
 constructor
 · show (⟨c :: x, false⟩ : Rs).sign = _
   unfold Rs.sign;simp only[marksL,Rs.signFrom,j9 h2,h2,Bool.false_eq_true,if_false]
 · have n0 : ((60 : UInt8) == c) = false := by simpa using fun e => h0 e.symm
   have n1:((62:UInt8)==c)=false:=by simpa using fun e=>h1 e.symm
   cases v with
   | false=>simp[Rs.goesOn,qj,textEnds,Lib.indexByte,n0,n1]
   | true =>
     have n3:((34:UInt8)==c)=false:=by
      have:¬ c=34:=by simpa using h3
      simpa using fun e=>this e.symm
     simp[Rs.goesOn,qj,valueEnds,Lib.indexByte,n0,n1,n3]
theorem QH (v:Bool)(l x:List UInt8)(hx:(⟨x,false⟩:Rs).goesOn (qj v)=false):(⟨qv v l++x,false⟩:Rs).text (qj v)=(l,⟨x,false⟩):=by
 induction l with
 | nil=>exact zv hx
 | cons c l ih =>
   have e:qv v (c::l)++x=zc v c++(qv v l++x):=by simp[qv]
   obtain ⟨h1,h2⟩:=Y9 v c (qv v l++x);rw[e,zD h2,h1,ih]
theorem zi {c:UInt8}(h:qd c=true):qe c=false:=by
 simp only[qd,Bool.and_eq_true,decide_eq_true_eq]at h
 have h1:¬ c=32:=by intro e;subst e;exact absurd h.1 (by decide)
 have h2:¬ c=10:=by intro e;subst e;exact absurd h.1 (by decide)
 simp[qe,h1,h2]
theorem qm {p:UInt8→Bool}:∀ {l:List UInt8}{c:UInt8}{x:List UInt8},l.all p=true→p c=false→(l++c::x).takeWhile p=l∧(l++c::x).dropWhile p=c::x:=by
 intro l
 induction l with
 | nil=>intro c x _ hc;simp[hc]
 | cons d l ih =>
   intro c x h hc;simp only[List.all_cons,Bool.and_eq_true]at h
   obtain ⟨h1,h2⟩:=ih (x:=x) h.2 hc;simp[h.1,h1,h2]
theorem xK {s:ByteArray}(h:qK s=true):∃ c l,s.data.toList=c::l∧qd c=true∧l.all qd=true:=by
 simp only[qK,Bool.and_eq_true,decide_eq_true_eq]at h
 have h1:=h.1.1;have h2:=h.2;cases hs:s.data.toList with
 | nil =>
   have:s.data.toList.length=0:=by rw[hs];rfl
   rw[Array.length_toList]at this
   have:s.size=0:=this;omega
 | cons c l =>
   rw[hs]at h2
   simp only[List.all_cons,Bool.and_eq_true]at h2
   exact ⟨c,l,rfl,h2.1,h2.2⟩
theorem qZ (p x:List UInt8):(⟨p++x,false⟩:Rs).must p=⟨x,false⟩:=by
 have:(⟨p++x,false⟩:Rs).ahead p=true:=by simp[Rs.ahead]
 simp[Rs.must,this]
def zU (x:ByteArray × ByteArray):List UInt8 × List UInt8:=(x.1.data.toList,x.2.data.toList)
theorem YD {a:ByteArray × ByteArray}(hn:qK a.1=true)(y:List UInt8):(⟨qk a++y,false⟩:Rs).attrAhead=true∧(⟨qk a++y,false⟩:Rs).attr=(zU a,⟨y,false⟩):=by
 obtain ⟨c,l,hs,hc,hl⟩:=xK hn;have hall:(c::l).all qd=true:=by simp[hc,hl]
 have e:qk a++y=32::((c::l)++61::(34::(qv true a.2.data.toList++34::y))):=by simp[qk,hs]
 have hsk:(⟨qk a++y,false⟩:Rs).skip=⟨(c::l)++61::(34::(qv true a.2.data.toList++34::y)),false⟩:=by
  rw[e];simp only[Rs.skip];rw[List.dropWhile_cons,if_pos (by decide),List.cons_append,List.dropWhile_cons,if_neg (by rw[zi hc];decide)]
 obtain ⟨t1,t2⟩:=qm (c:=61) (x:=34::(qv true a.2.data.toList++34::y)) hall (by decide)
 constructor
 · have hd:(qk a++y).dropWhile qe=c::(l++61::(34::(qv true a.2.data.toList++34::y))):=by
    have:=congrArg Rs.rest hsk;exact this
   simp only[Rs.attrAhead,hd,hc];rw[e];simp
 · unfold Rs.attr;rw[hsk];have hno:(⟨(c::l)++61::(34::(qv true a.2.data.toList++34::y)),false⟩:Rs).nameOf=c::l:=t1
   have hna:(⟨(c::l)++61::(34::(qv true a.2.data.toList++34::y)),false⟩:Rs).name=⟨[61,34]++(qv true a.2.data.toList++34::y),false⟩:=by
    simp only[Rs.name];rw[t2];rfl
   rw[hno,hna,qZ];have htx:=QH true a.2.data.toList (34::y) rfl;simp only[qj,if_true]at htx
   rw[htx]
   show ((c::l,a.2.data.toList),(⟨[34]++y,false⟩:Rs).must [34])=_
   rw[qZ,←hs];rfl
theorem ZT {l:List (ByteArray × ByteArray)}(hn:∀ x∈l,qK x.1=true)(y:List UInt8)(hy:(⟨y,false⟩:Rs).attrAhead=false):(⟨l.flatMap qk++y,false⟩:Rs).attrs=(l.map zU,⟨y,false⟩):=by
 induction l with
 | nil=>exact yW hy
 | cons a l ih =>
   have e:(a::l).flatMap qk++y=qk a++(l.flatMap qk++y):=by simp
   obtain ⟨h1,h2⟩:=YD (hn a List.mem_cons_self) (l.flatMap qk++y);rw[e,jA h1,h2,ih (fun x hx=>hn x (List.mem_cons_of_mem _ hx))]
   rfl
theorem YC (l:List (ByteArray × ByteArray)):asB (l.map zU)=l:=by
 induction l with
 | nil=>rfl
 | cons a l ih =>
   show (qa a.1.data.toList,qa a.2.data.toList)::asB (l.map zU)=_
   rw[ih,yJ,yJ]
theorem jp {l:List (ByteArray × ByteArray)}(h:qD l=true):(l.map zU).Pairwise fun x y=>x.1<y.1:=by
 simp only[qD,Bool.and_eq_true,decide_eq_true_eq,List.all_eq_true]at h
 have step:∀ i,i+1<(l.map zU).length→∀ x y,(l.map zU)[i]?=some x→(l.map zU)[i+1]?=some y→x.1<y.1:=by
  intro i hi x y hx hy;have hk:=h.2 (i+1) (by simpa using hi)
  simp only[List.getElem?_map,Option.map_eq_some_iff]at hx hy
  obtain ⟨a,ha,rfl⟩:=hx;obtain ⟨b,hb,rfl⟩:=hy;unfold okA at hk
  rw[hb]at hk
  simp only[ha,Bool.and_eq_true]at hk
  have:=hk.2;rw[less_lt,decide_eq_true_eq,ByteArray.toList_eq,ByteArray.toList_eq]at this
  exact this
 have gen:∀ (m:List (List UInt8 × List UInt8)),(∀ i,i+1<m.length→∀ x y,m[i]?=some x→m[i+1]?=some y→x.1<y.1)→m.Pairwise fun x y=>x.1<y.1:=by
  intro m
  induction m with
  | nil=>intro _;exact List.Pairwise.nil
  | cons a m ih =>
    intro hs;have hm:=ih (fun i hi x y hx hy=>hs (i+1) (by simpa using hi) x y (by simpa using hx) (by simpa using hy))
    rw[List.pairwise_cons];refine ⟨fun b hb=>?_,hm⟩
    cases m with
    | nil=>simp at hb
    | cons c m =>
      have h1:a.1<c.1:=hs 0 (by simp) a c rfl rfl
      rw[List.mem_cons]at hb
      rcases hb with rfl|hb
      · exact h1
      · rw[List.pairwise_cons]at hm
        exact List.lt_trans h1 (hm.1 b hb)
 exact gen _ step
def wordsT:List (List UInt8 × UInt8):=[([108,116],60),([103,116],62),([97,109,112],38),([113,117,111,116],34)]
def qh (c:UInt8):Bool:=decide (c≠59)
def qX (t:List UInt8):Option (UInt8 × List UInt8) :=
 match t.dropWhile qh with
 | []=>none
 | _ :: r => match wordsT.find? (fun p => p.1 == t.takeWhile qh) with
   | some p=>some (p.2,r)
   | none=>none
def qI (v:Bool):Nat→List UInt8→Option (List UInt8)
 | 0,_=>none
 | _+1,[]=>some []
 | f + 1, c :: t =>
   if c=38 then match qX t with
    | some (x,r)=>(qI v f r).map (x::·)
    | none=>none
   else if decide (c=60)||decide (c=62)||(decide (c=34)&&v)||!sign c then none
   else (qI v f t).map (c::·)
theorem yP {u t:List UInt8}(hu:u.all qh=true):(u++[59]).isPrefixOf t=true↔t.takeWhile qh=u∧∃ r,t.dropWhile qh=59::r:=by
 constructor
 · intro h;obtain ⟨r,rfl⟩:=List.isPrefixOf_iff_prefix.1 h;have h2:=qm (p:=qh) (l:=u) (c:=59) (x:=r) hu (by decide)
   rw[List.append_assoc];exact ⟨h2.1,r,h2.2⟩
 · rintro ⟨h1, r, h2⟩;rw[List.isPrefixOf_iff_prefix];refine ⟨r,?_⟩;rw[←List.takeWhile_append_dropWhile (p:=qh) (l:=t),h1,h2,List.append_assoc];rfl
theorem Y6 {t u r:List UInt8}(h1:t.takeWhile qh=u)(h2:t.dropWhile qh=59::r):t.drop (u.length+1)=r:=by
 have e:t=u++59::r:=by rw[←h1,←h2];exact (List.takeWhile_append_dropWhile).symm
 rw[e,←List.drop_drop,List.drop_left];rfl
theorem yA {t:List UInt8}{c:UInt8}{r:List UInt8}(h:t.dropWhile qh=c::r):c=59:=by
 have:=List.head?_dropWhile_not qh t;rw[h]at this
 simpa[qh] using this
theorem yd (t:List UInt8):(⟨38::t,false⟩:Rs).sign=match qX t with
 | some (x,r)=>(x,⟨r,false⟩)
 | none=>(38,⟨38::t,true⟩):=by
 have ah:∀ u:List UInt8,(⟨38::t,false⟩:Rs).ahead (38::(u++[59]))=(u++[59]).isPrefixOf t:=by
  intro u;simp[Rs.ahead,List.isPrefixOf]
 have a1:=ah [108,116];have a2:=ah [103,116];have a3:=ah [97,109,112];have a4:=ah [113,117,111,116];simp only[List.cons_append,List.nil_append]at a1 a2 a3 a4
 have s1:=yP (u:=[108,116]) (t:=t) (by decide)
 have s2:=yP (u:=[103,116]) (t:=t) (by decide)
 have s3:=yP (u:=[97,109,112]) (t:=t) (by decide)
 have s4:=yP (u:=[113,117,111,116]) (t:=t) (by decide)
 simp only[List.cons_append,List.nil_append]at s1 s2 s3 s4
 unfold Rs.sign qX;cases hd:t.dropWhile qh with
 | nil =>
   have n:∀ u,¬ (t.takeWhile qh=u∧∃ r,t.dropWhile qh=59::r):=fun u h=>by obtain ⟨_,r,h2⟩:=h;rw[hd]at h2;cases h2
   have b1:(⟨38::t,false⟩:Rs).ahead [38,108,116,59]=false:=by rw[a1];exact Bool.eq_false_iff.2 (fun h=>n _ (s1.1 h))
   have b2:(⟨38::t,false⟩:Rs).ahead [38,103,116,59]=false:=by rw[a2];exact Bool.eq_false_iff.2 (fun h=>n _ (s2.1 h))
   have b3:(⟨38::t,false⟩:Rs).ahead [38,97,109,112,59]=false:=by rw[a3];exact Bool.eq_false_iff.2 (fun h=>n _ (s3.1 h))
   have b4:(⟨38::t,false⟩:Rs).ahead [38,113,117,111,116,59]=false:=by rw[a4];exact Bool.eq_false_iff.2 (fun h=>n _ (s4.1 h))
   simp[marksL,Rs.signFrom,b1,b2,b3,b4]
 | cons c r =>
   obtain rfl:=yA hd;have key:∀ u:List UInt8,(t.takeWhile qh=u∧∃ r,t.dropWhile qh=59::r)↔t.takeWhile qh=u:=fun u=>⟨fun h=>h.1,fun h=>⟨h,r,hd⟩⟩
   rw[key]at s1 s2 s3 s4
   generalize hw:t.takeWhile qh=wd at *
   have dr:∀ u:List UInt8,wd=u→t.drop (u.length+1)=r:=fun u h=>Y6 (hw.trans h) hd
   by_cases e1:wd=[108,116]
   · have b1 : (⟨38 :: t, false⟩ : Rs).ahead [38, 108, 116, 59] = true := by rw[a1];exact s1.2 e1
     have:=dr _ e1;simp only[List.length_cons,List.length_nil]at this
     simp[marksL,Rs.signFrom,b1,wordsT,e1,this]
   have b1:(⟨38::t,false⟩:Rs).ahead [38,108,116,59]=false:=by rw[a1];exact Bool.eq_false_iff.2 (fun h=>e1 (s1.1 h))
   by_cases e2:wd=[103,116]
   · have b2 : (⟨38 :: t, false⟩ : Rs).ahead [38, 103, 116, 59] = true := by rw[a2];exact s2.2 e2
     have:=dr _ e2;simp only[List.length_cons,List.length_nil]at this
     simp[marksL,Rs.signFrom,b1,b2,wordsT,e2,this]
   have b2:(⟨38::t,false⟩:Rs).ahead [38,103,116,59]=false:=by rw[a2];exact Bool.eq_false_iff.2 (fun h=>e2 (s2.1 h))
   by_cases e3:wd=[97,109,112]
   · have b3 : (⟨38 :: t, false⟩ : Rs).ahead [38, 97, 109, 112, 59] = true := by rw[a3];exact s3.2 e3
     have:=dr _ e3;simp only[List.length_cons,List.length_nil]at this
     simp[marksL,Rs.signFrom,b1,b2,b3,wordsT,e3,this]
   have b3:(⟨38::t,false⟩:Rs).ahead [38,97,109,112,59]=false:=by rw[a3];exact Bool.eq_false_iff.2 (fun h=>e3 (s3.1 h))
   by_cases e4:wd=[113,117,111,116]
   · have b4 : (⟨38 :: t, false⟩ : Rs).ahead [38, 113, 117, 111, 116, 59] = true := by rw[a4];exact s4.2 e4
     have:=dr _ e4;simp only[List.length_cons,List.length_nil]at this
     simp[marksL,Rs.signFrom,b1,b2,b3,b4,wordsT,e4,this]
   have b4:(⟨38::t,false⟩:Rs).ahead [38,113,117,111,116,59]=false:=by rw[a4];exact Bool.eq_false_iff.2 (fun h=>e4 (s4.1 h))
   have f1:([108,116]==wd)=false:=by simpa using fun h=>e1 h.symm
   have f2:([103,116]==wd)=false:=by simpa using fun h=>e2 h.symm
   have f3:([97,109,112]==wd)=false:=by simpa using fun h=>e3 h.symm
   have f4:([113,117,111,116]==wd)=false:=by simpa using fun h=>e4 h.symm
   simp[marksL,Rs.signFrom,b1,b2,b3,b4,wordsT,List.find?,f1,f2,f3,f4]
theorem yb {c:UInt8}(hc:c≠38)(t:List UInt8):(⟨c::t,false⟩:Rs).sign=(c,⟨t,false⟩):=by
 unfold Rs.sign;simp[marksL,Rs.signFrom,j9 hc,hc]
theorem zM {t r:List UInt8}{x:UInt8}(h:qX t=some (x,r)):r.length<t.length∧sign x=true:=by
 unfold qX at h
 cases hd:t.dropWhile qh with
 | nil=>rw[hd]at h;cases h
 | cons c q =>
   rw[hd]at h
   simp only at h
   have hl:(t.dropWhile qh).length≤t.length:=(List.dropWhile_suffix qh).length_le;rw[hd,List.length_cons]at hl
   cases hf:wordsT.find? (fun p=>p.1==t.takeWhile qh) with
   | none=>rw[hf]at h;cases h
   | some p =>
     rw[hf]at h
     injection h with h
     injection h with h1 h2
     subst h1 h2;refine ⟨by omega,?_⟩
     have hm:=List.mem_of_find?_eq_some hf;simp only[wordsT,List.mem_cons,List.not_mem_nil,or_false]at hm
     rcases hm with rfl|rfl|rfl|rfl<;>decide
theorem yR (s:List UInt8)(ends:List UInt8):(⟨s,true⟩:Rs).text ends=([],⟨s,true⟩):=zv (zA rfl)
theorem zg (v:Bool)(c:UInt8)(t:List UInt8):(⟨c::t,false⟩:Rs).goesOn (qj v)=!(decide (c=60)||decide (c=62)||(decide (c=34)&&v)):=by
 unfold Rs.goesOn qj
 by_cases h1:c=60
 · subst h1;cases v<;>rfl
 by_cases h2:c=62
 · subst h2;cases v<;>rfl
 by_cases h3:c=34
 · subst h3;cases v<;>rfl
 have e1:((60:UInt8)==c)=false:=by simpa using fun h=>h1 h.symm
 have e2:((62:UInt8)==c)=false:=by simpa using fun h=>h2 h.symm
 have e3:((34:UInt8)==c)=false:=by simpa using fun h=>h3 h.symm
 cases v<;>simp[valueEnds,textEnds,Lib.indexByte,e1,e2,e3,h1,h2,h3]
theorem yo (v:Bool):∀ (f:Nat)(s out:List UInt8),s.length<f→(qI v f s=some out↔(⟨s,false⟩:Rs).text (qj v)=(out,⟨[],false⟩)∧out.all sign=true):=by
 intro f
 induction f with
 | zero=>intro s out h;omega
 | succ f ih =>
   intro s out h;cases s with
   | nil =>
     have e:(⟨[],false⟩:Rs).text (qj v)=([],⟨[],false⟩):=zv rfl;rw[e,qI]
     constructor
     · intro h1;injection h1 with h1;subst h1;exact ⟨rfl,rfl⟩
     · rintro ⟨h1,_⟩;injection h1 with h1;rw[h1]
   | cons c t =>
     simp only[List.length_cons]at h
     rw[qI]
     by_cases hc:c=38
     · subst hc;rw[if_pos rfl];have hg:(⟨38::t,false⟩:Rs).goesOn (qj v)=true:=by rw[zg];cases v<;>rfl
       rw[zD hg,yd];cases hw:qX t with
       | none =>
         simp only;rw[yR]
         constructor
         · intro h1;cases h1
         · rintro ⟨h1,_⟩;injection h1 with _ h1;injection h1 with _ h1;cases h1
       | some p =>
         obtain ⟨x,r⟩:=p;obtain ⟨hl,hx⟩:=zM hw;simp only
         constructor
         · intro h1;obtain ⟨o,ho,rfl⟩:=Option.map_eq_some_iff.1 h1;obtain ⟨g1,g2⟩:=(ih r o (by omega)).1 ho
           rw[g1];exact ⟨rfl,by rw[List.all_cons,hx,g2];rfl⟩
         · rintro ⟨h1, h2⟩
           injection h1 with h1 h3
           subst h1;rw[List.all_cons,Bool.and_eq_true]at h2
           rw[(ih r _ (by omega)).2 ⟨by rw[←h3],h2.2⟩]
           rfl
     · rw[if_neg hc];cases he:(decide (c=60)||decide (c=62)||(decide (c=34)&&v)) with
       | true =>
         have hg:(⟨c::t,false⟩:Rs).goesOn (qj v)=false:=by rw[zg,he];rfl
         rw[zv hg,if_pos (by simp)]
         constructor
         · intro h1;cases h1
         · rintro ⟨h1,_⟩;injection h1 with _ h1;injection h1 with h1 _;cases h1
       | false =>
         have hg:(⟨c::t,false⟩:Rs).goesOn (qj v)=true:=by rw[zg,he];rfl
         rw[zD hg,yb hc];simp only[Bool.false_or];cases hs:sign c with
         | false =>
           rw[if_pos (by simp)]
           constructor
           · intro h1;cases h1
           · rintro ⟨h1, h2⟩
             injection h1 with h1 _
             subst h1;rw[List.all_cons,hs]at h2
             cases h2
         | true =>
           rw[if_neg (by simp)]
           constructor
           · intro h1;obtain ⟨o,ho,rfl⟩:=Option.map_eq_some_iff.1 h1;obtain ⟨g1,g2⟩:=(ih t o (by omega)).1 ho
             rw[g1];exact ⟨rfl,by rw[List.all_cons,hs,g2];rfl⟩
           · rintro ⟨h1, h2⟩
             injection h1 with h1 h3
             subst h1;rw[List.all_cons,Bool.and_eq_true]at h2
             rw[(ih t _ (by omega)).2 ⟨by rw[←h3],h2.2⟩]
             rfl
theorem JU {t r:List UInt8}{x:UInt8}(h:qX t=some (x,r))(y:List UInt8):qX (t++y)=some (x,r++y):=by
 unfold qX at h ⊢
 cases hd:t.dropWhile qh with
 | nil=>rw[hd]at h;cases h
 | cons c q =>
   obtain rfl:=yA hd;have e:t=t.takeWhile qh++59::q:=by rw[←hd];exact (List.takeWhile_append_dropWhile).symm
   have hall:(t.takeWhile qh).all qh=true:=List.all_takeWhile
   generalize hw:t.takeWhile qh=wd at *
   have h2:=qm (p:=qh) (l:=wd) (c:=59) (x:=q++y) hall (by decide)
   have e2:t++y=wd++59::(q++y):=by rw[e,List.append_assoc];rfl
   rw[e2,h2.1,h2.2];rw[hd]at h
   simp only at h ⊢
   cases hf:wordsT.find? (fun p=>p.1==wd) with
   | none=>rw[hf]at h;cases h
   | some p =>
     rw[hf]at h
     injection h with h
     injection h with h1 h2
     subst h1 h2;rfl
theorem JV {t r p:List UInt8}{x:UInt8}(h:qX t=some (x,r))(hp:∃ y,r=p++y):∃ u,(∀ y,r=p++y→t=u++y)∧qX u=some (x,p):=by
 unfold qX at h
 cases hd:t.dropWhile qh with
 | nil=>rw[hd]at h;cases h
 | cons c q =>
   obtain rfl:=yA hd;have e:t=t.takeWhile qh++59::q:=by rw[←hd];exact (List.takeWhile_append_dropWhile).symm
   have hall:(t.takeWhile qh).all qh=true:=List.all_takeWhile
   generalize hw:t.takeWhile qh=wd at *
   rw[hd]at h
   simp only at h
   cases hf:wordsT.find? (fun p=>p.1==wd) with
   | none=>rw[hf]at h;cases h
   | some z =>
     rw[hf]at h
     injection h with h
     injection h with h1 h2
     subst h1 h2;refine ⟨wd++59::p,fun y hy=>?_,?_⟩
     · rw[e,hy,List.append_assoc];rfl
     · have h3 := qm (p := qh) (l := wd) (c := 59) (x := p) hall (by decide)
       unfold qX;rw[h3.1,h3.2];simp only;rw[hf]
theorem ZL (v:Bool)(y:List UInt8)(hy:(⟨y,false⟩:Rs).goesOn (qj v)=false):∀ (n:Nat)(s out:List UInt8),s.length<n→(⟨s,false⟩:Rs).text (qj v)=(out,⟨[],false⟩)→(⟨s++y,false⟩:Rs).text (qj v)=(out,⟨y,false⟩):=by
 intro n
 induction n with
 | zero=>intro s out h;omega
 | succ n ih =>
   intro s out h hs;cases s with
   | nil =>
     have e:(⟨[],false⟩:Rs).text (qj v)=([],⟨[],false⟩):=zv rfl;rw[e]at hs
     injection hs with h1 _
     subst h1;exact zv hy
   | cons c t =>
     simp only[List.length_cons]at h
     cases hg:(⟨c::t,false⟩:Rs).goesOn (qj v) with
     | false =>
       rw[zv hg]at hs
       injection hs with _ h1
       injection h1 with h1 _
       cases h1
     | true =>
       have hg2:(⟨c::t++y,false⟩:Rs).goesOn (qj v)=true:=by
        rw[zg]at hg
        show (⟨c::(t++y),false⟩:Rs).goesOn (qj v)=true
        rw[zg];exact hg
       rw[zD hg]at hs
       rw[zD hg2]
       by_cases hc:c=38
       · subst hc;rw[yd]at hs
         show _=_
         rw[show (38::t++y:List UInt8)=38::(t++y) from rfl,yd]
         cases hw:qX t with
         | none =>
           rw[hw]at hs
           simp only at hs
           rw[yR]at hs
           injection hs with _ h1
           injection h1 with _ h1
           cases h1
         | some p =>
           obtain ⟨x,r⟩:=p;rw[hw]at hs
           rw[JU hw];simp only at hs ⊢
           have hl:=(zM hw).1
           injection hs with h1 h2
           have h3:=ih r _ (by omega) (Prod.ext rfl h2:(⟨r,false⟩:Rs).text (qj v)=(((⟨r,false⟩:Rs).text (qj v)).1,⟨[],false⟩))
           rw[h3];rw[←h1]
       · rw[yb hc]at hs
         rw[show (c::t++y:List UInt8)=c::(t++y) from rfl,yb hc]
         simp only at hs ⊢
         injection hs with h1 h2
         have h3:=ih t _ (by omega) (Prod.ext rfl h2:(⟨t,false⟩:Rs).text (qj v)=(((⟨t,false⟩:Rs).text (qj v)).1,⟨[],false⟩))
         rw[h3,←h1]
theorem ZM (v:Bool):∀ (n:Nat)(s out y:List UInt8),s.length<n→(⟨s,false⟩:Rs).text (qj v)=(out,⟨y,false⟩)→∃ p,s=p++y∧(⟨p,false⟩:Rs).text (qj v)=(out,⟨[],false⟩)∧(⟨y,false⟩:Rs).goesOn (qj v)=false:=by
 intro n
 induction n with
 | zero=>intro s out y h;omega
 | succ n ih =>
   intro s out y h hs;cases hg:(⟨s,false⟩:Rs).goesOn (qj v) with
   | false =>
     rw[zv hg]at hs
     injection hs with h1 h2
     injection h2 with h2 _
     subst h1 h2;exact ⟨[],rfl,zv rfl,hg⟩
   | true =>
     cases s with
     | nil=>cases hg
     | cons c t =>
       simp only[List.length_cons]at h
       rw[zD hg]at hs
       by_cases hc:c=38
       · subst hc;rw[yd]at hs
         cases hw:qX t with
         | none =>
           rw[hw]at hs
           simp only at hs
           rw[yR]at hs
           injection hs with _ h1
           injection h1 with _ h1
           cases h1
         | some q =>
           obtain ⟨x,r⟩:=q;rw[hw]at hs
           simp only at hs
           have hl:=(zM hw).1
           injection hs with h1 h2
           obtain ⟨p,hp,ht,hy⟩:=ih r _ y (by omega) (Prod.ext rfl h2:(⟨r,false⟩:Rs).text (qj v)=(((⟨r,false⟩:Rs).text (qj v)).1,⟨y,false⟩))
           obtain ⟨u,hu,hwu⟩:=JV hw ⟨y,hp⟩;refine ⟨38::u,by rw[hu y hp];rfl,?_,hy⟩
           have hg3:(⟨38::u,false⟩:Rs).goesOn (qj v)=true:=by rw[zg]at hg ⊢;exact hg
           rw[zD hg3,yd,hwu];simp only;rw[ht,←h1]
       · rw[yb hc]at hs
         simp only at hs
         injection hs with h1 h2
         obtain ⟨p,hp,ht,hy⟩:=ih t _ y (by omega) (Prod.ext rfl h2:(⟨t,false⟩:Rs).text (qj v)=(((⟨t,false⟩:Rs).text (qj v)).1,⟨y,false⟩))
         refine ⟨c::p,by rw[hp];rfl,?_,hy⟩
         have hg3:(⟨c::p,false⟩:Rs).goesOn (qj v)=true:=by rw[zg]at hg ⊢;exact hg
         rw[zD hg3,yb hc];simp only;rw[ht,←h1]
def qM (c:UInt8):Bool:=decide (c≠34)
def qo (l:List UInt8):Bool:=decide (l≠[])&&decide (l.length≤8)&&l.all qd
def attrsL:Nat→List UInt8→Option (List (List UInt8 × List UInt8))
 | 0,_=>none
 | f + 1, m =>
   if m.all qe then some [] else
   if (m.dropWhile qe).length=m.length then none else
   if !qo ((m.dropWhile qe).takeWhile qd) then none else
   match (m.dropWhile qe).dropWhile qd with
   | 61 :: 34 :: after => match after.dropWhile qM with
     | []=>none
     | _ :: next => match qI true (after.length + 1) (after.takeWhile qM) with
       | none=>none
       | some x=>(attrsL f next).map (((m.dropWhile qe).takeWhile qd,x)::·)
   | _=>none
def yC (y:List UInt8):Bool:=match y with
 | []=>false
 | c::_=>decide (c=47)||decide (c=62)
theorem yz {p:UInt8→Bool}:∀ {l:List UInt8}(y:List UInt8),l.all p=true→(l++y).dropWhile p=y.dropWhile p:=by
 intro l
 induction l with
 | nil=>intro y _;rfl
 | cons c l ih =>
   intro y h;rw[List.all_cons,Bool.and_eq_true]at h
   rw[List.cons_append,List.dropWhile_cons,if_pos h.1];exact ih y h.2
theorem jf {y:List UInt8}(h:yC y=true):y.dropWhile qe=y∧(∀ c r,y=c::r→qd c=false):=by
 cases y with
 | nil=>cases h
 | cons c r =>
   simp only[yC,Bool.or_eq_true,decide_eq_true_eq]at h
   rcases h with rfl|rfl
   · exact ⟨rfl,fun c r e=>by injection e with e _;subst e;rfl⟩
   · exact ⟨rfl,fun c r e=>by injection e with e _;subst e;rfl⟩
theorem J7 {sp y:List UInt8}(hs:sp.all qe=true)(hy:yC y=true):(⟨sp++y,false⟩:Rs).attrAhead=false:=by
 unfold Rs.attrAhead;rw[yz y hs,(jf hy).1];cases y with
 | nil=>simp
 | cons c r=>simp[(jf hy).2 c r rfl]
theorem zt {p:UInt8→Bool}{l:List UInt8}:∃ a b,l=a++b∧l.takeWhile p=a∧l.dropWhile p=b∧a.all p=true :=
 ⟨_,_,(List.takeWhile_append_dropWhile).symm,rfl,rfl,List.all_takeWhile⟩
theorem Zc (y:List UInt8)(hy:yC y=true):∀ (f:Nat)(m:List UInt8)(L:List (List UInt8 × List UInt8)),attrsL f m=some L→∃ sp,sp.all qe=true∧(⟨m++y,false⟩:Rs).attrs=(L,⟨sp++y,false⟩):=by
 intro f
 induction f with
 | zero=>intro m L h;cases h
 | succ f ih =>
   intro m L h;rw[attrsL]at h
   by_cases hall:m.all qe=true
   · rw[if_pos hall]at h
     injection h with h
     subst h;exact ⟨m,hall,yW (J7 hall hy)⟩
   rw[if_neg hall]at h
   by_cases hlen:(m.dropWhile qe).length=m.length
   · rw[if_pos hlen]at h;cases h
   rw[if_neg hlen]at h
   obtain ⟨sp,rest,hm,_,hd,hsp⟩:=zt (p:=qe) (l:=m);rw[hd]at h hlen
   obtain ⟨nm,tail,hr,ht,hdl,hnm⟩:=zt (p:=qd) (l:=rest);rw[ht,hdl]at h
   by_cases hok:qo nm=true
   · rw[hok]at h
     simp only[Bool.not_true,Bool.false_eq_true,if_false]at h
     obtain ⟨c0,nm',hnm0⟩:∃ c0 nm',nm=c0::nm':=by
      cases nm with
      | nil=>simp[qo]at hok
      | cons c0 nm'=>exact ⟨c0,nm',rfl⟩
     by_cases ht2:∃ after,tail=61::34::after
     · obtain ⟨after, rfl⟩ := ht2;simp only at h
       obtain ⟨value,q,ha,htv,hdq,hv⟩:=zt (p:=qM) (l:=after);rw[hdq,htv]at h
       match q,hdq,ha,h with
       | [],_,_,h=>cases h
       | c :: next, hdq, ha, h =>
         simp only at h
         have hc:c=34:=by
          have:=List.head?_dropWhile_not qM after;rw[hdq]at this
          simpa[qM] using this
         subst hc;cases hmn:qI true (after.length+1) value with
         | none=>rw[hmn]at h;cases h
         | some x =>
           rw[hmn]at h
           simp only at h
           obtain ⟨L',hL',rfl⟩:=Option.map_eq_some_iff.1 h;obtain ⟨sp',hsp',hat⟩:=ih next L' hL';refine ⟨sp',hsp',?_⟩;have hl:value.length<after.length+1:=by rw[ha,List.length_append];omega
           obtain ⟨htx,_⟩:=(yo true _ value x hl).1 hmn;have hstop:(⟨34::(next++y),false⟩:Rs).goesOn (qj true)=false:=by rw[zg];rfl
           have htx2:=ZL true (34::(next++y)) hstop _ value x (Nat.lt_succ_self _) htx;have hlet:qd c0=true:=by rw[hnm0,List.all_cons,Bool.and_eq_true]at hnm;exact hnm.1
           have hrest:rest++y=nm++61::(34::(after++y)):=by rw[hr,List.append_assoc];rfl
           have hdw:(m++y).dropWhile qe=rest++y:=by
            rw[hm,List.append_assoc,yz _ hsp,hrest,hnm0,List.cons_append,List.dropWhile_cons,zi hlet];rfl
           have h2:=qm (p:=qd) (l:=nm) (c:=61) (x:=34::(after++y)) hnm (by decide)
           have hah:(⟨m++y,false⟩:Rs).attrAhead=true:=by
            unfold Rs.attrAhead;rw[hdw]
            have h3:(rest++y).length<(m++y).length:=by
             have h4:m.length=sp.length+rest.length:=by rw[hm,List.length_append]
             rw[List.length_append,List.length_append];omega
            have h5:rest++y=c0::(nm'++61::(34::(after++y))):=by rw[hrest,hnm0];rfl
            simp only[Bool.not_false,Bool.true_and,h3,decide_true];rw[h5];exact hlet
           rw[jA hah];have hav:after++y=value++34::(next++y):=by rw[ha,List.append_assoc];rfl
           have hattr:(⟨m++y,false⟩:Rs).attr=((nm,x),⟨next++y,false⟩):=by
            unfold Rs.attr Rs.skip Rs.nameOf Rs.name;simp only;rw[hdw,hrest,h2.1,h2.2];have hmu:(⟨61::(34::(after++y)),false⟩:Rs).must [61,34]=⟨after++y,false⟩:=qZ [61,34] (after++y);rw[hmu,hav];have e2:(⟨value++34::(next++y),false⟩:Rs).text valueEnds=(x,⟨34::(next++y),false⟩):=htx2;rw[e2];have hmu2:(⟨34::(next++y),false⟩:Rs).must [34]=⟨next++y,false⟩:=qZ [34] (next++y);simp only;rw[hmu2]
           rw[hattr];simp only;rw[hat]
     · exfalso
       split at h
       · exact ht2 ⟨_,rfl⟩
       · cases h
   · have : qo nm = false := by simpa using hok
     rw[this]at h
     simp at h
theorem yD {r:Rs}{p:List UInt8}(h:(r.must p).wrong=false):r.wrong=false∧r.rest=p++(r.must p).rest:=by
 unfold Rs.must at h ⊢
 by_cases ha:r.ahead p=true
 · rw[if_pos ha]at h ⊢
   unfold Rs.ahead at ha
   rw[Bool.and_eq_true]at ha
   obtain ⟨q,hq⟩:=List.isPrefixOf_iff_prefix.1 ha.2;refine ⟨h,?_⟩;rw[←hq];simp
 · rw[if_neg ha]at h;cases h
theorem JR {r:Rs}{ends:List UInt8}(h:(r.text ends).2.wrong=false):r.wrong=false:=by
 cases hw:r.wrong with
 | false=>rfl
 | true=>rw[zv (zA hw)]at h;rw[hw]at h;exact h
def qW (c:UInt8):Bool:=decide (c≠60)
def qS (c:UInt8):Bool:=decide (c≠62)
theorem JT (q:UInt8→Bool)(hq:wordsT.all (fun p=>p.1.all q)=true)(h59:q 59=true){t r:List UInt8}{x:UInt8}(h:qX t=some (x,r)):t.all q=r.all q:=by
 unfold qX at h
 cases hd:t.dropWhile qh with
 | nil=>rw[hd]at h;cases h
 | cons c w =>
   obtain rfl:=yA hd;have e:t=t.takeWhile qh++59::w:=by rw[←hd];exact (List.takeWhile_append_dropWhile).symm
   generalize hw:t.takeWhile qh=wd at *
   rw[hd]at h
   simp only at h
   cases hf:wordsT.find? (fun p=>p.1==wd) with
   | none=>rw[hf]at h;cases h
   | some z =>
     rw[hf]at h
     injection h with h
     injection h with h1 h2
     subst h1 h2;have hm:=List.mem_of_find?_eq_some hf;have hz:=List.find?_some hf;have hz2:z.1=wd:=by simpa using hz
     rw[e,List.all_append,List.all_cons,←hz2,List.all_eq_true.1 hq z hm,h59];rfl
theorem QV (v:Bool)(q:UInt8→Bool)(hq:wordsT.all (fun p=>p.1.all q)=true)(h59:q 59=true)(hc:∀ c t,(⟨c::t,false⟩:Rs).goesOn (qj v)=true→q c=true):∀ (n:Nat)(p out:List UInt8),p.length<n→(⟨p,false⟩:Rs).text (qj v)=(out,⟨[],false⟩)→p.all q=true:=by
 intro n
 induction n with
 | zero=>intro p out h;omega
 | succ n ih =>
   intro p out h hp;cases p with
   | nil=>rfl
   | cons c t =>
     simp only[List.length_cons]at h
     cases hg:(⟨c::t,false⟩:Rs).goesOn (qj v) with
     | false =>
       rw[zv hg]at hp
       injection hp with _ h1
       injection h1 with h1 _
       cases h1
     | true =>
       have hc34:=hc c t hg;rw[zD hg]at hp
       rw[List.all_cons,hc34,Bool.true_and]
       by_cases hc:c=38
       · subst hc;rw[yd]at hp
         cases hw:qX t with
         | none =>
           rw[hw]at hp
           simp only at hp
           rw[yR]at hp
           injection hp with _ h1
           injection h1 with _ h1
           cases h1
         | some z =>
           obtain ⟨x,r⟩:=z;rw[hw]at hp
           simp only at hp
           injection hp with h1 h2
           have hl:=(zM hw).1;rw[JT q hq h59 hw];exact ih r _ (by omega) (Prod.ext rfl h2:(⟨r,false⟩:Rs).text (qj v)=(((⟨r,false⟩:Rs).text (qj v)).1,⟨[],false⟩))
       · rw[yb hc]at hp
         simp only at hp
         injection hp with h1 h2
         exact ih t _ (by omega) (Prod.ext rfl h2:(⟨t,false⟩:Rs).text (qj v)=(((⟨t,false⟩:Rs).text (qj v)).1,⟨[],false⟩))
theorem JH (p out:List UInt8)(h:(⟨p,false⟩:Rs).text (qj true)=(out,⟨[],false⟩)):p.all qM=true :=
 QV true qM (by decide) (by decide) (fun c t hg=>by
  rw[zg]at hg
  by_cases h:c=34
  · subst h;cases hg
  · simp[qM,h]) _ p out (Nat.lt_succ_self _) h
theorem Xy (v:Bool)(p out:List UInt8)(h:(⟨p,false⟩:Rs).text (qj v)=(out,⟨[],false⟩)):p.all qW=true :=
 QV v qW (by decide) (by decide) (fun c t hg=>by
  rw[zg]at hg
  by_cases h:c=60
  · subst h;cases v<;>cases hg
  · simp[qW,h]) _ p out (Nat.lt_succ_self _) h
theorem Xp (v:Bool)(p out:List UInt8)(h:(⟨p,false⟩:Rs).text (qj v)=(out,⟨[],false⟩)):p.all qS=true :=
 QV v qS (by decide) (by decide) (fun c t hg=>by
  rw[zg]at hg
  by_cases h:c=62
  · subst h;cases v<;>cases hg
  · simp[qS,h]) _ p out (Nat.lt_succ_self _) h
theorem yx {p q:UInt8→Bool}{l:List UInt8}(h:∀ c,p c=true→q c=true)(hl:l.all p=true):l.all q=true:=by
 rw[List.all_eq_true]at hl ⊢
 exact fun c hc=>h c (hl c hc)
theorem jV (c:UInt8)(h:qd c=true):qS c=true:=by
 by_cases e:c=62
 · subst e;cases h
 · simp[qS,e]
theorem xX (c:UInt8)(h:qe c=true):qS c=true:=by
 by_cases e:c=62
 · subst e;cases h
 · simp[qS,e]
theorem Zd {r:Rs}(h:r.wrong=true):r.attrs=([],r):=yW (by unfold Rs.attrAhead;rw[h];rfl)
theorem attrs_complete:∀ (n:Nat)(s:List UInt8)(L:List (List UInt8 × List UInt8))(z:List UInt8),s.length<n→(⟨s,false⟩:Rs).attrs=(L,⟨z,false⟩)→(∀ a∈L,qo a.1=true∧a.2.all sign=true) →
 ∃ m0,s=m0++z∧m0.all qS=true∧(m0=[]∨∃ u,m0=u++[34])∧∀ (sp:List UInt8) (f:Nat),sp.all qe=true→(m0++sp).length<f→attrsL f (m0++sp)=some L:=by
 intro n
 induction n with
 | zero=>intro s L z h;omega
 | succ n ih =>
   intro s L z h hs hL;cases hah:(⟨s,false⟩:Rs).attrAhead with
   | false =>
     rw[yW hah]at hs
     injection hs with h1 h2
     injection h2 with h2 _
     subst h1 h2;refine ⟨[],rfl,rfl,Or.inl rfl,fun sp f hsp hf=>?_⟩
     cases f with
     | zero=>omega
     | succ f=>rw[List.nil_append,attrsL,if_pos hsp]
   | true =>
     rw[jA hah]at hs
     injection hs with h1 h2
     subst h1;obtain ⟨hok,hval⟩:=hL _ List.mem_cons_self;unfold Rs.attrAhead at hah
     simp only[Bool.not_false,Bool.true_and,Bool.and_eq_true,decide_eq_true_eq]at hah
     obtain ⟨sp1,rest,hsr,_,hdr,hsp1⟩:=zt (p:=qe) (l:=s);rw[hdr]at hah
     obtain ⟨nm,tl,hrt,htn,hdt,hnm⟩:=zt (p:=qd) (l:=rest)
     have hw2:(⟨s,false⟩:Rs).attr.2.wrong=false:=by
      cases hw:(⟨s,false⟩:Rs).attr.2.wrong with
      | false=>rfl
      | true=>rw[Zd hw]at h2;simp only at h2;rw[h2]at hw;cases hw
     have e1:(⟨s,false⟩:Rs).attr=((nm,(((⟨tl,false⟩:Rs).must [61,34]).text valueEnds).1),((((⟨tl,false⟩:Rs).must [61,34]).text valueEnds).2.must [34])):=by
      unfold Rs.attr Rs.skip Rs.nameOf Rs.name;simp only;rw[hdr,htn,hdt]
     rw[e1]at hw2 h2 hok hval hL
     simp only at hw2 h2 hok hval
     obtain ⟨g1,g2⟩:=yD hw2;have g3:=JR g1;obtain ⟨_,g4⟩:=yD g3;simp only at g4
     have g5:((⟨tl,false⟩:Rs).must [61,34])=⟨((⟨tl,false⟩:Rs).must [61,34]).rest,false⟩:=by
      cases hq:((⟨tl,false⟩:Rs).must [61,34]) with
      | mk a b=>rw[hq]at g3;simp only at g3;rw[g3]
     generalize haf:((⟨tl,false⟩:Rs).must [61,34]).rest=after at *
     rw[g5]at g1 g2 h2 hval hw2
     have g6:((⟨after,false⟩:Rs).text valueEnds).2=⟨34::(((⟨after,false⟩:Rs).text valueEnds).2.must [34]).rest,false⟩:=by
      cases hq:((⟨after,false⟩:Rs).text valueEnds).2 with
      | mk a b =>
        rw[hq]at g1 g2
        simp only at g1 g2
        rw[g1]at hq ⊢
        rw[g1]at g2
        rw[g2]
        congr 1
     have g7:(((⟨after,false⟩:Rs).text valueEnds).2.must [34])=⟨(((⟨after,false⟩:Rs).text valueEnds).2.must [34]).rest,false⟩:=by
      cases hq:(((⟨after,false⟩:Rs).text valueEnds).2.must [34]) with
      | mk a b=>rw[hq]at hw2;simp only at hw2;rw[hw2]
     generalize hnx:(((⟨after,false⟩:Rs).text valueEnds).2.must [34]).rest=next at *
     generalize hx:((⟨after,false⟩:Rs).text valueEnds).1=x at *
     have htx:(⟨after,false⟩:Rs).text (qj true)=(x,⟨34::next,false⟩):=Prod.ext hx g6;obtain ⟨p,hp,hpt,_⟩:=ZM true _ after x (34::next) (Nat.lt_succ_self _) htx;have hnq:=JH p x hpt
     have hlen:next.length<n:=by
      have a1:s.length=sp1.length+rest.length:=by rw[hsr,List.length_append]
      have a2:rest.length=nm.length+tl.length:=by rw[hrt,List.length_append]
      have a3:tl.length=2+after.length:=by rw[g4];simp;omega
      have a4:after.length=p.length+(next.length+1):=by rw[hp];simp
      omega
     rw[g7]at h2
     obtain ⟨m0,hm0,hgt,hlast,hrec⟩:=ih next _ z hlen (Prod.ext rfl h2:(⟨next,false⟩:Rs).attrs=(((⟨next,false⟩:Rs).attrs).1,⟨z,false⟩)) (fun a ha=>hL a (by rw[g5,g7];exact List.mem_cons_of_mem _ ha))
     obtain ⟨c0,nm',hnm0⟩:∃ c0 nm',nm=c0::nm':=by
      cases nm with
      | nil=>simp[qo]at hok
      | cons c0 nm'=>exact ⟨c0,nm',rfl⟩
     have hlet:qd c0=true:=by rw[hnm0,List.all_cons,Bool.and_eq_true]at hnm;exact hnm.1
     refine ⟨sp1++(nm++61::34::(p++34::m0)),?_,?_,Or.inr ?_,fun sp f hsp hf=>?_⟩
     · rw[hsr,hrt,g4,hp,hm0];simp[List.append_assoc]
     · rw[List.all_append, List.all_append, List.all_cons, List.all_cons, List.all_append, List.all_cons, yx xX hsp1, yx jV hnm, Xp true p x hpt, hgt];rfl
     · rcases hlast with rfl | ⟨u, rfl⟩
       · exact ⟨sp1++(nm++61::34::p),by simp[List.append_assoc]⟩
       · exact ⟨sp1++(nm++61::34::(p++34::u)),by simp[List.append_assoc]⟩
     · cases f with
       | zero=>omega
       | succ f =>
         have eA:sp1++(nm++61::34::(p++34::m0))++sp=sp1++(nm++61::(34::(p++34::(m0++sp)))):=by simp[List.append_assoc]
         rw[eA]at hf ⊢
         have hdA:(sp1++(nm++61::(34::(p++34::(m0++sp))))).dropWhile qe=nm++61::(34::(p++34::(m0++sp))):=by
          rw[yz _ hsp1,hnm0,List.cons_append,List.dropWhile_cons,zi hlet];rfl
         have hnA:¬ (sp1++(nm++61::(34::(p++34::(m0++sp))))).all qe=true:=by
          rw[List.all_append,hnm0,List.cons_append,List.all_cons,zi hlet];simp
         have hsl:0<sp1.length:=by
          have a1:s.length=sp1.length+rest.length:=by rw[hsr,List.length_append]
          have a2:=hah.1;omega
         have h2w:=qm (p:=qd) (l:=nm) (c:=61) (x:=34::(p++34::(m0++sp))) hnm (by decide)
         have h3w:=qm (p:=qM) (l:=p) (c:=34) (x:=m0++sp) hnq (by decide)
         have hmt:qI true ((p++34::(m0++sp)).length+1) p=some x:=(yo true _ p x (by rw[List.length_append];omega)).2 ⟨hpt,hval⟩
         have hrc:=hrec sp f hsp (by simp only[List.length_append,List.length_cons]at hf ⊢;omega)
         have hne:¬ (nm++61::(34::(p++34::(m0++sp)))).length=(sp1++(nm++61::(34::(p++34::(m0++sp))))).length:=by
          intro hq;have hq2:=congrArg (fun n=>n) hq
          simp only[List.length_append]at hq2
          omega
         rw[attrsL,if_neg hnA,hdA,if_neg hne,h2w.1,hok];simp only[Bool.not_true,Bool.false_eq_true,if_false];rw[h2w.2];simp only;rw[h3w.2];simp only;rw[h3w.1,hmt];simp only;rw[hrc,e1,g5,g7];simp only[Option.map_some];rw[hx]
def yE (x:List UInt8)(l:List (List UInt8 × List UInt8)):Nat→Nat
 | 0=>0
 | k+1=>if x<(l.getD k default).1 then yE x l k else k+1
def Qa (l:List (List UInt8 × List UInt8))(x:List UInt8 × List UInt8):List (List UInt8 × List UInt8):=l.take (yE x.1 l l.length)++x::l.drop (yE x.1 l l.length)
def qr (L:List (List UInt8 × List UInt8)):List (List UInt8 × List UInt8):=L.foldl Qa []
theorem YO (l:List (List UInt8 × List UInt8))(x:List UInt8 × List UInt8):(Qa l x).Perm (x::l):=by
 unfold Qa;refine List.perm_middle.trans ?_;rw[List.take_append_drop]
theorem insF_perm:∀ (L l:List (List UInt8 × List UInt8)),(L.foldl Qa l).Perm (L++l):=by
 intro L
 induction L with
 | nil=>intro l;exact List.Perm.refl _
 | cons x L ih =>
   intro l;refine (ih (Qa l x)).trans ?_;refine ((YO l x).append_left L).trans ?_;rw[List.cons_append];exact List.perm_middle
theorem z8 (L:List (List UInt8 × List UInt8)):(qr L).Perm L:=by
 have:=insF_perm L []
 rwa [List.append_nil]at this
theorem Xa (x:List UInt8)(l:List (List UInt8 × List UInt8)):∀ k,yE x l k≤k:=by
 intro k
 induction k with
 | zero=>exact nR9 _
 | succ k ih=>unfold yE;split<;>omega
theorem Yb (x:List UInt8)(l:List (List UInt8 × List UInt8)):∀ k,(∀ i,yE x l k≤i→i<k→x<(l.getD i default).1)∧(0<yE x l k→¬ x<(l.getD (yE x l k-1) default).1):=by
 intro k
 induction k with
 | zero=>exact ⟨fun i _ h=>absurd h (Nat.not_lt_zero _),fun h=>absurd h (Nat.lt_irrefl _)⟩
 | succ k ih =>
   by_cases h:x<(l.getD k default).1
   · have e : yE x l (k + 1) = yE x l k := by rw[yE, if_pos h]
     rw[e];refine ⟨fun i h1 h2=>?_,ih.2⟩
     by_cases hi:i=k
     · rw[hi];exact h
     · exact ih.1 i h1 (by omega)
   · have e : yE x l (k + 1) = k + 1 := by rw[yE, if_neg h]
     rw[e];exact ⟨fun i h1 h2=>by omega,fun _=>by simpa using h⟩
theorem Yx {l:List (List UInt8 × List UInt8)}{i:Nat}(h:i<l.length):l.getD i default=l[i]:=by
 rw[List.getD_eq_getElem?_getD,List.getElem?_eq_getElem h];rfl
theorem Zt {l:List (List UInt8 × List UInt8)}(h:l.Pairwise fun a b=>a.1≤b.1)(x:List UInt8 × List UInt8):(Qa l x).Pairwise fun a b=>a.1≤b.1:=by
 obtain ⟨f1,f2⟩:=Yb x.1 l l.length;have hle:=Xa x.1 l l.length;unfold Qa
 generalize yE x.1 l l.length=k at *
 rw[List.pairwise_append,List.pairwise_cons]
 have hd:∀ b∈l.drop k,x.1≤b.1:=by
  intro b hb;obtain ⟨i,hi,rfl⟩:=List.getElem_of_mem hb;rw[List.getElem_drop];rw[List.length_drop]at hi
  have:=f1 (k+i) (by omega) (by omega)
  rw[Yx (by omega)]at this
  exact List.le_of_lt this
 have ht:∀ a∈l.take k,a.1≤x.1:=by
  intro a ha;obtain ⟨i,hi,rfl⟩:=List.getElem_of_mem ha;rw[List.getElem_take];rw[List.length_take]at hi
  have h0:0<k:=by omega
  have:=f2 h0;rw[Yx (by omega)]at this
  have h3:l[k-1].1≤x.1:=List.not_lt.1 this
  by_cases hik:i=k-1
  · subst hik;exact h3
  · exact List.le_trans (List.pairwise_iff_getElem.1 h i (k-1) (by omega) (by omega) (by omega)) h3
 refine ⟨h.sublist (List.take_sublist _ _),⟨hd,h.sublist (List.drop_sublist _ _)⟩,?_⟩;intro a ha b hb;rw[List.mem_cons]at hb
 rcases hb with rfl|hb
 · exact ht a ha
 · exact List.le_trans (ht a ha) (hd b hb)
theorem insF_sorted:∀ (L l:List (List UInt8 × List UInt8)),(l.Pairwise fun a b=>a.1≤b.1)→(L.foldl Qa l).Pairwise fun a b=>a.1≤b.1:=by
 intro L
 induction L with
 | nil=>intro l h;exact h
 | cons x L ih=>intro l h;exact ih _ (Zt h x)
theorem Zs (L:List (List UInt8 × List UInt8)):(qr L).Pairwise fun a b=>a.1≤b.1:=insF_sorted L [] List.Pairwise.nil
theorem ZF {A B:List (List UInt8 × List UInt8)}(hA:A.Pairwise fun x y=>x.1<y.1)(hB:B.Pairwise fun x y=>x.1≤y.1)(hp:B.Perm A):B=A:=by
 refine List.Perm.eq_of_pairwise (le:=fun x y=>x.1≤y.1) ?_ hB (hA.imp fun h=>List.le_of_lt h) hp
 intro a b ha hb h1 h2;exact ZA hA a (hp.mem_iff.1 ha) b hb (List.le_antisymm h1 h2)
theorem Qn (l:List (List UInt8 × List UInt8)):(asB l).map zU=l:=by
 unfold asB;rw[List.map_map];exact List.map_id'' (fun x=>by simp[zU,qa]) l
theorem xW {L:List (List UInt8 × List UInt8)}(h:qD (asB (sortA L))=true∨qD (asB (qr L))=true):sortA L=qr L:=by
 rcases h with h|h
 · have := jp h;rw[Qn]at this
   exact (ZF this (Zs L) ((z8 L).trans (zx L).symm)).symm
 · have := jp h;rw[Qn]at this
   exact ZF this (jO L) ((zx L).trans (z8 L).symm)
def jS (u:List UInt8):List UInt8:=(u.reverse.dropWhile qe).reverse
def q5 (T k:Tr):Tr:={ T with kids:=T.kids++[k] }
def yU (T:Tr)(l:List Tr):Tr:={ T with kids:=T.kids++l }
def q6 (m:List UInt8):Option (List UInt8 × List (List UInt8 × List UInt8) × Bool) :=
 if !qo ((if decide (m.getLast?=some 47) then m.dropLast else m).takeWhile qd) then none else
 match attrsL ((if decide (m.getLast?=some 47) then m.dropLast else m).length+1) ((if decide (m.getLast?=some 47) then m.dropLast else m).dropWhile qd) with
 | none=>none
 | some L=>some ((if decide (m.getLast?=some 47) then m.dropLast else m).takeWhile qd,L,decide (m.getLast?=some 47))
def yv (st:List Tr)(u:List UInt8):Option (List Tr):=match st with
 | T::T2::st=>if qa (jS u)=T.s then some (q5 T2 T::st) else none
 | _=>none
def zp (st:List Tr)(m:List UInt8):Option (List Tr):=match q6 m with
 | none=>none
 | some (nm, L, e) => if 8 < st.length then none else match st with
   | []=>none
   | T::st=>if e then some (q5 T ⟨false,qa nm,asB (qr L),[]⟩::st) else some (⟨false,qa nm,asB (qr L),[]⟩::T::st)
def ze (st:List Tr)(p:List UInt8):Option (List Tr):=match qI false (p.length+1) p with
 | none=>none
 | some v => match st with
   | []=>none
   | T::st=>some (q5 T ⟨true,qa v,[],[]⟩::st)
def qO (st:List Tr)(m:List UInt8):Option (List Tr):=match m with
 | []=>zp st []
 | c::u=>if c=47 then yv st u else zp st (c::u)
def runD:Nat→List Tr→List UInt8→Option (List Tr)
 | 0,_,_=>none
 | _+1,st,[]=>some st
 | f + 1, st, c :: t =>
   if c=60 then match t.dropWhile qS with
    | []=>none
    | _ :: r => match qO st (t.takeWhile qS) with
      | none=>none
      | some st'=>runD f st' r
   else match ze st ((c::t).takeWhile qW) with
    | none=>none
    | some st'=>runD f st' ((c::t).dropWhile qW)
theorem qz (p:UInt8→Bool)(l:List UInt8):(l.dropWhile p).length≤l.length:=(List.dropWhile_suffix p).length_le
theorem run_fuel:∀ (f g:Nat)(st:List Tr)(s:List UInt8),s.length<f→s.length<g→runD f st s=runD g st s:=by
 intro f
 induction f with
 | zero=>intro g st s h;omega
 | succ f ih =>
   intro g st s h hg;cases g with
   | zero=>omega
   | succ g =>
     cases s with
     | nil=>rfl
     | cons c t =>
       simp only[List.length_cons]at h hg
       rw[runD,runD]
       by_cases hc:c=60
       · rw[if_pos hc, if_pos hc];cases hd:t.dropWhile qS with
         | nil=>rfl
         | cons x r =>
           have hl:=qz qS t;rw[hd,List.length_cons]at hl
           simp only;cases qO st (t.takeWhile qS) with
           | none=>rfl
           | some st'=>exact ih g st' r (by omega) (by omega)
       · rw[if_neg hc, if_neg hc]
         have hl:((c::t).dropWhile qW).length≤t.length:=by
          rw[List.dropWhile_cons,if_pos (by simp[qW,hc])]
          exact qz _ _
         cases ze st ((c::t).takeWhile qW) with
         | none=>rfl
         | some st'=>exact ih g st' _ (by omega) (by omega)
def run (st:List Tr)(s:List UInt8):Option (List Tr):=runD (s.length+1) st s
theorem Yz (st:List Tr):run st []=some st:=rfl
theorem jM (st:List Tr)(m r:List UInt8)(hm:m.all qS=true):run st (60::(m++62::r))=match qO st m with
 | none=>none
 | some st'=>run st' r:=by
 have h:=qm (p:=qS) (l:=m) (c:=62) (x:=r) hm (by decide)
 unfold run;rw[runD,if_pos rfl,h.1,h.2];simp only;cases qO st m with
 | none=>rfl
 | some st'=>exact run_fuel _ _ _ _ (by simp[List.length_append];omega) (Nat.lt_succ_self _)
theorem JL (st:List Tr)(t:List UInt8)(h:t.dropWhile qS=[]):run st (60::t)=none:=by
 unfold run;rw[runD,if_pos rfl,h]
theorem QF {p:UInt8→Bool}:∀ {l:List UInt8},l.all p=true→l.takeWhile p=l∧l.dropWhile p=[]:=by
 intro l
 induction l with
 | nil=>intro _;exact ⟨rfl,rfl⟩
 | cons c l ih =>
   intro h;rw[List.all_cons,Bool.and_eq_true]at h
   rw[List.takeWhile_cons,List.dropWhile_cons,if_pos h.1,if_pos h.1,(ih h.2).1,(ih h.2).2];exact ⟨rfl,rfl⟩
theorem ZH (st:List Tr)(p y:List UInt8)(hp:p.all qW=true)(hne:p≠[])(hy:y=[]∨∃ y',y=60::y'):run st (p++y)=match ze st p with
 | none=>none
 | some st'=>run st' y:=by
 have ht:(p++y).takeWhile qW=p∧(p++y).dropWhile qW=y:=by
  rcases hy with rfl|⟨y',rfl⟩
  · rw[List.append_nil];exact QF hp
  · exact qm hp (by decide)
 cases p with
 | nil=>exact absurd rfl hne
 | cons c t =>
   have hc:c≠60:=by
    rw[List.all_cons,Bool.and_eq_true]at hp
    simpa[qW] using hp.1
   unfold run;rw[List.cons_append]at ht ⊢
   rw[runD,if_neg hc,ht.1,ht.2];cases ze st (c::t) with
   | none=>rfl
   | some st'=>exact run_fuel _ _ _ _ (by simp[List.length_append];omega) (Nat.lt_succ_self _)
theorem Yr (u:List UInt8):∃ sp,u=jS u++sp∧sp.all qe=true:=by
 refine ⟨(u.reverse.takeWhile qe).reverse,?_,?_⟩
 · unfold jS;rw[←List.reverse_append,List.takeWhile_append_dropWhile,List.reverse_reverse]
 · rw[List.all_reverse];exact List.all_takeWhile
theorem Xk {nm sp:List UInt8}(hn:nm.all qd=true)(hs:sp.all qe=true):jS (nm++sp)=nm:=by
 unfold jS;rw[List.reverse_append,yz _ (by rw[List.all_reverse];exact hs)]
 cases hr:nm.reverse with
 | nil=>simp at hr;subst hr;rfl
 | cons c l =>
   have hc:qd c=true:=by
    have:(nm.reverse).all qd=true:=by rw[List.all_reverse];exact hn
    rw[hr,List.all_cons,Bool.and_eq_true]at this
    exact this.1
   rw[List.dropWhile_cons,zi hc,←hr];simp
theorem Zi {a b:List UInt8}(h:qa a=qa b):a=b:=by
 unfold qa at h
 injection h with h
 simpa using h
theorem QT {l:List UInt8}(h:qK (qa l)=true):qo l=true:=by
 simp only[qK,Bool.and_eq_true,decide_eq_true_eq,qc]at h
 obtain ⟨⟨h1,h2⟩,h3⟩:=h;have h0:l≠[]:=by intro e;subst e;simp at h1
 have h3':l.all qd=true:=by simpa[qa] using h3
 simp only[qo,Bool.and_eq_true,decide_eq_true_eq];exact ⟨⟨h0,h2⟩,h3'⟩
theorem Jo {L:List (List UInt8 × List UInt8)}(h:qD (asB L)=true):∀ a∈L,qo a.1=true∧a.2.all sign=true:=by
 intro a ha;obtain ⟨i,hi,rfl⟩:=List.getElem_of_mem ha;simp only[qD,Bool.and_eq_true,decide_eq_true_eq,List.all_eq_true]at h
 have hk:=h.2 i (by simpa[yH] using hi)
 unfold okA at hk
 have he:(asB L)[i]?=some (qa L[i].1,qa L[i].2):=by simp[asB,hi]
 rw[he]at hk
 simp only[Bool.and_eq_true]at hk
 refine ⟨QT hk.1.1,?_⟩;have:=hk.1.2;simp only[qA,Bool.and_eq_true]at this
 simpa[qa] using this.2
theorem Jp {nm m0 sp:List UInt8}{L:List (List UInt8 × List UInt8)}(hn:qo nm=true)(hsp:sp.all qe=true)(hl:m0=[]∨∃ u,m0=u++[34])(hh:∀ c r,m0=c::r→qd c=false)
 (ha:∀ f,(m0++sp).length<f→attrsL f (m0++sp)=some L):q6 (nm++(m0++sp))=some (nm,L,false)∧q6 (nm++(m0++sp)++[47])=some (nm,L,true):=by
 have hall:nm.all qd=true:=by
  simp only[qo,Bool.and_eq_true]at hn;exact hn.2
 have hne:nm≠[]:=by
  simp only[qo,Bool.and_eq_true,decide_eq_true_eq]at hn;exact hn.1.1
 have htw:(nm++(m0++sp)).takeWhile qd=nm∧(nm++(m0++sp)).dropWhile qd=m0++sp:=by
  cases hx:m0++sp with
  | nil =>
    rw[List.append_nil];exact QF hall
  | cons c r =>
    refine qm hall ?_;cases m0 with
    | nil =>
      rw[List.nil_append]at hx
      rw[hx,List.all_cons,Bool.and_eq_true]at hsp
      cases hlc:qd c with
      | false=>rfl
      | true=>rw[zi hlc]at hsp;exact absurd hsp.1 (by decide)
    | cons d m1 =>
      rw[List.cons_append]at hx
      injection hx with hx _
      subst hx;exact hh _ _ rfl
 have hlast:(nm++(m0++sp)).getLast?≠some 47:=by
  rw[List.getLast?_append,List.getLast?_append];intro h;cases hs:sp.getLast? with
  | some c =>
    rw[hs]at h
    simp at h
    subst h;have:=List.all_eq_true.1 hsp 47 (List.mem_of_getLast? hs);exact absurd this (by decide)
  | none =>
    rw[hs]at h
    rcases hl with rfl|⟨u,rfl⟩
    · simp at h
      have:=List.all_eq_true.1 hall 47 (List.mem_of_getLast? h);exact absurd this (by decide)
    · simp at h
 constructor
 · unfold q6;rw[decide_eq_false hlast];simp only[Bool.false_eq_true,if_false];rw[htw.1,htw.2,hn,ha _ (by simp only[List.length_append];omega)]
   simp
 · unfold q6;have h47:(nm++(m0++sp)++[47]).getLast?=some 47:=by simp
   simp only[h47,decide_true,if_true];rw[List.dropLast_concat,htw.1,htw.2,hn,ha _ (by simp only[List.length_append];omega)]
   simp
def Gd:Nat→List Tr→Prop
 | 0,l=>l=[]
 | d+1,l=>∀ t∈l,qn t=true∧Gd d t.kids
theorem YX {r:Rs}{z:List UInt8}(h:r=⟨z,false⟩):r.wrong=false:=by rw[h]
theorem Q3 {r:Rs}(h:r.wrong=false):r=⟨r.rest,false⟩:=by
 cases r with
 | mk a b=>simp only at h;rw[h]
theorem Zp {rec:Rs→List Tr × Rs}(hrec:∀ r,(rec r).2.le r){t:List UInt8}{e:Tr}{y:List UInt8}(h:(⟨60::t,false⟩:Rs).elem rec=(e,⟨y,false⟩))(hg:qn e=true) :
    ∃ nm L b ks, e = ⟨false, qa nm, asB (qr L), ks⟩ ∧ b.all qS = true ∧ nm.all qd = true ∧ (∃ c r, b = c :: r ∧ qd c = true) ∧
      ((ks = [] ∧ t = b ++ 47 :: 62 :: y ∧ q6 (b ++ [47]) = some (nm, L, true)) ∨
       (∃ u sp,t=b++62::u∧q6 b=some (nm,L,false)∧rec ⟨u,false⟩=(ks,⟨60::47::(nm++(sp++62::y)),false⟩)∧sp.all qe=true)):=by
  have hm:(⟨60::t,false⟩:Rs).must [60]=⟨t,false⟩:=qZ [60] t;unfold Rs.elem at h
  rw[hm]at h
  obtain ⟨nm,x,ht,htk,hdr,hnm⟩:=zt (p:=qd) (l:=t);have hno:(⟨t,false⟩:Rs).nameOf=nm:=htk;have hna:(⟨t,false⟩:Rs).name=⟨x,false⟩:=by unfold Rs.name;rw[hdr]
  rw[hno,hna]at h
  have hx0:∀ c r,x=c::r→qd c=false:=by
    intro c r hx;have:=List.head?_dropWhile_not qd t;rw[hdr,hx]at this
    simpa using this
  generalize hat:(⟨x,false⟩:Rs).attrs=q at h
  obtain ⟨L,r1⟩:=q;simp only at h
  -- nothing went wrong
  have hw:r1.wrong=false∧∃ ks,e=⟨false,qa nm,asB (sortA L),ks⟩∧((ks=[]∧r1.skip.rest=47::62::y)∨(∃ u sp,r1.skip.rest=62::u∧rec ⟨u,false⟩=(ks,⟨60::47::(nm++(sp++62::y)),false⟩)∧sp.all qe=true)):=by
    unfold Rs.elemIn at h
    by_cases ha:r1.skip.ahead [47,62]=true
    · rw[if_pos ha]at h
      injection h with h1 h2
      have hwr:r1.skip.wrong=false:=j4 ha;refine ⟨hwr,[],h1.symm,Or.inl ⟨rfl,?_⟩⟩;unfold Rs.take at h2
      rw[if_pos ha]at h2
      injection h2 with h2 _
      unfold Rs.ahead at ha
      rw[Bool.and_eq_true]at ha
      obtain ⟨v,hv⟩:=List.isPrefixOf_iff_prefix.1 ha.2;rw[←hv]at h2
      rw[←hv];simp at h2
      rw[h2];rfl
    · rw[if_neg ha]at h
      injection h with h1 h2
      have e4:=YX h2;obtain ⟨e3,f4⟩:=yD e4;have e3':((((rec (r1.skip.must [62])).2.must [60,47]).must nm)).wrong=false:=e3;obtain ⟨e2,f3⟩:=yD e3';obtain ⟨e1,f2⟩:=yD e2
      have e0:(r1.skip.must [62]).wrong=false:=by
        cases hq:(r1.skip.must [62]).wrong with
        | false=>rfl
        | true=>have:=(hrec (r1.skip.must [62])).2 hq;rw[this]at e1;cases e1
      obtain ⟨e00,f1⟩:=yD e0;refine ⟨e00,_,h1.symm,Or.inr ⟨(r1.skip.must [62]).rest,((((rec (r1.skip.must [62])).2.must [60,47]).must nm)).rest.takeWhile qe,f1,?_,List.all_takeWhile⟩⟩;rw[←Q3 e0];refine Prod.ext rfl ?_
      have hsk:(((rec (r1.skip.must [62])).2.must [60,47]).must nm).rest.dropWhile qe=62::y:=by
        have:(((rec (r1.skip.must [62])).2.must [60,47]).must nm).skip.rest=[62]++((((rec (r1.skip.must [62])).2.must [60,47]).must nm).skip.must [62]).rest:=f4;rw[h2]at this
        exact this
      show (rec (r1.skip.must [62])).2=_
      rw[←hsk,List.takeWhile_append_dropWhile];have f5:(rec (r1.skip.must [62])).2.rest=60::47::(nm++(((rec (r1.skip.must [62])).2.must [60,47]).must nm).rest):=by rw[←f3];exact f2
      rw[←f5];exact Q3 e1
  obtain ⟨hw1,ks,he,hcase⟩:=hw
  have hright:qK (qa nm)=true∧qD (asB (sortA L))=true:=by
    rw[he]at hg
    simp only[qn,Bool.false_eq_true,if_false,Bool.and_eq_true]at hg
    exact hg
  have hok:=QT hright.1;have hLok:∀ a∈L,qo a.1=true∧a.2.all sign=true:=fun a ha=>Jo hright.2 a ((zx L).mem_iff.2 ha)
  rw[Q3 hw1]at hat
  obtain ⟨m0,hm0,hgt,hlast,hatt⟩:=attrs_complete _ x L r1.rest (Nat.lt_succ_self _) hat hLok;obtain ⟨sp1,z2,hz,_,hdz,hsp1⟩:=zt (p:=qe) (l:=r1.rest);have hsk:r1.skip.rest=z2:=hdz;have hb:=Jp hok hsp1 hlast (fun c r hc=>hx0 c (r++r1.rest) (by rw[hm0,hc];rfl)) (fun f hf=>hatt sp1 f hsp1 hf)
  have hins:sortA L=qr L:=xW (Or.inl hright.2);refine ⟨nm,L,nm++(m0++sp1),ks,by rw[he,hins],?_,hnm,?_,?_⟩
  · rw[List.all_append,List.all_append,yx jV hnm,hgt,yx xX hsp1];rfl
  · cases nm with
    | nil=>simp[qo]at hok
    | cons c r =>
      rw[List.all_cons,Bool.and_eq_true]at hnm
      exact ⟨c,_,rfl,hnm.1⟩
  · rw[hsk]at hcase
    rcases hcase with ⟨hk,hz2⟩|⟨u,sp,hz2,hr,hsp⟩
    · refine Or.inl ⟨hk, ?_, hb.2⟩;rw[ht,hm0,hz,hz2];simp[List.append_assoc]
    · refine Or.inr ⟨u, sp, ?_, hb.1, hr, hsp⟩;rw[ht,hm0,hz,hz2];simp[List.append_assoc]
theorem je (T:Tr):yU T []=T:=by cases T;simp[yU]
theorem yG (T k:Tr)(l:List Tr):yU (q5 T k) l=yU T (k::l):=by
 unfold yU q5;simp[List.append_assoc]
theorem Yl {y:List UInt8}(h:(⟨y,false⟩:Rs).goesOn textEnds=false):y=[]∨(∃ y',y=60::y')∨(∃ y',y=62::y'):=by
 cases y with
 | nil=>exact Or.inl rfl
 | cons c y' =>
   have:=zg false c y';rw[show qj false=textEnds from rfl,h]at this
   have h2:(decide (c=60)||decide (c=62))=true:=by
    cases hq:(decide (c=60)||decide (c=62)) with
    | true=>rfl
    | false=>rw[hq]at this;simp at this
   simp only[Bool.or_eq_true,decide_eq_true_eq]at h2
   rcases h2 with rfl|rfl
   · exact Or.inr (Or.inl ⟨y',rfl⟩)
   · exact Or.inr (Or.inr ⟨y',rfl⟩)
theorem run_complete:∀ (f n:Nat)(s:List UInt8)(ts:List Tr)(z:List UInt8),s.length<n→treesF f ⟨s,false⟩=(ts,⟨z,false⟩)→(z=[]∨∃ z',z=60::47::z') →
 ∀ d,Gd d ts→∀ (T:Tr) (st:List Tr),st.length+d≤8→run (T::st) s=run (yU T ts::st) z:=by
 intro f
 induction f with
 | zero =>
   intro n s ts z _ h _ d _ T st _;unfold treesF at h
   injection h with h1 h2
   injection h2 with h2 _
   subst h1 h2;rw[je]
 | succ f ihf =>
   intro n
   induction n with
   | zero=>intro s ts z h;omega
   | succ n ih =>
     intro s ts z hn h hz d hd T st hst;cases hta:(⟨s,false⟩:Rs).treeAhead with
     | false =>
       rw[q4 hta]at h
       injection h with h1 h2
       injection h2 with h2 _
       subst h1 h2;rw[je]
     | true =>
       rw[zk hta]at h
       injection h with h1 h2
       generalize ho:(⟨s,false⟩:Rs).one (treesF f)=o at h1 h2
       obtain ⟨e,r1⟩:=o;simp only at h1 h2
       have hw1:r1.wrong=false:=by
        cases hq:r1.wrong with
        | false=>rfl
        | true=>have:=(treesF_le (f+1) r1).2 hq;rw[h2]at this;cases this
       have hless:=xM (treesF_le f) ⟨s,false⟩ hta;rw[ho]at hless
       have hlen:r1.rest.length<s.length:=by
        unfold Rs.left at hless
        rw[hw1]at hless
        simp at hless
        exact hless
       rw[Q3 hw1]at h2 ho h1
       cases d with
       | zero=>rw[←h1]at hd;cases hd
       | succ d =>
         have hge:qn e=true∧Gd d e.kids:=hd e (by rw[←h1];exact List.mem_cons_self)
         have hgr:Gd (d+1) (treesF (f+1) ⟨r1.rest,false⟩).1:=fun t ht=>hd t (by rw[←h1];exact List.mem_cons_of_mem _ ht)
         have hnext:=ih r1.rest _ z (by omega) (Prod.ext rfl h2:treesF (f+1) ⟨r1.rest,false⟩=((treesF (f+1) ⟨r1.rest,false⟩).1,⟨z,false⟩)) hz (d+1) hgr (q5 T e) st hst
         rw[←h1,←yG,←hnext];unfold Rs.one at ho
         by_cases ha:(⟨s,false⟩:Rs).ahead [60]=true
         · rw[if_pos ha]at ho
           obtain ⟨t,hs⟩:∃ t,s=60::t:=by
            unfold Rs.ahead at ha
            rw[Bool.and_eq_true]at ha
            obtain ⟨v,hv⟩:=List.isPrefixOf_iff_prefix.1 ha.2;exact ⟨v,hv.symm⟩
           subst hs;obtain ⟨nm,L,b,ks,he,hb,hnm,⟨c,br,hbc,hlc⟩,hcase⟩:=Zp (treesF_le f) ho hge.1;have hc47:c≠47:=by intro e;subst e;cases hlc
           rcases hcase with ⟨hk,ht,hbeg⟩|⟨u,sp,ht,hbeg,hrec,hsp⟩
           · have e1 : (60 :: t : List UInt8) = 60 :: ((b ++ [47]) ++ 62 :: r1.rest) := by rw[ht];simp
             rw[e1,jM _ _ _ (by rw[List.all_append,hb];rfl)]
             have hmk:qO (T::st) (b++[47])=some (q5 T e::st):=by
              have:qO (T::st) (b++[47])=zp (T::st) (b++[47]):=by
               rw[hbc,List.cons_append,qO,if_neg hc47]
              rw[this,zp,hbeg];simp only;rw[if_neg (by simp only[List.length_cons];omega),if_pos trivial,he,hk]
             rw[hmk]
           · rw[ht, jM _ _ _ hb]
             have hmk:qO (T::st) b=some (⟨false,qa nm,asB (qr L),[]⟩::T::st):=by
              have:qO (T::st) b=zp (T::st) b:=by
               rw[hbc,qO,if_neg hc47]
              rw[this,zp,hbeg];simp only;rw[if_neg (by simp only[List.length_cons];omega)]
              rfl
             rw[hmk];simp only;have hkids:e.kids=ks:=by rw[he]
             rw[hkids]at hge
             rw[ihf _ u ks _ (Nat.lt_succ_self _) hrec (Or.inr ⟨_,rfl⟩) d hge.2 _ (T::st) (by simp only[List.length_cons];omega)]
             have e2:(60::47::(nm++(sp++62::r1.rest)):List UInt8)=60::((47::(nm++sp))++62::r1.rest):=by simp
             rw[e2,jM _ _ _ (by rw[List.all_cons,List.all_append,yx jV hnm,yx xX hsp];rfl)]
             have hcl:qO (yU ⟨false,qa nm,asB (qr L),[]⟩ ks::T::st) (47::(nm++sp))=some (q5 T e::st):=by
              rw[qO,if_pos rfl,yv,Xk hnm hsp];refine (if_pos rfl).trans ?_;rw[he];rfl
             rw[hcl]
         · rw[if_neg ha]at ho
           injection ho with h3 h4
           have ha':(⟨s,false⟩:Rs).ahead [60]=false:=by simpa using ha
           have htx:(⟨s,false⟩:Rs).text (qj false)=(((⟨s,false⟩:Rs).text textEnds).1,⟨r1.rest,false⟩):=Prod.ext rfl h4;obtain ⟨p,hp,hpt,hstop⟩:=ZM false _ s _ r1.rest (Nat.lt_succ_self _) htx;have hlt:=Xy false p _ hpt;have hpne:p≠[]:=by intro e;rw[e,List.nil_append]at hp;rw[hp]at hlen;exact Nat.lt_irrefl _ hlen
           have hy:r1.rest=[]∨∃ y',r1.rest=60::y':=by
            rcases Yl hstop with h|h|⟨y',h⟩
            · exact Or.inl h
            · exact Or.inr h
            · exfalso
              have hno:(⟨r1.rest,false⟩:Rs).treeAhead=false:=by
               rw[h];simp[Rs.treeAhead,Rs.ahead,List.isPrefixOf]
              rw[q4 hno]at h2
              simp only at h2
              injection h2 with h2 _
              rw[h]at h2
              rcases hz with hz|⟨z',hz⟩
              · rw[hz]at h2;cases h2
              · rw[hz]at h2;cases h2
           have hpl:((⟨s,false⟩:Rs).text textEnds).1.all sign=true:=by
            have hr:=hge.1;rw[←h3]at hr
            simp only[qn,if_true,Bool.and_eq_true,qA]at hr
            simpa[qa] using hr.1.1.2.2
           have hmt:=(yo false (p.length+1) p _ (Nat.lt_succ_self _)).2 ⟨hpt,hpl⟩;rw[hp,ZH _ p r1.rest hlt hpne hy]
           have htd:ze (T::st) p=some (q5 T e::st):=by
            rw[ze,hmt];simp only;rw[←h3]
           rw[htd]
def GA:Nat→List Tr→Prop
 | 0,l=>l=[]
 | n+1,l=>∀ t∈l,qD t.attrs=true∧GA n t.kids
def AGf (T:Tr):Prop:=qD T.attrs=true∧∃ n,GA n T.kids
theorem JZ {n:Nat}{l:List Tr}{k:Tr}(h:GA n (l++[k])):(∃ m,GA m l)∧AGf k:=by
 cases n with
 | zero =>
   have:l++[k]=[]:=h;simp at this
 | succ n =>
   have h':∀ t∈l++[k],qD t.attrs=true∧GA n t.kids:=h;refine ⟨⟨n+1,fun t ht=>h' t (List.mem_append_left _ ht)⟩,?_⟩
   have:=h' k (by simp)
   exact ⟨this.1,n,this.2⟩
theorem xi {T k:Tr}(h:AGf (q5 T k)):AGf T∧AGf k:=by
 obtain ⟨h1,n,h2⟩:=h;obtain ⟨h3,h4⟩:=JZ h2;exact ⟨⟨h1,h3⟩,h4⟩
theorem Yp {st st':List Tr}{p:List UInt8}(h:ze st p=some st')(hg:∀ T∈st',AGf T):∀ T∈st,AGf T:=by
 unfold ze at h
 split at h
 · cases h
 · split at h
   · cases h
   · injection h with h
     subst h;intro T hT;rw[List.mem_cons]at hT
     rcases hT with rfl|hT
     · exact (xi (hg _ List.mem_cons_self)).1
     · exact hg T (List.mem_cons_of_mem _ hT)
theorem YT {st st':List Tr}{m:List UInt8}(h:qO st m=some st')(hg:∀ T∈st',AGf T):∀ T∈st,AGf T:=by
 have ho:∀ m,zp st m=some st'→∀ T∈st,AGf T:=by
  intro m h;unfold zp at h
  split at h
  · cases h
  · split at h
    · cases h
    · split at h
      · cases h
      · split at h
        · injection h with h
          subst h;intro T hT;rw[List.mem_cons]at hT
          rcases hT with rfl|hT
          · exact (xi (hg _ List.mem_cons_self)).1
          · exact hg T (List.mem_cons_of_mem _ hT)
        · injection h with h
          subst h;exact fun T hT=>hg T (List.mem_cons_of_mem _ hT)
 unfold qO at h
 split at h
 · exact ho _ h
 · split at h
   · unfold yv at h
     split at h
     · split at h
       · injection h with h
         subst h;intro T hT;rw[List.mem_cons,List.mem_cons]at hT
         have:=xi (hg _ List.mem_cons_self)
         rcases hT with rfl|rfl|hT
         · exact this.2
         · exact this.1
         · exact hg T (List.mem_cons_of_mem _ hT)
       · cases h
     · cases h
   · exact ho _ h
theorem runD_back:∀ (f:Nat)(st st':List Tr)(s:List UInt8),runD f st s=some st'→(∀ T∈st',AGf T)→∀ T∈st,AGf T:=by
 intro f
 induction f with
 | zero=>intro st st' s h;cases h
 | succ f ih =>
   intro st st' s h hg;cases s with
   | nil=>rw[runD]at h;injection h with h;subst h;exact hg
   | cons c t =>
     rw[runD]at h
     by_cases hc:c=60
     · rw[if_pos hc]at h
       split at h
       · cases h
       · cases hm : qO st (t.takeWhile qS) with
         | none=>rw[hm]at h;cases h
         | some s1 =>
           rw[hm]at h
           exact YT hm (ih _ _ _ h hg)
     · rw[if_neg hc]at h
       cases hm:ze st ((c::t).takeWhile qW) with
       | none=>rw[hm]at h;cases h
       | some s1 =>
         rw[hm]at h
         exact Yp hm (ih _ _ _ h hg)
theorem Zg {m nm:List UInt8}{L:List (List UInt8 × List UInt8)}{e:Bool}(h:q6 m=some (nm,L,e)):qo nm=true∧nm.all qd=true∧∃ x,m=nm++(x++(if e then [47] else []))∧(∀ c r,x=c::r→qd c=false) ∧
 ∀ y,yC y=true→∃ sp,sp.all qe=true∧(⟨x++y,false⟩:Rs).attrs=(L,⟨sp++y,false⟩):=by
 unfold q6 at h
 generalize hb:(if decide (m.getLast?=some 47)=true then m.dropLast else m)=b at h
 split at h
 · cases h
 · rename_i hok
   obtain ⟨nm',x,hbx,htk,hdr,hnm⟩:=zt (p:=qd) (l:=b);rw[htk,hdr]at h
   rw[htk]at hok
   cases hat:attrsL (b.length+1) x with
   | none=>rw[hat]at h;cases h
   | some L' =>
     rw[hat]at h
     injection h with h
     injection h with h1 h
     injection h with h2 h3
     subst h1 h2;refine ⟨by simpa using hok,hnm,x,?_,?_,fun y hy=>Zc y hy _ _ _ hat⟩
     · rw[←List.append_assoc, ←hbx, ←h3, ←hb]
       by_cases hl:m.getLast?=some 47
       · simp only[hl, decide_true, if_true];obtain ⟨u,hu⟩:=List.getLast?_eq_some_iff.1 hl;rw[hu,List.dropLast_concat]
       · simp[hl]
     · intro c r hx;have:=List.head?_dropWhile_not qd b;rw[hdr,hx]at this
       simpa using this
theorem Yw {rec:Rs→List Tr × Rs}{nm x y:List UInt8}{L:List (List UInt8 × List UInt8)}(hnm:nm.all qd=true)(hx:∀ c r,x=c::r→qd c=false)(hy:yC y=true)
 (hat:∃ sp,sp.all qe=true∧(⟨x++y,false⟩:Rs).attrs=(L,⟨sp++y,false⟩)):(⟨60::(nm++(x++y)),false⟩:Rs).elem rec=Rs.elemIn rec nm L ⟨y,false⟩:=by
 have hm:(⟨60::(nm++(x++y)),false⟩:Rs).must [60]=⟨nm++(x++y),false⟩:=qZ [60] _;obtain ⟨sp,hsp,hat⟩:=hat
 have htw:(nm++(x++y)).takeWhile qd=nm∧(nm++(x++y)).dropWhile qd=x++y:=by
  cases x with
  | nil =>
    cases y with
    | nil=>cases hy
    | cons c r=>exact qm hnm ((jf hy).2 c r rfl)
  | cons c r=>exact qm hnm (hx c r rfl)
 unfold Rs.elem;rw[hm];unfold Rs.nameOf Rs.name;simp only;rw[htw.1,htw.2,hat];simp only;unfold Rs.skip;simp only;rw[yz y hsp,(jf hy).1]
theorem QI {nm x:List UInt8}(hok:qo nm=true)(hnm:nm.all qd=true):(⟨60::(nm++x),false⟩:Rs).treeAhead=true∧(⟨60::(nm++x),false⟩:Rs).ahead [60]=true:=by
  cases nm with
  | nil=>simp[qo]at hok
  | cons c r =>
    rw[List.all_cons,Bool.and_eq_true]at hnm
    have hc:((47:UInt8)==c)=false:=by
      cases h:((47:UInt8)==c) with
      | false=>rfl
      | true => have : 47 = c := by simpa using h
                subst this;exact absurd hnm.1 (by decide)
    simp[Rs.treeAhead,Rs.ahead,List.isPrefixOf,hc]
theorem run_sound:∀ (n:Nat)(s:List UInt8)(T:Tr)(st:List Tr)(F:Tr),s.length<n→run (T::st) s=some [F]→AGf F→∀ f,s.length<f →
    ∃ ts z, treesF f ⟨s, false⟩ = (ts, ⟨z, false⟩) ∧ ((st = [] ∧ z = [] ∧ F = yU T ts) ∨
      (∃ T2 st' nm sp z',st=T2::st'∧z=60::47::(nm++(sp++62::z'))∧sp.all qe=true∧qa nm=T.s∧run (q5 T2 (yU T ts)::st') z'=some [F])):=by
  intro n
  induction n with
  | zero=>intro s T st F h;omega
  | succ n ih =>
    intro s T st F hn h hF f hf;cases f with
    | zero=>omega
    | succ f =>
    cases s with
    | nil =>
      rw[Yz]at h
      injection h with h
      injection h with h1 h2
      refine ⟨[],[],q4 (by simp[Rs.treeAhead]),Or.inl ⟨h2,rfl,by rw[je,h1]⟩⟩
    | cons c t =>
      simp only[List.length_cons]at hn hf
      by_cases hc:c=60
      · subst hc;obtain ⟨m,q,ht,htk,hdr,hm⟩:=zt (p:=qS) (l:=t)
        match q,hdr,ht with
        | [],hdr,ht=>rw[JL _ _ hdr]at h;cases h
        | g :: r, hdr, ht =>
          have hg:g=62:=by
            have:=List.head?_dropWhile_not qS t;rw[hdr]at this
            simpa[qS] using this
          subst hg;subst ht;simp only[List.length_append,List.length_cons]at hn hf
          rw[jM _ _ _ hm]at h
          cases hmk:qO (T::st) m with
          | none=>rw[hmk]at h;cases h
          | some st1 =>
            rw[hmk]at h
            simp only at h
            have hopen:∀ m',m'=m→zp (T::st) m'=some st1→∃ ts z,treesF (f+1) ⟨60::(m++62::r),false⟩=(ts,⟨z,false⟩)∧((st=[]∧z=[]∧F=yU T ts) ∨
                (∃ T2 st' nm sp z',st=T2::st'∧z=60::47::(nm++(sp++62::z'))∧sp.all qe=true∧qa nm=T.s∧run (q5 T2 (yU T ts)::st') z'=some [F])):=by
              intro m' hm' ho;subst hm';unfold zp at ho
              cases hb:q6 m' with
              | none=>rw[hb]at ho;cases ho
              | some p =>
                obtain ⟨nm,L,e⟩:=p;rw[hb]at ho
                simp only at ho
                split at ho
                · cases ho
                · obtain ⟨hok, hnm, x, hmx, hx0, hatt⟩ := Zg hb;cases e with
                  | true =>
                    simp only[if_true]at ho hmx
                    injection ho with ho
                    subst ho;have hgood:=runD_back _ _ _ _ h (by intro T hT;rw[List.mem_singleton]at hT;rw[hT];exact hF)
                    have hga:qD (asB (qr L))=true:=(xi (hgood _ List.mem_cons_self)).2.1;have hso:sortA L=qr L:=xW (Or.inr hga);have es:(60::(m'++62::r):List UInt8)=60::(nm++(x++(47::62::r))):=by rw[hmx];simp
                    obtain ⟨ts,z,htr,hcase⟩:=ih r _ st F (by omega) h hF (f+1) (by omega)
                    obtain ⟨k1,k2⟩:=QI (x:=x++(47::62::r)) hok hnm
                    have hone:(⟨60::(nm++(x++(47::62::r))),false⟩:Rs).one (treesF f)=(⟨false,qa nm,asB (qr L),[]⟩,⟨r,false⟩):=by
                      unfold Rs.one;rw[if_pos k2,Yw hnm hx0 rfl (hatt _ rfl)];have h1:(⟨47::62::r,false⟩:Rs).ahead [47,62]=true:=by simp[Rs.ahead,List.isPrefixOf]
                      unfold Rs.elemIn Rs.take;rw[if_pos h1,if_pos h1,hso];rfl
                    refine ⟨⟨false,qa nm,asB (qr L),[]⟩::ts,z,?_,?_⟩
                    · rw[es, zk k1, hone];simp only;rw[htr]
                    · rw[←yG];exact hcase
                  | false =>
                    simp only[Bool.false_eq_true,if_false,List.append_nil]at ho hmx
                    injection ho with ho
                    subst ho;have hgood:=runD_back _ _ _ _ h (by intro T hT;rw[List.mem_singleton]at hT;rw[hT];exact hF)
                    have hga:qD (asB (qr L))=true:=(hgood _ List.mem_cons_self).1;have hso:sortA L=qr L:=xW (Or.inr hga);have es:(60::(m'++62::r):List UInt8)=60::(nm++(x++(62::r))):=by rw[hmx];simp
                    obtain ⟨k1,k2⟩:=QI (x:=x++(62::r)) hok hnm;obtain ⟨ks,z1,htk1,hc1⟩:=ih r _ (T::st) F (by omega) h hF f (by omega)
                    rcases hc1 with ⟨hno,_⟩|⟨T2,st',nm2,sp,z2,hst,hz1,hsp,hnm2,hrun⟩
                    · cases hno
                    · injection hst with e1 e2
                      subst e1 e2;have hnn:nm2=nm:=Zi hnm2;subst hnn
                      have hzl:z1.length≤r.length:=by
                        have:=(treesF_le f ⟨r,false⟩).1;rw[htk1]at this
                        exact this
                      have hz2l:z2.length<z1.length:=by rw[hz1];simp;omega
                      obtain ⟨ts,z,htr,hcase⟩:=ih z2 _ st F (by omega) hrun hF (f+1) (by omega)
                      have hone:(⟨60::(nm2++(x++(62::r))),false⟩:Rs).one (treesF f)=(⟨false,qa nm2,asB (qr L),ks⟩,⟨z2,false⟩):=by
                        unfold Rs.one;rw[if_pos k2,Yw hnm hx0 rfl (hatt _ rfl)];have h1:(⟨62::r,false⟩:Rs).ahead [47,62]=false:=by simp[Rs.ahead,List.isPrefixOf]
                        have h2:(⟨62::r,false⟩:Rs).must [62]=⟨r,false⟩:=qZ [62] r;unfold Rs.elemIn;rw[if_neg (by rw[h1];decide),h2,htk1,hz1,hso]
                        simp only;have h3:(⟨60::47::(nm2++(sp++62::z2)),false⟩:Rs).must [60,47]=⟨nm2++(sp++62::z2),false⟩:=qZ [60,47] _;rw[h3,qZ nm2]
                        have h4:(⟨sp++62::z2,false⟩:Rs).skip=⟨62::z2,false⟩:=by
                          unfold Rs.skip;simp only;rw[yz _ hsp];rfl
                        rw[h4];have h5:(⟨62::z2,false⟩:Rs).must [62]=⟨z2,false⟩:=qZ [62] z2;rw[h5]
                      refine ⟨⟨false,qa nm2,asB (qr L),ks⟩::ts,z,?_,?_⟩
                      · rw[es, zk k1, hone];simp only;rw[htr]
                      · rw[←yG];exact hcase
            unfold qO at hmk
            split at hmk
            · exact hopen _ rfl hmk
            · rename_i c u _
              split at hmk
              · rename_i hc47
                subst hc47;unfold yv at hmk
                split at hmk
                · rename_i T' T2 st' hst
                  injection hst with e1 e2
                  subst e1 e2
                  split at hmk
                  · rename_i hnm
                    injection hmk with hmk
                    subst hmk;obtain ⟨sp,hu,hsp⟩:=Yr u;refine ⟨[],_,q4 (by simp[Rs.treeAhead,Rs.ahead,List.isPrefixOf]),Or.inr ⟨T2,st',jS u,sp,r,rfl,?_,hsp,hnm,?_⟩⟩
                    · conv => lhs;rw[hu]
                      simp
                    · rw[je];exact h
                  · cases hmk
                · cases hmk
              · exact hopen _ rfl hmk
      · obtain ⟨p, y, hp, htk, hdr, hlt⟩ := zt (p := qW) (l := c :: t)
        have hpne:p≠[]:=by
          intro e;rw[e,List.takeWhile_cons,if_pos (by simp[qW,hc])]at htk
          cases htk
        have hy:y=[]∨∃ y',y=60::y':=by
          cases y with
          | nil=>exact Or.inl rfl
          | cons g y' =>
            have:=List.head?_dropWhile_not qW (c::t);rw[hdr]at this
            have hg:g=60:=by simpa[qW] using this
            exact Or.inr ⟨y',by rw[hg]⟩
        rw[hp,ZH _ p y hlt hpne hy]at h
        cases htd:ze (T::st) p with
        | none=>rw[htd]at h;cases h
        | some st1 =>
          rw[htd]at h
          simp only at h
          unfold ze at htd
          cases hmt:qI false (p.length+1) p with
          | none=>rw[hmt]at htd;cases htd
          | some v =>
            rw[hmt]at htd
            simp only at htd
            injection htd with htd
            subst htd
            have hyl:y.length<(c::t).length:=by
              rw[hp,List.length_append];have:=List.length_pos_iff.2 hpne;omega
            simp only[List.length_cons]at hyl
            obtain ⟨ts,z,htr,hcase⟩:=ih y _ st F (by omega) h hF (f+1) (by omega)
            obtain ⟨hpt,_⟩:=(yo false _ p v (Nat.lt_succ_self _)).1 hmt
            have hstop:(⟨y,false⟩:Rs).goesOn (qj false)=false:=by
              rcases hy with rfl|⟨y',rfl⟩
              · rfl
              · rw[zg];rfl
            have htx:=ZL false y hstop _ p v (Nat.lt_succ_self _) hpt;rw[←hp]at htx
            have hpg:=Xp false p v hpt
            have hc62:c≠62:=by
              cases p with
              | nil=>exact absurd rfl hpne
              | cons d p' =>
                rw[List.cons_append]at hp
                injection hp with hd _
                subst hd;rw[List.all_cons,Bool.and_eq_true]at hpg
                simpa[qS] using hpg.1
            have n1:((60:UInt8)==c)=false:=by simpa using fun e=>hc e.symm
            have n2:((62:UInt8)==c)=false:=by simpa using fun e=>hc62 e.symm
            have hta:(⟨c::t,false⟩:Rs).treeAhead=true:=by simp[Rs.treeAhead,Rs.ahead,List.isPrefixOf,n1,n2]
            have hone:(⟨c::t,false⟩:Rs).one (treesF f)=(⟨true,qa v,[],[]⟩,⟨y,false⟩):=by
              unfold Rs.one;rw[if_neg (by simp[Rs.ahead,List.isPrefixOf,n1])]
              have:(⟨c::t,false⟩:Rs).text textEnds=(v,⟨y,false⟩):=htx;rw[this]
            refine ⟨⟨true,qa v,[],[]⟩::ts,z,?_,?_⟩
            · rw[zk hta, hone];simp only;rw[htr]
            · rw[←yG];exact hcase
theorem Xs {f:Int→List Tr→Int}:∀ (l:List Tr)(p:Bool)(room:Int),0≤room→0≤rl f p room l→∀ t∈l,qn t=true∧∃ room',0≤room'∧0≤f room' t.kids:=by
 intro l
 induction l with
 | nil=>intro p room _ _ t ht;cases ht
 | cons x r ih =>
   intro p room h0 h t ht;unfold rl at h
   split at h
   · omega
   · rename_i hA
     split at h
     · omega
     · rename_i hB
       have hx:qn x=true:=by
        cases hr:qn x with
        | true=>rfl
        | false=>rw[hr]at hA;simp at hA
       rw[List.mem_cons]at ht
       rcases ht with rfl|ht
       · exact ⟨hx,room,h0,by omega⟩
       · exact ih x.text _ (by omega) h t ht
theorem rb_Gd:∀ (d:Nat)(room:Int)(l:List Tr),0≤room→0≤rb d room l→Gd d l:=by
 intro d
 induction d with
 | zero =>
   intro room l h0 h;unfold rb at h
   split at h
   · rename_i hl;show l=[];simpa using hl
   · omega
 | succ d ih =>
   intro room l h0 h;unfold rb at h
   split at h
   · rename_i hl
     have:l=[]:=by simpa using hl
     subst this;intro t ht;cases ht
   · split at h
     · omega
     · intro t ht;obtain ⟨h1,room',h2,h3⟩:=Xs l false _ (by omega) h t ht
       exact ⟨h1,ih room' t.kids h2 h3⟩
theorem Q2 {t:Tr}(h:qn t=true):qD t.attrs=true:=by
 unfold qn at h
 split at h
 · simp only[Bool.and_eq_true, decide_eq_true_eq]at h
   have:t.attrs=[]:=List.eq_nil_of_length_eq_zero h.1.2;rw[this];rfl
 · rw[Bool.and_eq_true]at h;exact h.2
theorem Gd_GA:∀ (d:Nat)(l:List Tr),Gd d l→GA d l:=by
 intro d
 induction d with
 | zero=>intro l h;exact h
 | succ d ih=>intro l h t ht;exact ⟨Q2 (h t ht).1,ih _ (h t ht).2⟩
def xd (st:List Tr):Option (List (ByteArray × ByteArray)):=st.getLast?.map Tr.attrs
theorem xu (T k:Tr)(st:List Tr):xd (q5 T k::st)=xd (T::st):=by
 cases st<;>rfl
theorem YG (E T:Tr)(st:List Tr):xd (E::T::st)=xd (T::st):=rfl
theorem JQ {st st':List Tr}{p:List UInt8}(h:ze st p=some st'):xd st'=xd st:=by
 unfold ze at h
 split at h
 · cases h
 · split at h
   · cases h
   · injection h with h
     subst h;exact xu _ _ _
theorem JD {st st':List Tr}{m:List UInt8}(h:qO st m=some st'):xd st'=xd st:=by
 have ho:∀ m,zp st m=some st'→xd st'=xd st:=by
  intro m h;unfold zp at h
  split at h
  · cases h
  · split at h
    · cases h
    · split at h
      · cases h
      · split at h
        · injection h with h
          subst h;exact xu _ _ _
        · injection h with h
          subst h;rfl
 unfold qO at h
 split at h
 · exact ho _ h
 · split at h
   · unfold yv at h
     split at h
     · split at h
       · injection h with h
         subst h;rw[xu,YG]
       · cases h
     · cases h
   · exact ho _ h
theorem run_bot:∀ (f:Nat)(st st':List Tr)(s:List UInt8),runD f st s=some st'→xd st'=xd st:=by
 intro f
 induction f with
 | zero=>intro st st' s h;cases h
 | succ f ih =>
   intro st st' s h;cases s with
   | nil=>rw[runD]at h;injection h with h;subst h;rfl
   | cons c t =>
     rw[runD]at h
     by_cases hc:c=60
     · rw[if_pos hc]at h
       split at h
       · cases h
       · cases hm : qO st (t.takeWhile qS) with
         | none=>rw[hm]at h;cases h
         | some s1=>rw[hm]at h;rw[ih _ _ _ h,JD hm]
     · rw[if_neg hc]at h
       cases hm:ze st ((c::t).takeWhile qW) with
       | none=>rw[hm]at h;cases h
       | some s1=>rw[hm]at h;rw[ih _ _ _ h,JQ hm]
def qx (s:List UInt8):Option (List Tr):=match run [zeroT] s with
 | some [F]=>some F.kids
 | _=>none
theorem jB {s:List UInt8}{l:List Tr}(h:qx s=some l)(hl:qy l=true):treesF (s.length+1) ⟨s,false⟩=(l,⟨[],false⟩):=by
 unfold qx at h
 split at h
 · rename_i F hr
   injection h with h
   subst h;have hg:Gd 8 F.kids:=rb_Gd 8 80 _ (by decide) (by simpa[qy] using hl)
   have hb:=run_bot _ _ _ _ hr
   have hfa:F.attrs=[]:=by
    have:some F.attrs=some []:=hb
    injection this
   obtain ⟨ts,z,h1,h2⟩:=run_sound _ s zeroT [] F (Nat.lt_succ_self _) hr ⟨by rw[hfa];rfl,8,Gd_GA _ _ hg⟩ (s.length+1) (Nat.lt_succ_self _)
   rcases h2 with ⟨_,hz,hF⟩|⟨T2,st',_,_,_,hno,_⟩
   · rw[h1,hz,hF];rfl
   · cases hno
 · cases h
theorem yS {s:List UInt8}{l:List Tr}(h:treesF (s.length+1) ⟨s,false⟩=(l,⟨[],false⟩))(hl:qy l=true):qx s=some l:=by
 have hg:Gd 8 l:=rb_Gd 8 80 _ (by decide) (by simpa[qy] using hl)
 have:=run_complete _ _ s l [] (Nat.lt_succ_self _) h (Or.inl rfl) 8 hg zeroT [] (by decide)
 unfold qx;rw[this,Yz];rfl
def yX (s:List UInt8):List Tr × Int :=
 if 2500<s.length then ([],2) else match qx s with
 | none=>([],1)
 | some l=>if qy l then (l,0) else ([],1)
theorem Yg {r:Rs}(h:(r.wrong||decide (r.rest≠[]))=false):r=⟨[],false⟩:=by
 cases r with
 | mk a b =>
   simp at h
   rw[h.1,h.2]
theorem ZX (s:List UInt8):zR s=yX s:=by
 unfold zR yX
 by_cases hl:2500<s.length
 · rw[if_pos hl,if_pos hl]
 · rw[if_neg hl, if_neg hl]
   generalize hq:treesF (s.length+1) ⟨s,false⟩=q
   obtain ⟨ts,r⟩:=q;simp only
   by_cases hc:(r.wrong||decide (r.rest≠[])||!qy ts)=true
   · rw[if_pos hc];cases hf:qx s with
     | none=>rfl
     | some l =>
       simp only
       by_cases hk:qy l=true
       · exfalso
         have:=jB hf hk;rw[hq]at this
         injection this with h1 h2
         rw[h1,h2,hk]at hc
         simp at hc
       · rw[if_neg hk]
   · rw[if_neg hc];have hc':(r.wrong||decide (r.rest≠[])||!qy ts)=false:=by simpa using hc
     rw[Bool.or_eq_false_iff]at hc'
     have hr:=Yg hc'.1;have hk:qy ts=true:=by simpa using hc'.2
     rw[hr]at hq
     rw[yS hq hk];simp only;rw[if_pos hk]
def zm (s:List UInt8):Tr × Int :=
 if 2500<s.length then (zeroT,2) else match qx s with
 | some [t]=>if qR t then (t,0) else (zeroT,1)
 | _=>(zeroT,1)
theorem jU {t:Tr}(h:qR t=true):t.text=false∧qy [t]=true:=by
 unfold qR at h
 rw[Bool.and_eq_true]at h
 exact ⟨by simpa using h.1,h.2⟩
theorem YY {s:List UInt8}{t:Tr}(h:treesF (s.length+1) ⟨s,false⟩=([t],⟨[],false⟩)):(⟨s,false⟩:Rs).one (treesF s.length)=(t,⟨[],false⟩):=by
 cases ha:(⟨s,false⟩:Rs).treeAhead with
 | false=>rw[q4 ha]at h;injection h with h _;cases h
 | true =>
   rw[zk ha]at h
   injection h with h1 h2
   injection h1 with h1 h3
   refine Prod.ext h1 ?_;cases hb:((⟨s,false⟩:Rs).one (treesF s.length)).2.treeAhead with
   | false=>rw[q4 hb]at h2;exact h2
   | true=>rw[zk hb]at h3;cases h3
theorem QW {s:List UInt8}{t:Tr}(h:(⟨s,false⟩:Rs).one (treesF s.length)=(t,⟨[],false⟩))(hg:qR t=true):treesF (s.length+1) ⟨s,false⟩=([t],⟨[],false⟩):=by
  obtain ⟨ht,hc⟩:=jU hg;have hr:qn t=true:=(rb_Gd 8 80 [t] (by decide) (by simpa[qy] using hc) t (List.mem_singleton.2 rfl)).1
  have hta:(⟨s,false⟩:Rs).treeAhead=true:=by
    unfold Rs.one at h
    by_cases ha:(⟨s,false⟩:Rs).ahead [60]=true
    · rw[if_pos ha]at h
      obtain ⟨v,hs⟩:∃ v,s=60::v:=by
        unfold Rs.ahead at ha
        rw[Bool.and_eq_true]at ha
        obtain ⟨v,hv⟩:=List.isPrefixOf_iff_prefix.1 ha.2;exact ⟨v,hv.symm⟩
      rw[hs]at h ⊢
      obtain ⟨nm,L,b,ks,_,_,_,⟨c,br,hbc,hlc⟩,hcase⟩:=Zp (treesF_le _) h hr
      have hv:∃ v',v=c::v':=by
        rcases hcase with ⟨_,hv,_⟩|⟨_,_,hv,_⟩
        · exact ⟨_,by rw[hv,hbc];rfl⟩
        · exact ⟨_,by rw[hv,hbc];rfl⟩
      obtain ⟨v',rfl⟩:=hv
      have hc:((47:UInt8)==c)=false:=by
        cases h:((47:UInt8)==c) with
        | false=>rfl
        | true => have : 47 = c := by simpa using h
                  subst this;exact absurd hlc (by decide)
      simp[Rs.treeAhead,Rs.ahead,List.isPrefixOf,hc]
    · rw[if_neg ha]at h
      injection h with h _
      rw[←h]at ht
      cases ht
  rw[zk hta,h];simp only;rw[q4 (by simp[Rs.treeAhead])]
theorem ZB (s:List UInt8):qw s=zm s:=by
 unfold qw zm
 by_cases hl:2500<s.length
 · rw[if_pos hl,if_pos hl]
 · rw[if_neg hl, if_neg hl]
   generalize hq:(⟨s,false⟩:Rs).one (treesF s.length)=q
   obtain ⟨t,r⟩:=q;simp only
   by_cases hc:(r.wrong||decide (r.rest≠[])||!qR t)=true
   · rw[if_pos hc]
     split
     · rename_i t' hf
       by_cases hk:qR t'=true
       · exfalso
         have:=YY (jB hf (jU hk).2);rw[hq]at this
         injection this with h1 h2
         rw[h1,h2,hk]at hc
         simp at hc
       · rw[if_neg hk]
     · rfl
   · rw[if_neg hc];have hc':(r.wrong||decide (r.rest≠[])||!qR t)=false:=by simpa using hc
     rw[Bool.or_eq_false_iff]at hc'
     have hr:=Yg hc'.1;have hk:qR t=true:=by simpa using hc'.2
     rw[hr]at hq
     rw[yS (QW hq hk) (jU hk).2];simp only;rw[if_pos hk]
def fourL:List UInt8:=[32,108,116,59,32,103,116,59,32,97,109,112,59,32,113,117,111,116,59,32]
theorem jK {u v x:List UInt8}(hu:u.all qh=true)(hv:v.all qh=true):(32::(u++[59,32])).isPrefixOf (32::(v++59::32::x))=decide (u=v):=by
 by_cases h:u=v
 · subst h;rw[decide_eq_true rfl,List.isPrefixOf_iff_prefix];exact ⟨x,by simp⟩
 · rw[decide_eq_false h]
   apply Bool.eq_false_iff.2
   intro hp;obtain ⟨q,hq⟩:=List.isPrefixOf_iff_prefix.1 hp;rw[List.cons_append,List.append_assoc]at hq
   injection hq with _ hq
   have h1:=qm (p:=qh) (l:=u) (c:=59) (x:=32::q) hu (by decide)
   have h2:=qm (p:=qh) (l:=v) (c:=59) (x:=32::x) hv (by decide)
   have e:u++59::32::q=v++59::32::x:=hq;rw[e,h2.1]at h1
   exact h h1.1.symm
theorem zP {c:UInt8}(hc:c≠32)(u x:List UInt8):(32::u).isPrefixOf (c::x)=false:=by
 have:((32:UInt8)==c)=false:=by simpa using fun e=>hc e.symm
 simp[List.isPrefixOf,this]
theorem Xb (u:List UInt8):(32::(u++[59,32])).isPrefixOf [32]=false:=by
 cases u<;>simp[List.isPrefixOf]
def q7 (u:List UInt8):Int:=if u=[108,116] then 0 else if u=[103,116] then 4 else if u=[97,109,112] then 8 else if u=[113,117,111,116] then 13 else -1
theorem Zr {u:List UInt8}(hu:u.all qh=true):Lib.index fourL (32::(u++[59,32]))=q7 u:=by
 have p1:=jK (u:=u) (v:=[108,116]) (x:=[103,116,59,32,97,109,112,59,32,113,117,111,116,59,32]) hu (by decide)
 have p2:=jK (u:=u) (v:=[103,116]) (x:=[97,109,112,59,32,113,117,111,116,59,32]) hu (by decide)
 have p3:=jK (u:=u) (v:=[97,109,112]) (x:=[113,117,111,116,59,32]) hu (by decide)
 have p4:=jK (u:=u) (v:=[113,117,111,116]) (x:=[]) hu (by decide)
 have p5:=Xb u;simp only[List.cons_append,List.nil_append]at p1 p2 p3 p4
 unfold fourL q7;simp only[Lib.index,p1,p2,p3,p4,p5,zP (by decide:(108:UInt8)≠32),zP (by decide:(116:UInt8)≠32),zP (by decide:(59:UInt8)≠32),zP (by decide:(103:UInt8)≠32),zP (by decide:(97:UInt8)≠32),zP (by decide:(109:UInt8)≠32),zP (by decide:(112:UInt8)≠32),zP (by decide:(113:UInt8)≠32),zP (by decide:(117:UInt8)≠32),zP (by decide:(111:UInt8)≠32),Bool.false_eq_true,if_false,List.isEmpty_cons]
 by_cases h1:u=[108,116]
 · subst h1;decide
 by_cases h2:u=[103,116]
 · subst h2;decide
 by_cases h3:u=[97,109,112]
 · subst h3;decide
 by_cases h4:u=[113,117,111,116]
 · subst h4;decide
 simp[h1,h2,h3,h4]
def jm (k:Int):UInt8:=if k=0 then 60 else if k=4 then 62 else if k=8 then 38 else 34
theorem Ya (u:List UInt8):wordsT.find? (fun p=>p.1==u)=if q7 u<0 then none else some (u,jm (q7 u)):=by
 unfold q7 wordsT
 by_cases h1:u=[108,116]
 · subst h1;decide
 by_cases h2:u=[103,116]
 · subst h2;decide
 by_cases h3:u=[97,109,112]
 · subst h3;decide
 by_cases h4:u=[113,117,111,116]
 · subst h4;decide
 have f1:([108,116]==u)=false:=by simpa using fun h=>h1 h.symm
 have f2:([103,116]==u)=false:=by simpa using fun h=>h2 h.symm
 have f3:([97,109,112]==u)=false:=by simpa using fun h=>h3 h.symm
 have f4:([113,117,111,116]==u)=false:=by simpa using fun h=>h4 h.symm
 simp[List.find?,f1,f2,f3,f4,h1,h2,h3,h4]
theorem JJ (u:List UInt8)(h:¬ q7 u<0):q7 u=0∨q7 u=4∨q7 u=8∨q7 u=13:=by
 unfold q7 at h ⊢
 by_cases h1:u=[108,116]
 · rw[if_pos h1];exact Or.inl rfl
 by_cases h2:u=[103,116]
 · rw[if_neg h1,if_pos h2];exact Or.inr (Or.inl rfl)
 by_cases h3:u=[97,109,112]
 · rw[if_neg h1,if_neg h2,if_pos h3];exact Or.inr (Or.inr (Or.inl rfl))
 by_cases h4:u=[113,117,111,116]
 · rw[if_neg h1,if_neg h2,if_neg h3,if_pos h4];exact Or.inr (Or.inr (Or.inr rfl))
 rw[if_neg h1,if_neg h2,if_neg h3,if_neg h4]at h
 exact absurd (by decide) h
theorem jt (v:Bool):∀ (f g:Nat)(s:List UInt8),s.length<f→s.length<g→qI v f s=qI v g s:=by
 intro f
 induction f with
 | zero=>intro g s h;omega
 | succ f ih =>
   intro g s h hg;cases g with
   | zero=>omega
   | succ g =>
     cases s with
     | nil=>rfl
     | cons c t =>
       simp only[List.length_cons]at h hg
       rw[qI,qI]
       by_cases hc:c=38
       · rw[if_pos hc, if_pos hc];cases hw:qX t with
         | none=>rfl
         | some p =>
           obtain ⟨x,r⟩:=p;have:=(zM hw).1;simp only;rw[ih g r (by omega) (by omega)]
       · rw[if_neg hc,if_neg hc,ih g t (by omega) (by omega)]
def qJ (v:Bool)(s:List UInt8):Option (List UInt8):=qI v (s.length+1) s
theorem Z4 (v:Bool):qJ v []=some []:=rfl
theorem Zv (v:Bool){t r:List UInt8}{x:UInt8}(h:qX t=some (x,r)):qJ v (38::t)=(qJ v r).map (x::·):=by
 have:=(zM h).1;unfold qJ;rw[qI,if_pos rfl,h];simp only;rw[jt v _ (r.length+1) r (by simp only[List.length_cons];omega) (Nat.lt_succ_self _)]
theorem j8 (v:Bool){t:List UInt8}(h:qX t=none):qJ v (38::t)=none:=by
 unfold qJ;rw[qI,if_pos rfl,h]
theorem yn (v:Bool){c:UInt8}{t:List UInt8}(hc:c≠38)(h:(decide (c=60)||decide (c=62)||(decide (c=34)&&v)||!sign c)=true):qJ v (c::t)=none:=by
 unfold qJ;rw[qI,if_neg hc,if_pos h]
theorem Qw (v:Bool){c:UInt8}{t:List UInt8}(hc:c≠38)(h:(decide (c=60)||decide (c=62)||(decide (c=34)&&v)||!sign c)=false):qJ v (c::t)=(qJ v t).map (c::·):=by
 unfold qJ;rw[qI,if_neg hc,if_neg (by rw[h];decide)]
 rw[jt v _ (t.length+1) t (by simp only[List.length_cons];omega) (Nat.lt_succ_self _)]
def qF (v:Bool)(s:List UInt8):List UInt8 × Bool:=match qJ v s with
 | some x=>(x,true)
 | none=>([],false)
theorem zB (c:UInt8):∀ (l:List UInt8),Lib.indexByte l c=match l.dropWhile (fun x=>decide (x≠c)) with
 | []=>-1
 | _::_=>((l.takeWhile (fun x=>decide (x≠c))).length:Int):=by
 intro l
 induction l with
 | nil=>rfl
 | cons d l ih =>
   by_cases h:d=c
   · subst h;simp[Lib.indexByte]
   · have hb : (d == c) = false := by simpa using h
     rw[List.dropWhile_cons,List.takeWhile_cons,if_pos (by simpa using h),if_pos (by simpa using h)]
     simp only[Lib.indexByte,hb,ih];cases hd:l.dropWhile (fun x=>decide (x≠c)) with
     | nil=>rfl
     | cons x r =>
       simp only[List.length_cons];rw[if_neg (by decide),if_neg (by simp)]
       push_cast
       rfl
def piecesL:Nat→List UInt8→Option (List (List UInt8))
 | 0,_=>none
 | _+1,[]=>some []
 | f + 1, c :: t =>
   if c=60 then match t.dropWhile qS with
    | []=>none
    | _::r=>(piecesL f r).map ((60::(t.takeWhile qS++[62]))::·)
   else (piecesL f ((c::t).dropWhile qW)).map ((c::t).takeWhile qW::·)
def y5 (st:List Tr)(p:List UInt8):Option (List Tr):=match p with
 | []=>none
 | c::u=>if c=60 then qO st u.dropLast else ze st (c::u)
def foldD:List Tr→List (List UInt8)→Option (List Tr)
 | st,[]=>some st
 | st, p :: ps => match y5 st p with
   | none=>none
   | some st'=>foldD st' ps
theorem jg {c:UInt8}(t:List UInt8)(h:c≠60):(c::t).takeWhile qW=c::t.takeWhile qW∧(c::t).dropWhile qW=t.dropWhile qW:=by
 have:qW c=true:=by simp[qW,h]
 rw[List.takeWhile_cons,List.dropWhile_cons,if_pos this,if_pos this];exact ⟨rfl,rfl⟩
theorem runD_pieces:∀ (f:Nat)(st:List Tr)(s:List UInt8),runD f st s=match piecesL f s with
 | none=>none
 | some ps=>foldD st ps:=by
 intro f
 induction f with
 | zero=>intro st s;rfl
 | succ f ih =>
   intro st s;cases s with
   | nil=>rfl
   | cons c t =>
     rw[runD,piecesL]
     by_cases hc:c=60
     · rw[if_pos hc, if_pos hc];cases hd:t.dropWhile qS with
       | nil=>rfl
       | cons x r =>
         simp only
         have hp:y5 st (60::(t.takeWhile qS++[62]))=qO st (t.takeWhile qS):=by
          show (if (60:UInt8)=60 then qO st (t.takeWhile qS++[62]).dropLast else ze st (60::(t.takeWhile qS++[62])))=_
          rw[if_pos rfl,List.dropLast_concat]
         cases hm:qO st (t.takeWhile qS) with
         | none =>
           cases piecesL f r with
           | none=>rfl
           | some ps=>simp[foldD,hp,hm]
         | some st' =>
           simp only;rw[ih];cases piecesL f r with
           | none=>rfl
           | some ps=>simp[foldD,hp,hm]
     · rw[if_neg hc, if_neg hc]
       have hp:y5 st ((c::t).takeWhile qW)=ze st ((c::t).takeWhile qW):=by
        rw[(jg t hc).1]
        show (if c=60 then _ else _)=_
        rw[if_neg hc]
       cases hm:ze st ((c::t).takeWhile qW) with
       | none =>
         cases piecesL f ((c::t).dropWhile qW) with
         | none=>rfl
         | some ps=>simp[foldD,hp,hm]
       | some st' =>
         simp only;rw[ih];cases piecesL f ((c::t).dropWhile qW) with
         | none=>rfl
         | some ps=>simp[foldD,hp,hm]
theorem pieces_fuel:∀ (f g:Nat)(s:List UInt8),s.length<f→s.length<g→piecesL f s=piecesL g s:=by
 intro f
 induction f with
 | zero=>intro g s h;omega
 | succ f ih =>
   intro g s h hg;cases g with
   | zero=>omega
   | succ g =>
     cases s with
     | nil=>rfl
     | cons c t =>
       simp only[List.length_cons]at h hg
       rw[piecesL,piecesL]
       by_cases hc:c=60
       · rw[if_pos hc, if_pos hc];cases hd:t.dropWhile qS with
         | nil=>rfl
         | cons x r =>
           have hl:=qz qS t;rw[hd,List.length_cons]at hl
           simp only;rw[ih g r (by omega) (by omega)]
       · rw[if_neg hc, if_neg hc]
         have hl:((c::t).dropWhile qW).length≤t.length:=by
          rw[(jg t hc).2];exact qz _ _
         rw[ih g _ (by omega) (by omega)]
def qt (s:List UInt8):Option (List (List UInt8)):=piecesL (s.length+1) s
theorem yO (st:List Tr)(s:List UInt8):run st s=match qt s with
 | none=>none
 | some ps=>foldD st ps:=runD_pieces _ _ _
theorem piecesX_nil:qt []=some []:=rfl
theorem QY {t:List UInt8}(h:t.dropWhile qS=[]):qt (60::t)=none:=by
 unfold qt;rw[piecesL,if_pos rfl,h]
theorem QX {t r:List UInt8}{x:UInt8}(h:t.dropWhile qS=x::r):qt (60::t)=(qt r).map ((60::(t.takeWhile qS++[62]))::·):=by
 have hl:=qz qS t;rw[h,List.length_cons]at hl
 unfold qt;rw[piecesL,if_pos rfl,h];simp only;rw[pieces_fuel _ (r.length+1) r (by simp only[List.length_cons];omega) (Nat.lt_succ_self _)]
theorem QZ {c:UInt8}{t:List UInt8}(hc:c≠60):qt (c::t)=(qt ((c::t).dropWhile qW)).map ((c::t).takeWhile qW::·):=by
 have hl:((c::t).dropWhile qW).length≤t.length:=by
  rw[(jg t hc).2];exact qz _ _
 unfold qt;rw[piecesL,if_neg hc,pieces_fuel _ (((c::t).dropWhile qW).length+1) _ (by simp only[List.length_cons];omega) (Nat.lt_succ_self _)]
def XB (N:Nat)(p:List UInt8):Prop:=p.length≤N∧((∃ m,p=60::(m++[62])∧m.all qS=true)∨∃ c u,p=c::u∧c≠60)
theorem pieces_ok:∀ (f:Nat)(s:List UInt8)(ps:List (List UInt8)),piecesL f s=some ps→(∀ p∈ps,XB s.length p)∧ps.length≤s.length:=by
 intro f
 induction f with
 | zero=>intro s ps h;cases h
 | succ f ih =>
   intro s ps h;cases s with
   | nil=>injection h with h;subst h;exact ⟨fun p hp=>(by cases hp),nR9 _⟩
   | cons c t =>
     rw[piecesL]at h
     by_cases hc:c=60
     · rw[if_pos hc]at h
       cases hd:t.dropWhile qS with
       | nil=>rw[hd]at h;cases h
       | cons x r =>
         rw[hd]at h
         simp only at h
         cases hq:piecesL f r with
         | none=>rw[hq]at h;cases h
         | some qs =>
           rw[hq]at h
           injection h with h
           obtain ⟨h1,h2⟩:=ih r qs hq
           have hlen:t.length=(t.takeWhile qS).length+(r.length+1):=by
            have:=congrArg List.length (List.takeWhile_append_dropWhile (p:=qS) (l:=t));rw[hd,List.length_append,List.length_cons]at this
            exact this.symm
           subst h;refine ⟨fun p hp=>?_,by simp only[List.length_cons];omega⟩
           rw[List.mem_cons]at hp
           rcases hp with rfl|hp
           · exact ⟨by simp only[List.length_cons,List.length_append,List.length_nil];omega,Or.inl ⟨_,rfl,List.all_takeWhile⟩⟩
           · exact ⟨Nat.le_trans (h1 p hp).1 (by simp only[List.length_cons];omega),(h1 p hp).2⟩
     · rw[if_neg hc]at h
       cases hq:piecesL f ((c::t).dropWhile qW) with
       | none=>rw[hq]at h;cases h
       | some qs =>
         rw[hq]at h
         injection h with h
         obtain ⟨h1,h2⟩:=ih _ qs hq
         have hl:((c::t).dropWhile qW).length≤t.length:=by
          rw[(jg t hc).2];exact qz _ _
         subst h;refine ⟨fun p hp=>?_,by simp only[List.length_cons];omega⟩
         rw[List.mem_cons]at hp
         rcases hp with rfl|hp
         · refine ⟨(List.takeWhile_prefix _).length_le,Or.inr ⟨c,_,(jg t hc).1,hc⟩⟩
         · exact ⟨Nat.le_trans (h1 p hp).1 (by simp only[List.length_cons];omega),(h1 p hp).2⟩
theorem Jr (c:UInt8)(l:List UInt8):Lib.cut l [c]=match l.dropWhile (fun x=>decide (x≠c)) with
 | []=>(l,[],false)
 | _::r=>(l.takeWhile (fun x=>decide (x≠c)),r,true):=by
 have hi:Lib.index l [c]=_:=(Lib.index_one l c).trans (zB c l);unfold Lib.cut;rw[hi];cases hd:l.dropWhile (fun x=>decide (x≠c)) with
 | nil=>exact if_neg (show ¬ ((0:Int)≤-1) by decide)
 | cons x r =>
   simp only;have e:=List.takeWhile_append_dropWhile (p:=fun x=>decide (x≠c)) (l:=l)
   rw[hd]at e
   rw[if_pos (by omega),Int.toNat_natCast]
   generalize l.takeWhile (fun x=>decide (x≠c))=u at *
   rw[←e,List.take_left' rfl,show u++x::r=(u++[x])++r by simp,List.drop_left' (by simp)]
theorem Jz {u:List UInt8}(h:u.all qd=true)(r:List UInt8):Lib.index (u++61::34::r) [61,34]=(u.length:Int):=by
 induction u with
 | nil=>rfl
 | cons c u ih =>
   rw[List.all_cons,Bool.and_eq_true]at h
   have hc:c≠61:=by intro e;subst e;exact absurd h.1 (by decide)
   have hp:([61,34]:List UInt8).isPrefixOf (c::(u++61::34::r))=false:=by
    have:((61:UInt8)==c)=false:=by simpa using fun e=>hc e.symm
    simp[List.isPrefixOf,this]
   rw[List.cons_append,Lib.index,hp,ih h.2,if_neg (by decide),if_neg (by simp)]
   simp
theorem Jq {l name after:List UInt8}(h:Lib.cut l [61,34]=(name,after,true)):l=name++61::34::after:=by
 unfold Lib.cut at h
 rcases Lib.index_spec l [61,34] with ⟨h1,_⟩|⟨i,h1,h2,h3,_⟩
 · rw[h1,if_neg (by decide)]at h;cases h
 · rw[h1, if_pos (by omega), Int.toNat_natCast]at h
   injection h with ha h
   injection h with hb _
   unfold Lib.occAt at h3
   obtain ⟨q,hq⟩:=List.isPrefixOf_iff_prefix.1 h3;have e:l=l.take i++l.drop i:=(List.take_append_drop i l).symm;rw[ha]at e
   rw[←hq]at e
   have:q=after:=by
    rw[←hb]
    show q=l.drop (i+2)
    rw[←List.drop_drop,←hq];rfl
   rw[this]at e
   exact e
theorem Zx (l:List UInt8):if ((Lib.cut l [61,34]).2.2&&qo (Lib.cut l [61,34]).1)=true then l.takeWhile qd=(Lib.cut l [61,34]).1∧l.dropWhile qd=61::34::(Lib.cut l [61,34]).2.1
 else qo (l.takeWhile qd)=false∨∀ after,l.dropWhile qd≠61::34::after:=by
 split
 · rename_i h
   rw[Bool.and_eq_true]at h
   generalize hq:Lib.cut l [61,34]=q at *
   obtain ⟨name,after,ok⟩:=q;simp only at h
   rw[h.1]at hq
   have e:=Jq hq
   have hl:name.all qd=true:=by
    have:=h.2;simp only[qo,Bool.and_eq_true]at this
    exact this.2
   have ht:=qm (p:=qd) (l:=name) (c:=61) (x:=34::after) hl (by decide)
   rw[e];exact ht
 · rename_i h
   by_cases hn:qo (l.takeWhile qd)=true
   · right
     intro after hd
     apply h
     have e:=List.takeWhile_append_dropWhile (p:=qd) (l:=l);rw[hd]at e
     have hi:=Jz (u:=l.takeWhile qd) List.all_takeWhile after;rw[e]at hi
     unfold Lib.cut;rw[hi,if_pos (by omega),Int.toNat_natCast]
     simp only[Bool.true_and]
     have:l.take (l.takeWhile qd).length=l.takeWhile qd:=by
      have:(l.takeWhile qd++61::34::after).take (l.takeWhile qd).length=l.takeWhile qd:=List.take_left' rfl
      rwa [e]at this
     rw[this];exact hn
   · left
     simpa using hn
theorem attrs_fuel:∀ (f g:Nat)(m:List UInt8),m.length<f→m.length<g→attrsL f m=attrsL g m:=by
 intro f
 induction f with
 | zero=>intro g m h;omega
 | succ f ih =>
   intro g m h hg;cases g with
   | zero=>omega
   | succ g =>
     rw[attrsL,attrsL]
     split
     · rfl
     · split
       · rfl
       · split
         · rfl
         · split
           · rename_i after hd
             split
             · rfl
             · rename_i x next hq
               have h1:next.length<after.length:=by
                have:=qz qM after;rw[hq,List.length_cons]at this
                omega
               have h2:after.length<m.length:=by
                have a:=qz qd (m.dropWhile qe);have b:=qz qe m;rw[hd]at a
                simp only[List.length_cons]at a
                omega
               rw[ih g next (by omega) (by omega)]
           · rfl
def qV (m:List UInt8):Option (List (List UInt8 × List UInt8)):=attrsL (m.length+1) m
theorem ZS {m:List UInt8}(h:m.all qe=true):qV m=some []:=by
 unfold qV;rw[attrsL,if_pos h]
def nameOf (m:List UInt8):List UInt8:=(Lib.cut (m.dropWhile qe) [61,34]).1
def qT (m:List UInt8):List UInt8:=(Lib.cut (m.dropWhile qe) [61,34]).2.1
def Jx (m:List UInt8):Bool:=(Lib.cut (m.dropWhile qe) [61,34]).2.2
def yu (m:List UInt8):List UInt8:=(Lib.cut (qT m) [34]).1
def ju (m:List UInt8):List UInt8:=(Lib.cut (qT m) [34]).2.1
def jQ (m:List UInt8):Bool:=(Lib.cut (qT m) [34]).2.2
def J0 (m:List UInt8):Bool:=decide ((m.dropWhile qe).length=m.length)||!Jx m||!jQ m||!(qF true (yu m)).2||!qo (nameOf m)
theorem Za {m:List UInt8}(h:m.all qe=false):qV m=if J0 m then none else (qV (ju m)).map ((nameOf m,(qF true (yu m)).1)::·):=by
 have hc:=Zx (m.dropWhile qe);have hs:=Jr 34 (qT m);unfold qV;rw[attrsL,if_neg (by rw[h];decide)]
 unfold J0
 by_cases h1:(m.dropWhile qe).length=m.length
 · rw[if_pos h1];simp[h1]
 rw[if_neg h1]
 by_cases h2:(Jx m&&qo (nameOf m))=true
 · rw[if_pos (show ((Lib.cut (m.dropWhile qe) [61, 34]).2.2 && qo (Lib.cut (m.dropWhile qe) [61, 34]).1) = true from h2)]at hc
   have e1:(m.dropWhile qe).takeWhile qd=nameOf m:=hc.1;have e2:(m.dropWhile qe).dropWhile qd=61::34::qT m:=hc.2;rw[Bool.and_eq_true]at h2
   rw[e1,e2,h2.1,h2.2];simp only[Bool.not_true,Bool.false_eq_true,if_false,Bool.or_false];rw[show (fun x:UInt8=>decide (x≠34))=qM from rfl]at hs
   cases hd:(qT m).dropWhile qM with
   | nil =>
     rw[hd]at hs
     have:jQ m=false:=by unfold jQ;rw[hs]
     simp[this]
   | cons x next =>
     rw[hd]at hs
     have t1:jQ m=true:=by unfold jQ;rw[hs]
     have t2:yu m=(qT m).takeWhile qM:=by unfold yu;rw[hs]
     have t3:ju m=next:=by unfold ju;rw[hs]
     have hlt:((qT m).takeWhile qM).length<(qT m).length+1:=by
      have:=(List.takeWhile_prefix (l:=qT m) qM).length_le;omega
     have hn:next.length<m.length:=by
      have a:=qz qd (m.dropWhile qe);have b:=qz qe m;have c:=qz qM (qT m);rw[e2]at a
      rw[hd]at c
      simp only[List.length_cons]at a c
      omega
     simp only;rw[jt true _ (((qT m).takeWhile qM).length+1) _ hlt (Nat.lt_succ_self _),←t2,t1,t3,attrs_fuel m.length (next.length+1) next hn (Nat.lt_succ_self _)]
     show (match qJ true (yu m) with
      | none=>none
      | some x=>_)=_
     unfold qF;cases qJ true (yu m) with
     | none=>simp
     | some x=>simp[h1]
 · rw[if_neg (show ¬ ((Lib.cut (m.dropWhile qe) [61, 34]).2.2 && qo (Lib.cut (m.dropWhile qe) [61, 34]).1) = true from h2)]at hc
   have hb:(decide ((m.dropWhile qe).length=m.length)||!Jx m||!jQ m||!(qF true (yu m)).2||!qo (nameOf m))=true:=by
    cases a:Jx m
    · simp
    · cases b : qo (nameOf m)
      · simp
      · rw[a,b]at h2;simp at h2
   rw[if_pos hb]
   rcases hc with hc|hc
   · rw[hc];simp
   · split
     · rfl
     · split
       · rename_i after hd
         exact absurd hd (hc after)
       · rfl
theorem YW {m:List UInt8}(h:J0 m=false):(ju m).length<m.length:=by
 unfold J0 at h
 simp only[Bool.or_eq_false_iff,Bool.not_eq_false']at h
 obtain ⟨⟨⟨⟨_,h2⟩,_⟩,_⟩,h5⟩:=h;have hc:=Zx (m.dropWhile qe);rw[if_pos (show ((Lib.cut (m.dropWhile qe) [61,34]).2.2&&qo (Lib.cut (m.dropWhile qe) [61,34]).1)=true from by rw[Bool.and_eq_true];exact ⟨h2,h5⟩)]at hc
 have a:=qz qd (m.dropWhile qe);have b:=qz qe m;rw[hc.2]at a
 simp only[List.length_cons]at a
 have c:(ju m).length≤(qT m).length:=by
  unfold ju Lib.cut
  split
  · simp
  · simp
 unfold qT at c
 omega
end Go.Proofs.YtkbhckhbgalaoaaGreatDoor
/- A list of trees of the call's own that grows by a list of trees, or by one. Condition: at most 2^20 trees. -/
namespace Go.Proofs.YtkbhckhbgalaoaaGreatDoor
open Go.ChangeShapes Go.WideShapes Go.ChangeAt Go.RowKit
set_option maxRecDepth 100000
end Go.Proofs.YtkbhckhbgalaoaaGreatDoor
namespace Go.Proofs.YtkbhckhbgalaoaaGreatDoor
open Go.ChangeShapes Go.WideShapes Go.ChangeAt Go.RowKit
set_option maxRecDepth 100000
def Els (P:Nat→Prop)(v:Value)(b:Nat):Prop:=P b∧v.ownBlock≠some b
structure KG (P:Nat→Prop) (n:Nat) (w:World) (v:Value) (us:List Tr) (qs:List (Bool × ByteArray × Value × Value)):Prop where
 len:qs.length=us.length
 own:w.ownsRow 0 25 4 v us.length (quadCells qs)
 at_:∀ g,v.ownBlock=some g→P g
 each:∀ (i:Nat) (q:Bool × ByteArray × Value × Value) (t:Tr),qs[i]?=some q→us[i]?=some t→q.1=t.text∧q.2.1=t.s∧qf (Els P v) w q.2.2.1 t.attrs∧qb (Els P v) w n q.2.2.2 t.kids
theorem KG.nil (P:Nat→Prop)(n:Nat)(w:World):KG P n w (.slice none 0 0) [] [] :=
 ⟨rfl,World.ownsRow_nil _ _ _ _,fun g hg=>(by cases hg),fun i q t h=>by simp at h⟩
theorem KG.carry {P P':Nat→Prop}{n:Nat}{w w':World}{v:Value}{us:List Tr}{qs:List (Bool × ByteArray × Value × Value)}(h:KG P n w v us qs)(hw:∀ b,P b→b<w.heap.size→P' b∧w'.heap[b]?=w.heap[b]?):KG P' n w' v us qs:=by
 have hlt:∀ g,v.ownBlock=some g→g<w.heap.size:=fun g hg=>(h.own.lt g hg).2
 have carry:∀ b,(Els P v b∧b<w.heap.size)→Els P' v b∧w'.heap[b]?=w.heap[b]?:=fun b hb=>⟨⟨(hw b hb.1.1 hb.2).1,hb.1.2⟩,(hw b hb.1.1 hb.2).2⟩
 refine ⟨h.len,qE h.own (fun g hg=>(hw g (h.at_ g hg) (hlt g hg)).2),fun g hg=>(hw g (h.at_ g hg) (hlt g hg)).1,fun i q t hq ht=>?_⟩
 obtain ⟨a,b,c,d⟩:=h.each i q t hq ht;exact ⟨a,b,c.bounded.carry carry,qb.carry carry n (qb.bounded n d)⟩
theorem KG.done {P:Nat→Prop}{n:Nat}{w:World}{v:Value}{us:List Tr}{qs:List (Bool × ByteArray × Value × Value)}(h:KG P n w v us qs):qb P w (n+1) v us:=by
 rcases h.own.2 with ⟨hv,h0⟩|⟨g,cap,cur,hv,hB,hh,hc,hm,_⟩
 · have : us = [] := List.eq_nil_of_length_eq_zero h0;subst this;exact qb.nil _ ⟨_,_,hv,nZ9 _⟩
 · have hP := h.at_;have hown:=h.own;have heach:=h.each;subst hv;refine ⟨_,_,rfl,hc,hm,fun _=>⟨g,0,rfl,hP g rfl,fun i t ht=>?_⟩⟩
   have hi:i<us.length:=by
    rcases Nat.lt_or_ge i us.length with h'|h'
    · exact h'
    · rw[List.getElem?_eq_none h']at ht;cases ht
   obtain ⟨q,hq⟩:∃ q,qs[i]?=some q:=⟨qs[i]'(by rw[h.len];exact hi),by simp[h.len,hi]⟩
   obtain ⟨a,b,c,d⟩:=heach i q t hq ht;obtain ⟨g0,g1,g2,g3⟩:=zr qs i q hq;refine ⟨q.2.2.1,q.2.2.2,?_,?_,?_,?_,c.carry (fun b hb=>⟨hb.1,rfl⟩),qb.carry (fun b hb=>⟨hb.1,rfl⟩) n d⟩
   · rw[Nat.zero_add,World.ownsRow.cellAt hown (i*4) (by omega),g0,a]
   · rw[Nat.zero_add,World.ownsRow.cellAt hown (i*4+1) (by omega),g1,b]
   · rw[Nat.zero_add,World.ownsRow.cellAt hown (i*4+2) (by omega),g2]
   · rw[Nat.zero_add,World.ownsRow.cellAt hown (i*4+3) (by omega),g3]
theorem zX {α:Type}{l:List α}{x y:α}{i:Nat}(h:(l++[x])[i]?=some y):(i<l.length∧l[i]?=some y)∨(i=l.length∧y=x):=by
 rcases Nat.lt_or_ge i l.length with hi|hi
 · rw[List.getElem?_append_left hi]at h
   exact Or.inl ⟨hi,h⟩
 · rw[List.getElem?_append_right hi]at h
   have hz:i-l.length=0:=by
    rcases Nat.eq_zero_or_pos (i-l.length) with h'|h'
    · exact h'
    · rw[List.getElem?_eq_none (by simp;omega)]at h;cases h
   rw[hz]at h
   simp at h
   exact Or.inr ⟨by omega,h.symm⟩
theorem KG.snoc {P P' Q:Nat→Prop}{n:Nat}{w w':World}{v v':Value}{us:List Tr}{qs:List (Bool × ByteArray × Value × Value)}{t:Tr}{q:Bool × ByteArray × Value × Value}
 (h:KG P n w v us qs) (hown:w'.ownsRow 0 25 4 v' (us.length+1) (quadCells qs++[.bool q.1,.string q.2.1,q.2.2.1,q.2.2.2]))
 (hg:w.grownBy w' v.ownBlock) (hat:v'.ownBlock=v.ownBlock∨v'.ownBlock=some w.heap.size) (hP:∀ b,P b→b<w.heap.size→P' b) (hQ:∀ b,Q b→b<w.heap.size→P' b∧v.ownBlock≠some b) (hN:P' w.heap.size)
 (h1:q.1=t.text) (h2:q.2.1=t.s) (ha:qf Q w q.2.2.1 t.attrs) (hk:qb Q w n q.2.2.2 t.kids):KG P' n w' v' (us++[t]) (qs++[q]):=by
 have hlt:∀ g,v.ownBlock=some g→g<w.heap.size:=fun g hg=>(h.own.lt g hg).2
 have out:∀ b,b<w.heap.size→v.ownBlock≠some b→v'.ownBlock≠some b∧w'.heap[b]?=w.heap[b]?:=by
  intro b hb hne;refine ⟨?_,hg.block b hb (fun e=>hne e.symm)⟩
  rcases hat with e|e
  · rw[e];exact hne
  · rw[e];intro e';cases e';exact Nat.lt_irrefl _ hb
 have carry:∀ b,(Els P v b∧b<w.heap.size)→Els P' v' b∧w'.heap[b]?=w.heap[b]?:=fun b hb=>⟨⟨hP b hb.1.1 hb.2,(out b hb.2 hb.1.2).1⟩,(out b hb.2 hb.1.2).2⟩
 have carryQ:∀ b,(Q b∧b<w.heap.size)→Els P' v' b∧w'.heap[b]?=w.heap[b]?:=fun b hb=>⟨⟨(hQ b hb.1 hb.2).1,(out b hb.2 (hQ b hb.1 hb.2).2).1⟩,(out b hb.2 (hQ b hb.1 hb.2).2).2⟩
 refine ⟨by simp[h.len],by rw[qQ,List.length_append];exact hown,fun g hg'=>?_,fun i q' t' hq ht=>?_⟩
 · rcases hat with e | e
   · rw[e]at hg';exact hP g (h.at_ g hg') (hlt g hg')
   · rw[e]at hg';cases hg';exact hN
 · rcases zX hq with ⟨hi, hq⟩ | ⟨hi, rfl⟩
   · rcases zX ht with ⟨_, ht⟩ | ⟨hi', _⟩
     · obtain ⟨a, b, c, d⟩ := h.each i q' t' hq ht;exact ⟨a,b,c.bounded.carry carry,qb.carry carry n (qb.bounded n d)⟩
     · exfalso;rw[h.len]at hi;omega
   · rcases zX ht with ⟨hi', _⟩ | ⟨_, rfl⟩
     · exfalso;rw[h.len]at hi;omega
     · exact ⟨h1,h2,ha.bounded.carry carryQ,qb.carry carryQ n (qb.bounded n hk)⟩
def Lv (F:Nat→Nat)(B ob i b:Nat):Prop:=F b=i∧b≠ob∧B≤b
structure Stk (F:Nat→Nat) (B:Nat) (w:World) (v:Value) (ob:Nat) (ss:List Tr) (qs:List (Bool × ByteArray × Value × Value)):Prop where
 len:qs.length=ss.length
 own:w.ownsRow B 25 4 v ss.length (quadCells qs)
 at_:v.ownBlock=some ob
 few:ss.length≤9
 each:∀ (i:Nat) (q:Bool × ByteArray × Value × Value) (t:Tr),qs[i]?=some q→ss[i]?=some t→q.1=t.text∧q.2.1=t.s∧qf (Els (Lv F B ob i) q.2.2.2) w q.2.2.1 t.attrs∧∃ ps,KG (Lv F B ob i) (8-i) w q.2.2.2 t.kids ps
theorem y4 {α:Type}{l:List α}{x:α}{i:Nat}(h:l[i]?=some x):i<l.length:=by
 rcases Nat.lt_or_ge i l.length with h'|h'
 · exact h'
 · rw[List.getElem?_eq_none h']at h;cases h
theorem ys {F F':Nat→Nat}{B ob ob' i n:Nat}{w w':World}{va vk:Value}{al:List (ByteArray × ByteArray)}{us:List Tr}
 (h:qf (Els (Lv F B ob i) vk) w va al∧∃ ps,KG (Lv F B ob i) n w vk us ps) (hw:∀ b,F b=i→b≠ob→B≤b→b<w.heap.size→F' b=i∧b≠ob'∧w'.heap[b]?=w.heap[b]?) :
 qf (Els (Lv F' B ob' i) vk) w' va al∧∃ ps,KG (Lv F' B ob' i) n w' vk us ps:=by
 obtain ⟨ha,ps,hk⟩:=h;refine ⟨ha.bounded.carry fun b hb=>?_,ps,hk.carry fun b hb hlt=>?_⟩
 · obtain ⟨⟨⟨h1, h2, h3⟩, h4⟩, h5⟩ := hb;obtain ⟨a,b,c⟩:=hw b h1 h2 h3 h5;exact ⟨⟨⟨a,b,h3⟩,h4⟩,c⟩
 · obtain ⟨h1, h2, h3⟩ := hb;obtain ⟨a,b,c⟩:=hw b h1 h2 h3 hlt;exact ⟨⟨a,b,h3⟩,c⟩
def fresh (F:Nat→Nat)(N:Nat)(b:Nat):Nat:=if b<N then F b else 99
theorem Stk.later {F:Nat→Nat}{B:Nat}{w w':World}{v:Value}{ob:Nat}{ss:List Tr}{qs:List (Bool × ByteArray × Value × Value)}(h:Stk F B w v ob ss qs)(hb:Below w.heap.size w w'):Stk (fresh F w.heap.size) B w' v ob ss qs :=
 ⟨h.len,zq h.own hb,h.at_,h.few,fun i q t hq ht=>by
  obtain ⟨a,b,c⟩:=h.each i q t hq ht;exact ⟨a,b,ys c fun b h1 h2 _ h4=>⟨by unfold fresh;rw[if_pos h4];exact h1,h2,hb.block b h4⟩⟩⟩
def jb (F:Nat→Nat)(N i:Nat)(b:Nat):Nat:=if b<N∧F b≠99 then F b else i
theorem Stk.add {F:Nat→Nat}{B:Nat}{w w':World}{v v':Value}{ob cap:Nat}{ss:List Tr}{T k:Tr}{qs ps:List (Bool × ByteArray × Value × Value)}{q p:Bool × ByteArray × Value × Value}{Q:Nat→Prop}
 (h:Stk F B w v ob (ss++[T]) (qs++[q])) (hv:v=.slice (some ⟨ob,0,none⟩) (ss.length+1) cap) (hK:KG (Lv F B ob ss.length) (8-ss.length) w q.2.2.2 T.kids ps)
 (hown:w'.ownsRow 0 25 4 v' (T.kids.length+1) (quadCells ps++[.bool p.1,.string p.2.1,p.2.2.1,p.2.2.2]))
 (hg:w.grownBy w' q.2.2.2.ownBlock) (hat:v'.ownBlock=q.2.2.2.ownBlock∨v'.ownBlock=some w.heap.size) (hB:B≤w.heap.size) (hQ:∀ b,Q b→b<w.heap.size→F b=99∧b≠ob∧B≤b)
 (h1:p.1=k.text) (h2:p.2.1=k.s) (ha:qf Q w p.2.2.1 k.attrs) (hk:qb Q w (8-ss.length) p.2.2.2 k.kids) :
 Stk (jb F w.heap.size ss.length) B (w'.setCell ⟨ob,ss.length*4+3,none⟩ v') v ob (ss++[{ T with kids:=T.kids++[k] }]) (qs++[(q.1,q.2.1,q.2.2.1,v')]):=by
 have hl:qs.length=ss.length:=by have:=h.len;simp at this;exact this
 have hf:ss.length≤8:=by have:=h.few;simp at this;omega
 have hob:ob<w.heap.size:=(h.own.lt ob h.at_).2;have hkob:q.2.2.2.ownBlock≠some ob:=fun e=>(hK.at_ ob e).2.1 rfl
 have hnb:w.heap.size≠ob:=by omega
 have hv'ob:v'.ownBlock≠some ob:=by
  rcases hat with e|e
  · rw[e];exact hkob
  · rw[e];intro e';cases e';exact hnb rfl
 have hset:∀ b,b≠ob→(w'.setCell ⟨ob,ss.length*4+3,none⟩ v').heap[b]?=w'.heap[b]?:=fun b hb=>heap_setCell_other w' _ b _ hb
 have ho1:w'.ownsRow B 25 4 v (ss++[T]).length (quadCells (qs++[q])):=qE h.own (fun g hg'=>by
  rw[h.at_]at hg';cases hg'
  exact hg.block _ hob (fun e=>hkob e.symm))
 have hK':=KG.snoc (P':=Lv (jb F w.heap.size ss.length) B ob ss.length) (t:=k) (q:=p) hK hown hg hat (fun b hb hlt=>⟨by unfold jb;rw[if_pos ⟨hlt,by rw[hb.1];omega⟩];exact hb.1,hb.2⟩) (fun b hb hlt=>by
  obtain ⟨a1,a2,a3⟩:=hQ b hb hlt;refine ⟨⟨by unfold jb;rw[if_neg (by rw[a1];simp)],a2,a3⟩,fun e=>?_⟩
  have:=(hK.at_ b e).1;omega) ⟨by unfold jb;rw[if_neg (by omega)],hnb,hB⟩ h1 h2 ha hk
 refine ⟨by simp[hl],?_,h.at_,by have:=h.few;simpa using this,fun i q' t' hq ht=>?_⟩
 · subst hv;have:=(World.ownsRow.stored (n:=ss.length+1) (xs:=quadCells (qs++[q])) (by simpa using ho1) (ss.length*4+3) v').1
   rw[List.length_append,List.length_singleton];rw[qQ]at this ⊢
   have e:quadCells qs++quadCells [(q.1,q.2.1,q.2.2.1,v')]=(quadCells qs++quadCells [q]).set (ss.length*4+3) v':=by
    rw[List.set_append_right _ _ (by rw[qC,hl];omega),qC,hl,Nat.add_sub_cancel_left]
    rfl
   rw[e];exact this
 · rcases zX hq with ⟨hi, hq⟩ | ⟨hi, rfl⟩
   · rcases zX ht with ⟨_, ht⟩ | ⟨hi', _⟩
     · obtain ⟨a, b, c⟩ := h.each i q' t' (by rw[List.getElem?_append_left hi];exact hq) (by rw[List.getElem?_append_left (by omega)];exact ht)
       refine ⟨a,b,ys c fun b h1 h2 h3 h4=>⟨by unfold jb;rw[if_pos ⟨h4,by omega⟩];exact h1,h2,?_⟩⟩
       rw[hset b h2];exact hg.block b h4 (fun e=>by have:=(hK.at_ b e.symm).1;omega)
     · exfalso;omega
   · rcases zX ht with ⟨hi', _⟩ | ⟨_, rfl⟩
     · exfalso;omega
     · obtain ⟨a, b, c, _⟩ := h.each i q T (by rw[List.getElem?_append_right (by omega), hi, Nat.sub_self];rfl) (by rw[List.getElem?_append_right (by omega), hi, hl, Nat.sub_self];rfl)
       rw[hl]at hi
       subst hi;refine ⟨a,b,c.bounded.carry fun b hb=>?_,ps++[p],hK'.carry fun b hb _=>⟨hb,hset b hb.2.1⟩⟩
       obtain ⟨⟨⟨h1,h2,h3⟩,h4⟩,h5⟩:=hb;refine ⟨⟨⟨by unfold jb;rw[if_pos ⟨h5,by omega⟩];exact h1,h2,h3⟩,?_⟩,?_⟩
       · show v'.ownBlock ≠ some b
         rcases hat with e|e
         · rw[e];exact h4
         · rw[e];intro e';cases e';omega
       · rw[hset b h2];exact hg.block b h5 (fun e=>h4 e.symm)
theorem Stk.push {F:Nat→Nat}{B:Nat}{w w':World}{v v':Value}{ob:Nat}{ss:List Tr}{qs:List (Bool × ByteArray × Value × Value)}{nm:ByteArray}{va:Value}{al:List (ByteArray × ByteArray)}{Q:Nat→Prop}
 (h:Stk F B w v ob ss qs) (hf:ss.length≤8) (hown:w'.ownsRow B 25 4 v' (ss.length+1) (quadCells qs++[.bool false,.string nm,va,.slice none 0 0]))
 (hg:w.grownBy w' v.ownBlock) (hat:v'.ownBlock=v.ownBlock∨v'.ownBlock=some w.heap.size) (hQ:∀ b,Q b→b<w.heap.size→F b=99∧b≠ob∧B≤b)
 (ha:qf Q w va al):∃ ob',Stk (jb F w.heap.size ss.length) B w' v' ob' (ss++[⟨false,nm,al,[]⟩]) (qs++[(false,nm,va,.slice none 0 0)]):=by
 have hob:ob<w.heap.size:=(h.own.lt ob h.at_).2;have hl:=h.len
 obtain ⟨ob',he⟩:∃ ob',v'.ownBlock=some ob':=by
  rcases hat with e|e
  · exact ⟨ob,by rw[e];exact h.at_⟩
  · exact ⟨_,e⟩
 have hne:∀ b,b<w.heap.size→b≠ob→b≠ob'∧w'.heap[b]?=w.heap[b]?:=by
  intro b hb hbo;refine ⟨?_,hg.block b hb (fun e=>by rw[h.at_]at e;cases e;exact hbo rfl)⟩
  rcases hat with e|e
  · rw[e,h.at_]at he;cases he;exact hbo
  · rw[e]at he;cases he;omega
 refine ⟨ob',by simp[hl],by rw[qQ,List.length_append];exact hown,he,by simp;omega,fun i q' t' hq ht=>?_⟩
 rcases zX hq with ⟨hi,hq⟩|⟨hi,rfl⟩
 · rcases zX ht with ⟨_, ht⟩ | ⟨hi', _⟩
   · obtain ⟨a, b, c⟩ := h.each i q' t' hq ht;exact ⟨a,b,ys c fun b h1 h2 h3 h4=>⟨by unfold jb;rw[if_pos ⟨h4,by omega⟩];exact h1,hne b h4 h2⟩⟩
   · exfalso;omega
 · rcases zX ht with ⟨hi', _⟩ | ⟨_, rfl⟩
   · exfalso;omega
   · rw[hl]at hi
     subst hi;refine ⟨rfl,rfl,ha.bounded.carry fun b hb=>?_,[],KG.nil _ _ _⟩
     obtain ⟨a1,a2,a3⟩:=hQ b hb.1 hb.2;exact ⟨⟨⟨by unfold jb;rw[if_neg (by rw[a1];simp)],(hne b hb.2 a2).1,a3⟩,by simp[Value.ownBlock]⟩,(hne b hb.2 a2).2⟩
def Qq (F:Nat→Nat)(i:Nat)(b:Nat):Nat:=if F b=i then 99 else F b
theorem Stk.pop {F:Nat→Nat}{B:Nat}{w:World}{ob cap:Nat}{ss:List Tr}{T:Tr}{qs:List (Bool × ByteArray × Value × Value)}{q:Bool × ByteArray × Value × Value}
 (h:Stk F B w (.slice (some ⟨ob,0,none⟩) (ss.length+1) cap) ob (ss++[T]) (qs++[q])) :
 Stk (Qq F ss.length) B w (.slice (some ⟨ob,0,none⟩) ss.length cap) ob ss qs∧q.1=T.text∧q.2.1=T.s ∧
  qf (fun b=>Qq F ss.length b=99∧b≠ob∧B≤b) w q.2.2.1 T.attrs∧qb (fun b=>Qq F ss.length b=99∧b≠ob∧B≤b) w (8-ss.length+1) q.2.2.2 T.kids:=by
 have hl:qs.length=ss.length:=by have:=h.len;simp at this;exact this
 refine ⟨⟨hl,?_,rfl,by have:=h.few;simp at this;omega,fun i q' t' hq ht=>?_⟩,?_⟩
 · rcases h.own with ⟨h1, ⟨h2, _⟩ | ⟨g, cap', cur, hv, hB, hh, hc, hm, hsz, ht⟩⟩
   · cases h2
   · simp only[List.length_append, List.length_singleton, Value.slice.injEq, Option.some.injEq, Addr.mk.injEq, and_true, true_and]at hv
     obtain ⟨rfl,rfl⟩:=hv;refine ⟨by rw[qC,hl],Or.inr ⟨ob,cap,cur,rfl,hB,hh,by simp at hc;omega,hm,hsz,?_⟩⟩
     have e:=congrArg (List.take (ss.length*4)) ht;rw[List.take_take,qQ,List.take_append_of_le_length (by rw[qC,hl];exact nR9 _),List.take_of_length_le (l:=quadCells qs) (by rw[qC,hl];exact nR9 _),Nat.min_eq_left (by simp;omega)]at e
     exact e
 · have hi := y4 hq;obtain ⟨a,b,c⟩:=h.each i q' t' (by rw[List.getElem?_append_left hi];exact hq) (by rw[List.getElem?_append_left (by omega)];exact ht)
   exact ⟨a,b,ys c fun b h1 h2 h3 h4=>⟨by unfold Qq;rw[if_neg (by omega)];exact h1,h2,rfl⟩⟩
 · obtain ⟨a, b, c, ps, d⟩ := h.each ss.length q T (by rw[List.getElem?_append_right (by omega), hl, Nat.sub_self];rfl) (by rw[List.getElem?_append_right (by omega), Nat.sub_self];rfl)
   have hs:∀ b,Lv F B ob ss.length b→(Qq F ss.length b=99∧b≠ob∧B≤b):=fun b hb=>⟨by unfold Qq;rw[if_pos hb.1],hb.2⟩
   exact ⟨a,b,c.carry fun b hb=>⟨hs b hb.1,rfl⟩,qb.carry (fun b hb=>⟨hs b hb,rfl⟩) _ d.done⟩
theorem qb.pred {S:Nat→Prop}{w:World}{m:Nat}{v:Value}{ts:List Tr}(h:qb S w m v ts):qb S w (m.pred+1) v ts:=by
 cases m with
 | zero=>exact qb.deeper 0 h
 | succ m=>exact h
theorem qb.back {S:Nat→Prop}{w:World}{m:Nat}{v:Value}{ts:List Tr}(h:qb S w (m.pred+1) v ts)(hd:Deep m ts):qb S w m v ts:=by
 cases m with
 | zero =>
   have:ts=[]:=hd;subst this;obtain ⟨a,c,e,_,hc⟩:=qb.shape 1 h;exact ⟨rfl,a,c,e,hc⟩
 | succ m=>exact h
theorem xU (S:Nat→Prop)(n:Nat)(va vk:Value)(t:Tr)(w:World)(h:qf S w va t.attrs)(hk:qb S w n vk t.kids)(hc:cnt (n+1) [t]≤1048576) :
 Calls Tryz.prog 37 #[.agg #[.bool t.text,.string t.s,va,vk]] w fun e w'=>e=.returned (.tuple #[.int .i64 (dep (n+1) [t]:Int),.int .i64 (cnt (n+1) [t]:Int)])∧Below w.heap.size w w':=by
 obtain ⟨aa,ac,rfl⟩:=h.shape;obtain ⟨ka,kc,rfl,_,_⟩:=qb.shape n hk;have hb:∀ X Y,Below w.heap.size w ((w.alloc X).alloc Y):=fun X Y=>(Below.alloc1 w X).alloc (by simp) Y
 have hT:qb (fun _=>True) ((w.alloc (.cells #[.bool t.text,.string t.s,.slice aa t.attrs.length ac,.slice ka t.kids.length kc] 25)).alloc (.cells #[.bool t.text,.string t.s,.slice aa t.attrs.length ac,.slice ka t.kids.length kc] 25)) (n+1) (.slice (some ⟨w.heap.size+1,0,none⟩) 1 1) [t]:=by
  refine qb.carry (fun b _=>⟨trivial,rfl⟩) (n+1) (qb.of_block (S:=S) (e:=25) (fz:=(0,0)) (qs:=[(t.text,t.s,.slice aa t.attrs.length ac,.slice ka t.kids.length kc)]) ?_ rfl rfl rfl (nR9 _) (by unfold maxLen;simp) ?_)
  · have := heap_alloc_new (w.alloc (.cells #[.bool t.text, .string t.s, .slice aa t.attrs.length ac, .slice ka t.kids.length kc] 25)) (.cells #[.bool t.text, .string t.s, .slice aa t.attrs.length ac, .slice ka t.kids.length kc] 25);rw[World.size_alloc]at this
    exact this
  · intro i q t' hq ht';cases i with
    | zero =>
      simp at hq ht'
      subst hq ht';exact ⟨rfl,rfl,h.later (hb _ _),qb.later (hb _ _) n hk⟩
    | succ i=>simp at ht'
 have HT:Hid _:=hT;have HB:Hid (∀ X Y,Below w.heap.size w ((w.alloc X).alloc Y)):=hb;clear hT hb h hk;obtain ⟨D,hD⟩:∃ D,dep (n+1) [t]=D:=⟨_,rfl⟩;obtain ⟨C,hC⟩:∃ C,cnt (n+1) [t]=C:=⟨_,rfl⟩;rw[hD,hC];rw[hC]at hc
 have HD:Hid (dep (n+1) [t]=D):=hD;have HC:Hid (cnt (n+1) [t]=C):=hC;clear hD hC;have hDC:D≤1048576:=by have:=dep_cnt (n+1) [t];rw[HD.out,HC.out]at this;omega
 go_enter Tryz.func37,Tryz.ntmps37
 go_wp2_with fail
 go_loopg [4,5,6] (n+1) (fun g d c v wr=>∃ (dd cc:Nat) (lv:List Tr),d=.int .i64 (dd:Int)∧c=.int .i64 (cc:Int)∧qb (fun _=>True) wr g v lv∧dd+dep g lv=D∧cc+cnt g lv=C∧Below w.heap.size w wr)
 case atStart => exact ⟨0,0,[t],rfl,rfl,HT,by rw[HD.out];omega,by rw[HC.out];omega,HB _ _⟩
 case round =>
  obtain ⟨dd,cc,lv,rfl,rfl,hlv,hd,hcn,hB⟩:=hrel;have hsz:=hB.size
  by_cases hne:lv=[]
  · subst hne;rw[zu]at hd
    rw[q8]at hcn
    obtain ⟨la,lc,rfl,_,_⟩:=qb.shape _ hlv;have hd':dd=D:=by omega
    have hc':cc=C:=by omega
    subst hd' hc';clear hlv HT HD HC;simp only[List.length_nil];go_wp2_with fail
    go_ret2
    exact ⟨rfl,hB⟩
  · cases gk with
    | zero=>exact absurd hlv.1 hne
    | succ m =>
      obtain ⟨wo,hwo⟩:∃ x,x=wr:=⟨_,rfl⟩;subst hwo;rw[Js m lv hne]at hd
      rw[ZW m lv]at hcn
      have hdeep:Deep m (nx lv):=(qb.deep (m+1) hlv).nx;have hlen:=hdeep.len;have HDp:Hid (Deep m (nx lv)):=hdeep;have hlv':=qb.bounded (m+1) hlv;obtain ⟨la,lc,rfl,hlc,hlm⟩:=qb.shape _ hlv;obtain ⟨_,_,hve,_,_,h4⟩:=hlv';have hl0:0<lv.length:=List.length_pos_iff.2 hne;obtain ⟨b,o,hao,hs,hcc⟩:=h4 hne
      injection hve with e1 e2 e3
      subst e1;subst hao;have Hd:Hid (dd+(1+dep m (nx lv))=D):=hd;have Hc:Hid (cc+(lv.length+cnt m (nx lv))=C):=hcn;have HCC:Hid _:=hcc;have hcb:cc+lv.length≤1048576:=by omega
      have hdb:dd≤1048576:=by omega
      have hnb:(nx lv).length≤1048576:=by omega
      clear hdeep h4 e2 hd hcn hcc hlen hs e3 HT HD HC hlv;unfold maxLen at hlm
      go_wp2_with fail
      go_loopg [7,23] lv.length (fun g v i wr=>∃ (k:Nat) (qs:List (Bool × ByteArray × Value × Value)),k+g=lv.length∧i=.int .i64 k∧zF (fun b=>b<wo.heap.size) m.pred wo.heap.size wr v (nx (lv.take k)) qs∧Below wo.heap.size wo wr)
      case atStart => exact ⟨0,[],by omega,rfl,zF.nil _ _ _ _,Below.refl _ _⟩
      case round =>
       obtain ⟨k,qs,hk,rfl,hG,hBq⟩:=hrel;have hszq:=hBq.size
       by_cases hlt:k<lv.length
       · obtain ⟨x, hx⟩ : ∃ x, lv[k]? = some x := ⟨lv[k], by simp[hlt]⟩
         obtain ⟨va,vk,c0,c1,c2,c3,hat,hkt⟩:=HCC.out k x hx;obtain ⟨xa,xc,rfl⟩:=hat.shape;obtain ⟨ya,yc,rfl,_,_⟩:=qb.shape m hkt;have hbl:b<wo.heap.size:=World.block_lt_of_cell? wo _ c0;rw[←hBq.cell (p:=⟨b,o+k*4,none⟩) hbl]at c0
         rw[←hBq.cell (p:=⟨b,o+k*4+1,none⟩) hbl]at c1
         rw[←hBq.cell (p:=⟨b,o+k*4+2,none⟩) hbl]at c2
         rw[←hBq.cell (p:=⟨b,o+k*4+3,none⟩) hbl]at c3
         have hsn:nx (lv.take (k+1))=nx (lv.take k)++x.kids:=by
          have e:lv.take (k+1)=lv.take k++[x]:=by
           rw[List.take_succ_eq_append_getElem hlt];congr 2;simpa[hlt] using hx
          rw[e,QB,jJ,nx_nil,List.append_nil]
         have HS:Hid (nx (lv.take (k+1))=nx (lv.take k)++x.kids):=hsn
         have hle:(nx (lv.take k)++x.kids).length≤1048576:=by
          rw[←hsn];have e:nx lv=nx (lv.take (k+1))++nx (lv.drop (k+1)):=by rw[←QB,List.take_append_drop]
          rw[e,List.length_append]at hnb
          omega
         rw[List.length_append]at hle
         have hblq:b<wr.heap.size:=by omega
         have hG1:=hG.later (Below.alloc1 wr (.cells #[.bool x.text,.string x.s,.slice xa x.attrs.length xc,.slice ya x.kids.length yc] 25));have hB1:Below wo.heap.size wo (wr.alloc (.cells #[.bool x.text,.string x.s,.slice xa x.attrs.length xc,.slice ya x.kids.length yc] 25)):=hBq.alloc hszq _;have hK1:=(qb.later hB1 m hkt).pred;obtain ⟨us,hus⟩:∃ us,nx (lv.take k)=us:=⟨_,rfl⟩;rw[hus]at hG1 hle HS hG
         obtain ⟨ja,jc,rfl⟩:=hG1.shape;clear hx hsn hus hG hat hkt;go_wp2_with (at_builtin;refine jj rfl _ _ rfl (fun b=>b<wo.heap.size) _ m.pred wo.heap.size _ _ us x.kids qs rfl hG1 rfl hK1 ?qc1 hle ?qc2 ?_)
         case qc1 =>
          intro b hb;refine ⟨Or.inl hb.2,Nat.lt_of_lt_of_le hb.2 (by simp;omega),fun e=>?_⟩
          have:=(hG1.own.lt b e).1;have:=hb.2;omega
         case qc2 => simp;omega
         intro v' w2 qs' hG2 hb2;have hB2:Below wo.heap.size wo w2:=hB1.trans hb2;go_wp2_with fail
         go_roundg (lv.length-(k+1))
         case measure => omega
         case rel => exact ⟨k+1,qs',by omega,by go_num,by rw[HS.out];exact hG2,hB2⟩
       · have hkk : k = lv.length := by omega
         subst hkk;rw[List.take_length]at hG
         have hT2:qb (fun _=>True) wr m _ (nx lv):=qb.carry (fun b _=>⟨trivial,rfl⟩) m (hG.done.back HDp.out)
         have hBw:Below w.heap.size w wr:=hB.trans (hBq.mono hsz);go_wp2_with fail
         go_roundg m
         case measure => omega
         case rel => exact ⟨dd+1,cc+lv.length,nx lv,by go_num,by go_num,hT2,by have:=Hd.out;omega,by have:=Hc.out;omega,hBw⟩
theorem data_append (a b:ByteArray):(a++b).data.toList=a.data.toList++b.data.toList:=by
 rw[ByteArray.data_append];simp
theorem Bd.str {B b:Nat}{l m:List UInt8}{s:ByteArray}{v:Value}{w:World}(h:Bd B b (Lib.byteCells l++Lib.strCells s) v w)(hs:s.data.toList=m):Bd B b (Lib.byteCells (l++m)) v w:=by
 rw[Lib.byteCells_append,←hs];exact h
theorem xE (v:Bool)(l:List UInt8):l.length≤(qv v l).length:=by
 induction l with
 | nil=>simp
 | cons c r ih =>
   have h1:1≤(zc v c).length:=by
    unfold zc
    split
    · simp
    split
    · simp
    split
    · simp
    split
    · simp
    · simp
   have h2:(qv v (c::r)).length=(zc v c).length+(qv v r).length:=by simp[qv]
   rw[h2,List.length_cons];omega
theorem ye (s:ByteArray):s.data.toList.length=s.size:=rfl
theorem BFr.cell {B b:Nat}{v v':Value}{w w':World}(h:BFr B b v w v' w'){x o:Nat}(hx:x<w.heap.size)(hb:x≠b)(hv:v.ownBlock≠some x):w'.cell? ⟨x,o,none⟩=w.cell? ⟨x,o,none⟩ :=
 World.cell?_of_block (a:=⟨x,o,none⟩) (h.frame x hx hb hv)
def jw (n:Nat):Prop:=∀ (S:Nat→Prop)(B b:Nat)(bs:List UInt8)(bv:Value)(va vk:Value)(t:Tr)(w:World),(∀ x,S x→x<w.heap.size∧x≠b∧bv.ownBlock≠some x)→qf S w va t.attrs→qb S w n vk t.kids→Bd B b (Lib.byteCells bs) bv w→qu w→0<B→B≤w.heap.size→bs.length+6*(qH (showL n t.kids) t).length≤1099511627776 →
 Calls Tryz.prog 70 #[.pointer (some ⟨b,0,none⟩),.agg #[.bool t.text,.string t.s,va,vk]] w fun e w'=>e=.returned (.tuple #[])∧∃ bv',Bd B b (Lib.byteCells (bs++qH (showL n t.kids) t)) bv' w'∧BFr B b bv w bv' w'
theorem Qs (l:List (ByteArray × ByteArray))(x:ByteArray × ByteArray):(l++[x]).flatMap qk=l.flatMap qk++qk x:=by simp
theorem J3 {l:List (ByteArray × ByteArray)}{k:Nat}:((l.take k).flatMap qk).length≤(l.flatMap qk).length:=by
 have e:l.flatMap qk=(l.take k).flatMap qk++(l.drop k).flatMap qk:=by rw[←List.flatMap_append,List.take_append_drop]
 rw[e,List.length_append];omega
theorem Xd {n:Nat}{l:List Tr}{k:Nat}:(showL (n+1) (l.take k)).length≤(showL (n+1) l).length:=by
 have e:showL (n+1) l=showL (n+1) (l.take k)++showL (n+1) (l.drop k):=by unfold showL;rw[←List.flatMap_append,List.take_append_drop]
 rw[e,List.length_append];omega
theorem Ql (x:ByteArray × ByteArray):(qk x).length=1+x.1.size+2+(qv true x.2.data.toList).length+1:=by
 simp[qk];omega
theorem Yd (n:Nat)(S:Nat→Prop)(B b:Nat)(bs:List UInt8)(bv:Value)(va vk:Value)(s:ByteArray)(l:List (ByteArray × ByteArray))(ks:List Tr)(w:World)(hA:qf S w va l)(hK:qb S w n vk ks)(hBd:Bd B b (Lib.byteCells bs) bv w)(hM:qu w)(hgB:0<B)(hBw:B≤w.heap.size)
 (hlen:bs.length+6*(qv false s.data.toList).length≤1099511627776) :
 Calls Tryz.prog 70 #[.pointer (some ⟨b,0,none⟩),.agg #[.bool true,.string s,va,vk]] w fun e w'=>e=.returned (.tuple #[])∧∃ bv',Bd B b (Lib.byteCells (bs++qv false s.data.toList)) bv' w'∧BFr B b bv w bv' w':=by
 obtain ⟨aa,ac,rfl⟩:=hA.shape;obtain ⟨ka,kc,rfl,_,hkm⟩:=qb.shape n hK;have hb1:=Below.alloc1 w (.cells #[.bool true,.string s,.slice aa l.length ac,.slice ka ks.length kc] 25);have HC:Hid _:=yT false B b bs s bv (w.alloc (.cells #[.bool true,.string s,.slice aa l.length ac,.slice ka ks.length kc] 25)) (hBd.later hb1) (hM.later hb1 hM.lt) hgB (by simp;omega) (by have:=xE false s.data.toList;rw[ye]at this;omega)
 have HF1:Hid (BFr B b bv w bv (w.alloc (.cells #[.bool true,.string s,.slice aa l.length ac,.slice ka ks.length kc] 25))):=BFr.later hBw hb1;clear hA hK hM hBd
 go_enter Tryz.func70,Tryz.ntmps70
 go_wp2_with fail;refine (Calls.mono HC.out ?_);rintro e w2 ⟨rfl,bv2,hBd2,hF2⟩;go_wp2_with fail
 go_returns
 exact ⟨rfl,bv2,hBd2,HF1.out.trans hF2⟩
set_option maxHeartbeats 2000000 in
theorem Yc (n:Nat)(ih:∀ m,n=m+1→jw m)(S:Nat→Prop)(B b:Nat)(bs:List UInt8)(bv:Value)(va vk:Value)(s:ByteArray)(l:List (ByteArray × ByteArray))(ks:List Tr)(w:World)(hS:∀ x,S x→x<w.heap.size∧x≠b∧bv.ownBlock≠some x)(hA:qf S w va l)(hK:qb S w n vk ks)(hBd:Bd B b (Lib.byteCells bs) bv w)(hM:qu w)(hgB:0<B)(hBw:B≤w.heap.size)
 (hlen:bs.length+6*(qH (showL n ks) ⟨false,s,l,ks⟩).length≤1099511627776) :
 Calls Tryz.prog 70 #[.pointer (some ⟨b,0,none⟩),.agg #[.bool false,.string s,va,vk]] w fun e w'=>e=.returned (.tuple #[])∧∃ bv',Bd B b (Lib.byteCells (bs++qH (showL n ks) ⟨false,s,l,ks⟩)) bv' w'∧BFr B b bv w bv' w':=by
 have HIH:Hid (∀ m,n=m+1→jw m):=ih;have HS:Hid (∀ x,S x→x<w.heap.size∧x≠b∧bv.ownBlock≠some x):=hS;have HA:Hid (qf S w va l):=hA;have HK:Hid (qb S w n vk ks):=hK;have HM:Hid (qu w):=hM;have hblt:=hBd.lt;have HROW:Hid (∀ x,bv.ownBlock=some x→x<w.heap.size):=hBd.rowLt
 have hL1:bs.length+6*(1+s.size+(l.flatMap qk).length+2)≤1099511627776:=by
  have:1+s.size+(l.flatMap qk).length+2≤(qH (showL n ks) ⟨false,s,l,ks⟩).length:=by
   simp only[qH,Bool.false_eq_true,if_false,List.length_append,List.length_cons,ye];cases ks with
   | nil=>simp;omega
   | cons k r=>simp;omega
  omega
 obtain ⟨aa,ac,rfl⟩:=hA.shape;obtain ⟨ka,kc,rfl,_,hkm⟩:=qb.shape n hK;obtain ⟨_,_,hae,_,ham,hacells⟩:=hA
 injection hae with hae1 _ hac
 subst hac;subst hae1;have HAC:Hid (l≠[]→∃ b o,aa=some ⟨b,o,none⟩∧S b∧∀ i x,l[i]?=some x→w.cell? ⟨b,o+i*2,none⟩=some (.string x.1)∧w.cell? ⟨b,o+i*2+1,none⟩=some (.string x.2)):=hacells;unfold maxLen at hkm ham
 have hb1:=Below.alloc1 w (.cells #[.bool false,.string s,.slice aa l.length ac,.slice ka ks.length kc] 25);have hX1:=xo.start w (.bool false) (.string s) (.slice aa l.length ac) (.slice ka ks.length kc) 25;have hsz1:(w.alloc (.cells #[.bool false,.string s,.slice aa l.length ac,.slice ka ks.length kc] 25)).heap.size=w.heap.size+1:=by simp
 have HBd1:Hid (Bd B b (Lib.byteCells bs) bv (w.alloc (.cells #[.bool false,.string s,.slice aa l.length ac,.slice ka ks.length kc] 25))):=hBd.later hb1;have hs40:s.size≤1099511627776:=by omega
 clear ih hS hK hM hBd hacells
 go_enter Tryz.func70,Tryz.ntmps70
 go_wp2_with fail;have HL0:Hid (qH (showL n ks) ⟨false,s,l,ks⟩=60::s.data.toList++l.flatMap qk++(if ks.isEmpty then [47,62] else 62::showL n ks++[60,47]++s.data.toList++[62])):=rfl
 generalize w.alloc (.cells #[.bool false,.string s,.slice aa l.length ac,.slice ka ks.length kc] 25)=W1 at hb1 hX1 hsz1 HBd1 ⊢
 have hBW1:B≤W1.heap.size:=by omega
 have HB1:Hid (Below w.heap.size w W1):=hb1;have HX1:Hid (xo W1 w.heap.size (.bool false) (.string s) (.slice aa l.length ac) (.slice ka ks.length kc)):=hX1
 have HBX:Hid (∀ v' w',BFr B b bv W1 v' w'→w'.cell? ⟨w.heap.size,1,none⟩=some (.string s)∧w'.cell? ⟨w.heap.size,2,none⟩=some (.slice aa l.length ac)∧w'.cell? ⟨w.heap.size,3,none⟩=some (.slice ka ks.length kc)):=by
  intro v' w' hF;have h1:w.heap.size<W1.heap.size:=by omega
  have h2:w.heap.size≠b:=by omega
  have h3:bv.ownBlock≠some w.heap.size:=fun e=>by have:=HROW.out _ e;omega
  exact ⟨by rw[hF.cell h1 h2 h3];exact HX1.out.at1,by rw[hF.cell h1 h2 h3];exact HX1.out.at2,by rw[hF.cell h1 h2 h3];exact HX1.out.at3⟩
 have HKEEP:Hid (∀ v' w',BFr B b bv W1 v' w'→∀ x,S x→w'.heap[x]?=w.heap[x]?):=by
  intro v' w' hF x hx;obtain ⟨h1,h2,h3⟩:=HS.out x hx;rw[hF.frame x (by omega) h2 h3,HB1.out.block x h1]
 have HMK:Hid (∀ v' w',BFr B b bv W1 v' w'→qu w'):=fun v' w' hF=>(HM.out.later HB1.out HM.out.lt).later hF.below hgB
 have HF0:Hid (BFr B b bv w bv W1):=BFr.later hBw hb1
 have hw1:=zn B b (Lib.byteCells bs) bv (⟨#[60]⟩++s) W1 HBd1.out (by
  rw[Lib.byteCells_length,ByteArray.size_append]
  show bs.length+(1+s.size)≤_
  omega) hBW1
 refine (Calls.mono hw1 ?_);rintro e w2 ⟨rfl,bv2,hBd2,hF2⟩;have HBd2:Hid (Bd B b (Lib.byteCells (bs++60::s.data.toList)) bv2 w2):=hBd2.str (by rw[data_append];rfl)
 obtain ⟨_,y2,_⟩:=HBX.out _ _ hF2;clear hw1 hX1 hb1 hBd2 HBd1;go_wp2_with fail
 go_loopg [22] l.length (fun g i wr=>∃ (k:Nat) (bw:Value),k+g=l.length∧i=.int .i64 k∧Bd B b (Lib.byteCells (bs++60::s.data.toList++(l.take k).flatMap qk)) bw wr∧BFr B b bv W1 bw wr)
 case atStart => exact ⟨0,bv2,by omega,rfl,by simpa using HBd2.out,hF2⟩
 case round =>
  obtain ⟨k,bw,hk,rfl,hBdk,hFk⟩:=hrel;have HBdk:Hid (Bd B b (Lib.byteCells (bs++60::s.data.toList++(l.take k).flatMap qk)) bw wr):=hBdk;have HFk:Hid (BFr B b bv W1 bw wr):=hFk;have hszr:=hFk.below.size;clear hBdk hFk HBd2 hF2 y2
  by_cases hlt:k<l.length
  · have hne : l ≠ [] := by intro e;subst e;simp at hlt
    obtain ⟨ab,ao,rfl,hs,hcc⟩:=HAC.out hne;obtain ⟨x,hx⟩:∃ x,l[k]?=some x:=⟨l[k],by simp[hlt]⟩
    obtain ⟨c0,c1⟩:=hcc k x hx;have hkp:=HKEEP.out _ _ HFk.out ab hs;rw[←World.cell?_of_block (a:=⟨ab,ao+k*2,none⟩) hkp]at c0
    rw[←World.cell?_of_block (a:=⟨ab,ao+k*2+1,none⟩) hkp]at c1
    have hsn:l.take (k+1)=l.take k++[x]:=by
     rw[List.take_succ_eq_append_getElem hlt];congr 2;simpa[hlt] using hx
    have hq1:((l.take k).flatMap qk).length+(qk x).length≤(l.flatMap qk).length:=by
     have:=J3 (l:=l) (k:=k+1);rw[hsn,Qs,List.length_append]at this
     exact this
    rw[Ql]at hq1
    have hmm:=xE true x.2.data.toList;rw[ye]at hmm
    have HSN:Hid ((l.take (k+1)).flatMap qk=(l.take k).flatMap qk++qk x):=by show _=_;rw[hsn,Qs]
    have hlti:(k:Int)<(l.length:Int):=by omega
    have hx1:x.1.size≤1099511627776:=by omega
    have hbk:=Below.alloc1 wr (.cells #[.string x.1,.string x.2] 64);have HBdA:Hid (Bd B b (Lib.byteCells (bs++60::s.data.toList++(l.take k).flatMap qk)) bw (wr.alloc (.cells #[.string x.1,.string x.2] 64))):=HBdk.out.later hbk;have HFA:Hid (BFr B b bw wr bw (wr.alloc (.cells #[.string x.1,.string x.2] 64))):=BFr.later (by omega) hbk
    have hbx1:(wr.alloc (.cells #[.string x.1,.string x.2] 64)).cell? ⟨wr.heap.size,1,none⟩=some (.string x.2):=by simp
    have hszA:(wr.alloc (.cells #[.string x.1,.string x.2] 64)).heap.size=wr.heap.size+1:=by simp
    have hrk:=HBdk.out.rowLt;have hbw:b<wr.heap.size:=HBdk.out.lt;have hrn:bw.ownBlock≠some wr.heap.size:=fun e=>by have:=hrk _ e;omega
    have HRN:Hid (bw.ownBlock≠some wr.heap.size):=hrn;clear hcc hx hsn hkp hrk hrn hbk;go_wp2_with fail
    generalize wr.alloc (.cells #[.string x.1,.string x.2] 64)=WA at HBdA HFA hbx1 hszA ⊢
    have hl3:(Lib.byteCells (bs++60::s.data.toList++(l.take k).flatMap qk)).length=bs.length+(1+s.size)+((l.take k).flatMap qk).length:=by
     rw[Lib.byteCells_length];simp;omega
    have hw3:=zn B b _ bw (⟨#[32]⟩++x.1++⟨#[61,34]⟩) WA HBdA.out (by
     rw[hl3,ByteArray.size_append,ByteArray.size_append]
     show _+(1+x.1.size+2)≤_
     omega) (by omega)
    refine (Calls.mono hw3 ?_);rintro e w3 ⟨rfl,bv3,hBd3,hF3⟩;have HBd3:Hid (Bd B b (Lib.byteCells (bs++60::s.data.toList++(l.take k).flatMap qk++(32::x.1.data.toList++[61,34]))) bv3 w3):=hBd3.str (by rw[data_append,data_append];rfl)
    have z1:w3.cell? ⟨wr.heap.size,1,none⟩=some (.string x.2):=by rw[hF3.cell (by omega) (by omega) HRN.out];exact hbx1
    have HF3:Hid (BFr B b bv W1 bv3 w3):=HFk.out.trans (HFA.out.trans hF3);have hs3:=hF3.below.size;clear hw3 hBd3 hF3;go_wp2_with fail
    have hw4:=yT true B b _ x.2 bv3 w3 HBd3.out (HMK.out _ _ HF3.out) hgB (by omega) (by
     have e:(bs++60::s.data.toList++(l.take k).flatMap qk++(32::x.1.data.toList++[61,34])).length=bs.length+(1+s.size)+((l.take k).flatMap qk).length+(1+x.1.size+2):=by simp;omega
     rw[e];omega)
    refine (Calls.mono hw4 ?_);rintro e w4 ⟨rfl,bv4,hBd4,hF4⟩;have HBd4:Hid _:=hBd4;have HF4:Hid (BFr B b bv W1 bv4 w4):=HF3.out.trans hF4;have hs4:=hF4.below.size;clear hw4 hBd4 hF4;go_wp2_with fail
    have hw5:=zn B b _ bv4 ⟨#[34]⟩ w4 HBd4.out (by
     have e:(Lib.byteCells (bs++60::s.data.toList++(l.take k).flatMap qk++(32::x.1.data.toList++[61,34])++qv true x.2.data.toList)).length=bs.length+(1+s.size)+((l.take k).flatMap qk).length+(1+x.1.size+2)+(qv true x.2.data.toList).length:=by rw[Lib.byteCells_length];simp;omega
     rw[e]
     show _+1≤_
     omega) (by omega)
    refine (Calls.mono hw5 ?_);rintro e w5 ⟨rfl,bv5,hBd5,hF5⟩
    have HBd5:Hid (Bd B b (Lib.byteCells (bs++60::s.data.toList++(l.take (k+1)).flatMap qk)) bv5 w5):=by
     have h:=hBd5.str (m:=[34]) rfl
     show Bd _ _ _ _ _
     rw[HSN.out]
     simpa[qk] using h
    have HF5:Hid (BFr B b bv W1 bv5 w5):=HF4.out.trans hF5;clear hw5 hBd5 hF5;go_wp2_with fail
    go_roundg (l.length-(k+1))
    case measure => omega
    case rel => exact ⟨k+1,bv5,by omega,by go_num,HBd5.out,HF5.out⟩
  · have hkk : k = l.length := by omega
    subst hkk;have HBdE:Hid (Bd B b (Lib.byteCells (bs++60::s.data.toList++l.flatMap qk)) bw wr):=by have:=HBdk.out;rw[List.take_length]at this;exact this
    obtain ⟨wo,hwo⟩:∃ wo,wo=wr:=⟨_,rfl⟩;subst hwo;obtain ⟨y1,y2,y3⟩:=HBX.out _ _ HFk.out
    have hlE:(Lib.byteCells (bs++60::s.data.toList++l.flatMap qk)).length=bs.length+(1+s.size)+(l.flatMap qk).length:=by
     rw[Lib.byteCells_length];simp;omega
    clear HBdk
    by_cases hks:ks=[]
    · subst hks;simp only[List.length_nil]at y3
      have hw6:=zn B b _ bw ⟨#[47,62]⟩ wo HBdE.out (by rw[hlE];show _+2≤_;omega) (by omega)
      have HW6:Hid _:=hw6;clear hw6;go_wp2_with fail;refine (Calls.mono HW6.out ?_);rintro e w6 ⟨rfl,bv6,hBd6,hF6⟩;go_wp2_with fail
      go_returns
      refine ⟨rfl,bv6,?_,HF0.out.trans (HFk.out.trans hF6)⟩;have h:=hBd6.str (m:=[47,62]) rfl;rw[HL0.out]
      simpa using h
    · have hk0:((ks.length:Int)==0)=false:=by
       have:ks.length≠0:=fun e=>hks (List.eq_nil_of_length_eq_zero e)
       have:(ks.length:Int)≠0:=by omega
       simpa using this
      cases n with
      | zero=>exact absurd HK.out.1 hks
      | succ m =>
      have hemp:ks.isEmpty=false:=by cases ks with
       | nil=>exact absurd rfl hks
       | cons _ _=>rfl
      have HL2:Hid (bs.length+6*(1+s.size+(l.flatMap qk).length+(1+(showL (m+1) ks).length+2+s.size+1))≤1099511627776):=by
       show _≤_
       have e:(qH (showL (m+1) ks) ⟨false,s,l,ks⟩).length=1+s.size+(l.flatMap qk).length+(1+(showL (m+1) ks).length+2+s.size+1):=by
        rw[HL0.out,hemp];simp;omega
       rw[e]at hlen;exact hlen
      have hL2:=HL2.out;have hw6:=zn B b _ bw ⟨#[62]⟩ wo HBdE.out (by rw[hlE];show _+1≤_;omega) (by omega)
      have HW6:Hid _:=hw6;clear hw6;go_wp2_with fail;refine (Calls.mono HW6.out ?_);rintro e w6 ⟨rfl,bv6,hBd6,hF6⟩;have HBd6:Hid (Bd B b (Lib.byteCells (bs++60::s.data.toList++l.flatMap qk++[62])) bv6 w6):=hBd6.str (m:=[62]) rfl;have HF6:Hid (BFr B b bv W1 bv6 w6):=HFk.out.trans hF6;obtain ⟨_,_,y6⟩:=HBX.out _ _ HF6.out;clear HW6 hBd6 hF6 y1 y2 y3 HBdE;go_wp2_with fail
      go_loopg [50] ks.length (fun g i wr=>∃ (k:Nat) (bw:Value),k+g=ks.length∧i=.int .i64 k∧Bd B b (Lib.byteCells (bs++60::s.data.toList++l.flatMap qk++[62]++showL (m+1) (ks.take k))) bw wr∧BFr B b bv W1 bw wr)
      case atStart => exact ⟨0,bv6,by omega,rfl,by simpa[showL] using HBd6.out,HF6.out⟩
      case round =>
       obtain ⟨k,bx,hk2,rfl,hBdk,hFx⟩:=hrel;have HBdx:Hid (Bd B b (Lib.byteCells (bs++60::s.data.toList++l.flatMap qk++[62]++showL (m+1) (ks.take k))) bx wr):=hBdk;have HFx:Hid (BFr B b bv W1 bx wr):=hFx;have hszx:=hFx.below.size;clear hBdk hFx HBd6 y6
       by_cases hlt:k<ks.length
       · obtain ⟨_, _, hve, _, _, h4⟩ := HK.out;obtain ⟨kb,ko,hao,hs,hcc⟩:=h4 hks
         injection hve with e1 e2 e3
         subst e1;subst hao;obtain ⟨t,ht⟩:∃ t,ks[k]?=some t:=⟨ks[k],by simp[hlt]⟩
         obtain ⟨xa,xk,c0,c1,c2,c3,hat,hkt⟩:=hcc k t ht;have hkeep:=HKEEP.out _ _ HFx.out;have hkp:=hkeep kb hs;rw[←World.cell?_of_block (a:=⟨kb,ko+k*4,none⟩) hkp]at c0
         rw[←World.cell?_of_block (a:=⟨kb,ko+k*4+1,none⟩) hkp]at c1
         rw[←World.cell?_of_block (a:=⟨kb,ko+k*4+2,none⟩) hkp]at c2
         rw[←World.cell?_of_block (a:=⟨kb,ko+k*4+3,none⟩) hkp]at c3
         have hatr:qf S wr xa t.attrs:=qf.carry hat fun b hb=>⟨hb,hkeep b hb⟩
         have hktr:qb S wr m xk t.kids:=qb.carry (fun b hb=>⟨hb,hkeep b hb⟩) m hkt
         have hsn:ks.take (k+1)=ks.take k++[t]:=by
          rw[List.take_succ_eq_append_getElem hlt];congr 2;simpa[hlt] using ht
         have hq1:(showL (m+1) (ks.take k)).length+(qH (showL m t.kids) t).length≤(showL (m+1) ks).length:=by
          have:=Xd (n:=m) (l:=ks) (k:=k+1);rw[hsn,xT,List.length_append]at this
          exact this
         have HSN:Hid (showL (m+1) (ks.take (k+1))=showL (m+1) (ks.take k)++qH (showL m t.kids) t):=by show _=_;rw[hsn,xT]
         have hfree:∀ x,S x→x<wr.heap.size+1∧x≠b∧bx.ownBlock≠some x:=by
          intro x hx;obtain ⟨h1,h2,h3⟩:=HS.out x hx;exact ⟨by omega,h2,HFx.out.free (by omega) h3⟩
         have hbk:∀ o,Below wr.heap.size wr (wr.alloc o):=fun o=>Below.alloc1 wr o
         obtain ⟨ya,yc,rfl⟩:=hatr.shape;obtain ⟨yk,ykc,rfl,_,_⟩:=qb.shape m hktr
         have HCALL:Hid _:=HIH.out m rfl S B b _ bx _ _ t (wr.alloc (.cells #[.bool t.text,.string t.s,.slice ya t.attrs.length yc,.slice yk t.kids.length ykc] 25)) (by simpa using hfree) (hatr.later (hbk _)) (qb.later (hbk _) m hktr) (HBdx.out.later (hbk _)) (HMK.out _ _ (HFx.out.trans (BFr.later (by omega) (hbk _)))) hgB (by simp;omega) (by
          have e:(bs++60::s.data.toList++l.flatMap qk++[62]++showL (m+1) (ks.take k)).length=bs.length+(1+s.size)+(l.flatMap qk).length+1+(showL (m+1) (ks.take k)).length:=by simp;omega
          rw[e];omega)
         have HFA:Hid (BFr B b bx wr bx (wr.alloc (.cells #[.bool t.text,.string t.s,.slice ya t.attrs.length yc,.slice yk t.kids.length ykc] 25))):=BFr.later (by omega) (hbk _)
         have hlti:(k:Int)<(ks.length:Int):=by omega
         clear hat hkt hcc h4 ht hsn hatr hktr hkeep hkp hbk hfree e2 e3;go_wp2_with fail;refine (Calls.mono HCALL.out ?_);rintro e w7 ⟨rfl,bv7,hBd7,hF7⟩;have HBd7:Hid _:=hBd7;have HF7:Hid (BFr B b bv W1 bv7 w7):=HFx.out.trans (HFA.out.trans hF7);clear hBd7 hF7 HCALL;go_wp2_with fail
         go_roundg (ks.length-(k+1))
         case measure => omega
         case rel =>
          refine ⟨k+1,bv7,by omega,by go_num,?_,HF7.out⟩
          rw[HSN.out,←List.append_assoc];exact HBd7.out
       · have hkk : k = ks.length := by omega
         subst hkk;obtain ⟨y1,_,_⟩:=HBX.out _ _ HFx.out;have HBdE:Hid (Bd B b (Lib.byteCells (bs++60::s.data.toList++l.flatMap qk++[62]++showL (m+1) ks)) bx wr):=by have:=HBdx.out;rw[List.take_length]at this;exact this
         have HW8:Hid _:=zn B b _ bx (⟨#[60,47]⟩++s++⟨#[62]⟩) wr HBdE.out (by
          have e:(Lib.byteCells (bs++60::s.data.toList++l.flatMap qk++[62]++showL (m+1) ks)).length=bs.length+(1+s.size)+(l.flatMap qk).length+1+(showL (m+1) ks).length:=by rw[Lib.byteCells_length];simp;omega
          rw[e,ByteArray.size_append,ByteArray.size_append]
          show _+(2+s.size+1)≤_
          omega) (by omega)
         clear HBdx;go_wp2_with fail;refine (Calls.mono HW8.out ?_);rintro e w8 ⟨rfl,bv8,hBd8,hF8⟩;have h:=hBd8.str (m:=[60,47]++s.data.toList++[62]) (by rw[data_append,data_append])
         go_wp2_with fail
         go_returns
         refine ⟨rfl,bv8,?_,HF0.out.trans (HFx.out.trans hF8)⟩;rw[HL0.out,hemp]
         simpa using h
theorem ZE (n:Nat)(ih:∀ m,n=m+1→jw m):jw n:=by
 intro S B b bs bv va vk t w hS hA hK hBd hM hgB hBw hlen;obtain ⟨tx,s,l,ks⟩:=t;cases tx with
 | true=>exact Yd n S B b bs bv va vk s l ks w hA hK hBd hM hgB hBw hlen
 | false=>exact Yc n ih S B b bs bv va vk s l ks w hS hA hK hBd hM hgB hBw hlen
theorem Y3 (n:Nat):jw n:=by
  induction n with
  | zero=>exact ZE 0 (fun m h=>by omega)
  | succ n ih => exact ZE (n + 1) (fun m h => by obtain rfl : n = m := by omega
                                                 exact ih)
end Go.Proofs.YtkbhckhbgalaoaaGreatDoor
