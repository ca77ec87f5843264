/- Bundled: ParseM SizeM ContM CountT Count CountS SizeT BackM MntM TxtM AtrM InsX ForM ForC ForS ForP MntX PcsM StkD. What each says stands ahead of it. -/
import Derived.Test.YtfplhcicbbhljaaGreatDoorBundle13
import Derived.Test.YtfplhcicbbhljaaGreatDoorBundle16
namespace Go.Proofs.YtfplhcicbbhljaaGreatDoor
open Go.RowKit
set_option maxRecDepth 100000
theorem Jx {α:Type}{more:Rs→Bool}{step:Rs→α × Rs}{P:α→Prop}{M:Nat}(hstep:∀ r,more r=true→r.rest.length≤M→P (step r).1)(hle:∀ r,more r=true→(step r).2.le r) :
 ∀ (f:Nat) (r:Rs),r.rest.length≤M→∀ x∈(zF more step f r).1,P x:=by
 intro f
 induction f with
 | zero=>intro r _ x hx;simp[zF]at hx
 | succ f ih =>
   intro r hr x hx;unfold zF at hx
   split at hx
   · rename_i h
     simp only[List.mem_cons]at hx
     rcases hx with rfl|hx
     · exact hstep r h hr
     · exact ih _ (Nat.le_trans (hle r h).1 hr) x hx
   · simp at hx
theorem Q5 (p:UInt8→Bool)(l:List UInt8):(l.takeWhile p).length≤l.length:=by
 induction l with
 | nil=>simp
 | cons c r ih=>rw[List.takeWhile_cons];split<;>simp<;>omega
theorem Xo (ends:List UInt8):∀ (f:Nat)(r:Rs),(Rs.meant ends f r).1.length≤r.left:=by
 intro f
 induction f with
 | zero=>intro r;simp[Rs.meant]
 | succ f ih =>
   intro r;unfold Rs.meant
   split
   · rename_i h
     have h1:=QU h;have h2:=ih r.sign.2;simp;omega
   · simp
theorem VU (r:Rs)(ends:List UInt8):(r.text ends).1.length≤r.rest.length+1:=Nat.le_trans (Xo _ _ r) (ZD r)
theorem V2 {M:Nat}(r:Rs)(h:r.rest.length≤M):r.attr.1.1.length≤M+1∧r.attr.1.2.length≤M+1:=by
 have h1:=(yu r).1;have h2:=Q5 qg r.skip.rest;have h3:=VU (r.skip.name.must [61,34]) valueEnds;have h4:=((zT r.skip.name [61,34]).trans ((jT _).trans (yu r))).1;exact ⟨by show (r.skip.rest.takeWhile qg).length≤_;omega,by show ((r.skip.name.must [61,34]).text valueEnds).1.length≤_;omega⟩
def qcZ (M:Nat)(t:Tr):Prop:=t.s.size≤M∧∀ x∈t.attrs,x.1.size≤M∧x.2.size≤M
def jM (M:Nat):Nat→List Tr→Prop
 | 0,_=>True
 | n+1,ts=>∀ t∈ts,qcZ M t∧jM M n t.kids
theorem jM.texts {M:Nat}(hM:M≤maxLen):∀ (n:Nat)(ts:List Tr),jM M n ts→TextsN n ts:=by
 intro n
 induction n with
 | zero=>intro ts _;trivial
 | succ n ih =>
   intro ts h t ht;obtain ⟨⟨h1,h2⟩,h3⟩:=h t ht;exact ⟨⟨Nat.le_trans h1 hM,fun x hx=>⟨Nat.le_trans (h2 x hx).1 hM,Nat.le_trans (h2 x hx).2 hM⟩⟩,ih _ h3⟩
theorem jM.nil (M n:Nat):jM M n []:=by cases n with|zero=>trivial|succ n=>intro t ht;simp at ht
theorem qcl {M f:Nat}(ih:∀ r,r.rest.length≤M→jM (M+1) f (treesF f r).1)(r:Rs)(h:r.rest.length≤M):qcZ (M+1) (r.one (treesF f)).1∧jM (M+1) f (r.one (treesF f)).1.kids:=by
 unfold Rs.one
 by_cases h2:r.ahead [60]=true
 · rw[if_pos h2];unfold Rs.elem;have h3:=(zT r [60]).1
   have hat:∀ x∈(r.must [60]).name.attrs.1,x.1.length≤M+1∧x.2.length≤M+1 :=
    Jx (fun r _ hr=>V2 r hr) (fun r _=>(Yt r).trans (yu r)) _ _ (by have:=((jT (r.must [60])).trans (zT r [60])).1;omega)
   have hnm:(qa (r.must [60]).nameOf).size≤M+1:=by
    rw[qe];have:=Q5 qg (r.must [60]).rest
    show ((r.must [60]).rest.takeWhile qg).length≤_
    omega
   have hsh:∀ x∈asB (sortA (r.must [60]).name.attrs.1),x.1.size≤M+1∧x.2.size≤M+1:=by
    intro x hx;simp only[asB,List.mem_map]at hx
    obtain ⟨y,hy,rfl⟩:=hx;have:=hat y ((xi _).mem_iff.1 hy);simp only[qe];exact this
   unfold Rs.elemIn
   split
   · exact ⟨⟨hnm,hsh⟩,jM.nil _ _⟩
   · exact ⟨⟨hnm,hsh⟩,ih _ (by have:=((zT (r.must [60]).name.attrs.2.skip [62]).trans ((yu _).trans ((YD _).trans ((jT _).trans (zT r [60]))))).1;omega)⟩
 · rw[if_neg h2];refine ⟨⟨?_,by intro x hx;simp at hx⟩,jM.nil _ _⟩
   rw[qe];have:=VU r textEnds;omega
theorem Kp (M:Nat):∀ (f:Nat)(r:Rs),r.rest.length≤M→jM (M+1) f (treesF f r).1:=by
 intro f
 induction f with
 | zero=>intro r _;trivial
 | succ f ih =>
   intro r h;exact Jx (P:=fun t=>qcZ (M+1) t∧jM (M+1) f t.kids) (fun r _ hr=>qcl ih r hr) (fun r _=>qaG (treesF_le f) r) _ r h
def zeroT:Tr:=⟨false,⟨#[]⟩,[],[]⟩
def zp (s:List UInt8):List Tr × Int :=
 if 2500<s.length then ([],2)
 else if (treesF (s.length+1) ⟨s,false⟩).2.wrong||decide ((treesF (s.length+1) ⟨s,false⟩).2.rest≠[])||!qF (treesF (s.length+1) ⟨s,false⟩).1 then ([],1)
 else ((treesF (s.length+1) ⟨s,false⟩).1,0)
end Go.Proofs.YtfplhcicbbhljaaGreatDoor
namespace Go.Proofs.YtfplhcicbbhljaaGreatDoor
open Go.ChangeShapes Go.WideShapes Go.ChangeAt Go.RowKit
set_option maxRecDepth 100000
def dep:Nat→List Tr→Nat
 | 0,_=>0
 | n+1,ts=>(ts.map fun t=>1+dep n t.kids).foldr max 0
theorem yN (n:Nat):dep n []=0:=by cases n<;>rfl
theorem j6 (n:Nat)(t:Tr)(r:List Tr):dep (n+1) (t::r)=max (1+dep n t.kids) (dep (n+1) r):=rfl
theorem yw (n:Nat)(a b:List Tr):dep n (a++b)=max (dep n a) (dep n b):=by
 cases n with
 | zero=>rfl
 | succ n =>
   induction a with
   | nil=>simp[yN]
   | cons t r ih=>rw[List.cons_append,j6,j6,ih];omega
theorem zd (n:Nat)(a b:List Tr):cnt n (a++b)=cnt n a+cnt n b:=by
 cases n with
 | zero=>rfl
 | succ n =>
   induction a with
   | nil=>simp[qR]
   | cons t r ih=>rw[List.cons_append,q5,q5,ih];omega
theorem dep_cnt:∀ (n:Nat)(ts:List Tr),dep n ts≤cnt n ts:=by
 intro n
 induction n with
 | zero=>intro ts;exact nR9 _
 | succ n ih =>
   intro ts
   induction ts with
   | nil=>rw[yN];omega
   | cons t r ihr=>rw[j6,q5];have:=ih t.kids;omega
def nx (ts:List Tr):List Tr:=ts.flatMap fun t=>t.kids
theorem nx_nil:nx []=[]:=rfl
theorem Qd (t:Tr)(r:List Tr):nx (t::r)=t.kids++nx r:=by simp[nx]
theorem xT (a b:List Tr):nx (a++b)=nx a++nx b:=by simp[nx]
theorem YN (n:Nat)(ts:List Tr):cnt (n+1) ts=ts.length+cnt n (nx ts):=by
 induction ts with
 | nil=>simp[qR,nx_nil]
 | cons t r ih=>rw[q5,Qd,zd,ih,List.length_cons];omega
theorem qaa (n:Nat)(ts:List Tr)(h:ts≠[]):dep (n+1) ts=1+dep n (nx ts):=by
 induction ts with
 | nil=>exact absurd rfl h
 | cons t r ih =>
   rw[j6,Qd,yw]
   by_cases hr:r=[]
   · subst hr;rw[yN,nx_nil,yN];omega
   · rw[ih hr];omega
theorem Deep.nx {n:Nat}{ts:List Tr}(h:Deep (n+1) ts):Deep n (nx ts):=by
 cases n with
 | zero =>
   show Go.Proofs.YtfplhcicbbhljaaGreatDoor.nx ts=[]
   induction ts with
   | nil=>rfl
   | cons t r ih =>
     rw[Qd,ih (fun x hx=>h x (List.mem_cons_of_mem _ hx))]
     have:t.kids=[]:=h t (List.mem_cons_self ..);rw[this];rfl
 | succ n =>
   intro x hx;obtain ⟨t,ht,hxt⟩:=List.mem_flatMap.1 hx;exact h t ht x hxt
theorem Deep.len {n:Nat}{ts:List Tr}(h:Deep n ts):ts.length≤cnt n ts:=by
 cases n with
 | zero =>
   have:ts=[]:=h;rw[this];exact nZ9 _
 | succ n=>rw[YN];omega
theorem Z3 {α:Type}{p:Nat→α→Prop}:∀ (n:Nat),(∀ i,i<n→∃ y,p i y)→∃ l:List α,l.length=n∧∀ i y,l[i]?=some y→p i y:=by
 intro n
 induction n with
 | zero=>intro _;exact ⟨[],rfl,fun i y h=>by simp at h⟩
 | succ n ih =>
   intro h;obtain ⟨l,hl,hp⟩:=ih (fun i hi=>h i (by omega))
   obtain ⟨y,hy⟩:=h n (by omega)
   refine ⟨l++[y],by simp[hl],fun i z hz=>?_⟩
   rcases Nat.lt_or_ge i n with hi|hi
   · rw[List.getElem?_append_left (by omega)]at hz;exact hp i z hz
   · rw[List.getElem?_append_right (by omega), hl]at hz
     rcases Nat.eq_zero_or_pos (i-n) with h0|h0
     · rw[h0]at hz;simp at hz;subst hz
       have:i=n:=by omega
       rw[this];exact hy
     · rw[List.getElem?_eq_none (by simp;omega)]at hz;cases hz
theorem ZI {ps:List (Bool × ByteArray × Value × Value)}{j:Nat}{u:Value}(h:(quadCells ps)[j]?=some u) :
 ∃ i q,ps[i]?=some q∧((j=i*4∧u=.bool q.1)∨(j=i*4+1∧u=.string q.2.1)∨(j=i*4+2∧u=q.2.2.1)∨(j=i*4+3∧u=q.2.2.2)):=by
 have hj:j<(quadCells ps).length:=(List.getElem?_eq_some_iff.1 h).1;rw[za]at hj
 have hi:j / 4<ps.length:=by omega
 have hq:ps[j / 4]?=some ps[j / 4]:=by simp
 obtain ⟨g0,g1,g2,g3⟩:=zY ps (j / 4) _ hq;refine ⟨j / 4,ps[j / 4],hq,?_⟩;have hm:j % 4=0∨j % 4=1∨j % 4=2∨j % 4=3:=by omega
 rcases hm with e|e|e|e
 · have hj' : j = j / 4 * 4 := by omega
   rw[←hj',h]at g0;exact Or.inl ⟨hj',by simpa using g0⟩
 · have hj' : j = j / 4 * 4 + 1 := by omega
   rw[←hj',h]at g1;exact Or.inr (Or.inl ⟨hj',by simpa using g1⟩)
 · have hj' : j = j / 4 * 4 + 2 := by omega
   rw[←hj',h]at g2;exact Or.inr (Or.inr (Or.inl ⟨hj',by simpa using g2⟩))
 · have hj' : j = j / 4 * 4 + 3 := by omega
   rw[←hj',h]at g3;exact Or.inr (Or.inr (Or.inr ⟨hj',by simpa using g3⟩))
theorem qb.quads {S:Nat→Prop}{w:World}{n:Nat}{ad:Addr}{len cap:Nat}{ts:List Tr}(h:qb S w (n+1) (.slice (some ad) len cap) ts) :
    ∃ ps : List (Bool × ByteArray × Value × Value), ps.length = ts.length ∧ (∀ j u, (quadCells ps)[j]? = some u → w.cell? (ad.add j) = some u) ∧ (∀ u ∈ quadCells ps, u.oneCell' = true) ∧
      ∀ (i:Nat) (q:Bool × ByteArray × Value × Value) (t:Tr),ps[i]?=some q→ts[i]?=some t→q.1=t.text∧q.2.1=t.s∧qm S w q.2.2.1 t.attrs∧qb S w n q.2.2.2 t.kids:=by
  obtain ⟨a,c,hv,h2,h3,h4⟩:=h
  by_cases hne:ts=[]
  · subst hne;exact ⟨[],rfl,fun j u hj=>by simp[quadCells]at hj,fun u hu=>by simp[quadCells]at hu,fun i q t hq=>by simp at hq⟩
  obtain ⟨b,o,ha,hs,hc⟩:=h4 hne
  have had:ad=⟨b,o,none⟩:=by
    rw[ha]at hv
    injection hv with h5
    injection h5
  obtain ⟨ps,hl,hp⟩:=Z3 (α:=Bool × ByteArray × Value × Value) (p:=fun i q=>∀ t,ts[i]?=some t →
      w.cell? ⟨b,o+i*4,none⟩=some (.bool q.1)∧w.cell? ⟨b,o+i*4+1,none⟩=some (.string q.2.1)∧w.cell? ⟨b,o+i*4+2,none⟩=some q.2.2.1∧w.cell? ⟨b,o+i*4+3,none⟩=some q.2.2.2 ∧
      q.1=t.text∧q.2.1=t.s∧qm S w q.2.2.1 t.attrs∧qb S w n q.2.2.2 t.kids) ts.length (by
    intro i hi;have ht:ts[i]?=some ts[i]:=by simp
    obtain ⟨va,vk,c0,c1,c2,c3,hat,hkt⟩:=hc i _ ht;refine ⟨(ts[i].text,ts[i].s,va,vk),fun t ht'=>?_⟩
    rw[ht]at ht';cases ht'
    exact ⟨c0,c1,c2,c3,rfl,rfl,hat,hkt⟩)
  have find:∀ (i:Nat) (q:Bool × ByteArray × Value × Value),ps[i]?=some q→∃ t,ts[i]?=some t:=by
    intro i q hq;have:i<ps.length:=(List.getElem?_eq_some_iff.1 hq).1;exact ⟨ts[i]'(by omega),by simp⟩
  refine ⟨ps,hl,?_,?_,?_⟩
  · intro j u hj;obtain ⟨i,q,hq,hu⟩:=ZI hj;obtain ⟨t,ht⟩:=find i q hq;obtain ⟨c0,c1,c2,c3,_⟩:=hp i q hq t ht;subst had;rw[Addr.add_lit]
    rcases hu with ⟨rfl,rfl⟩|⟨rfl,rfl⟩|⟨rfl,rfl⟩|⟨rfl,rfl⟩
    · exact c0
    · exact c1
    · exact c2
    · exact c3
  · intro u hu;obtain ⟨j,hj⟩:=List.mem_iff_getElem?.1 hu;obtain ⟨i,q,hq,hu⟩:=ZI hj;obtain ⟨t,ht⟩:=find i q hq;obtain ⟨_,_,_,_,_,_,hA,hT⟩:=hp i q hq t ht
    rcases hu with ⟨_,rfl⟩|⟨_,rfl⟩|⟨_,rfl⟩|⟨_,rfl⟩
    · rfl
    · rfl
    · obtain ⟨x,y,e⟩:=hA.shape;rw[e];rfl
    · obtain ⟨x,y,e,_⟩:=qb.shape n hT;rw[e];rfl
  · intro i q t hq ht;obtain ⟨_,_,_,_,r⟩:=hp i q hq t ht;exact r
theorem yh.many {S:Nat→Prop}{n B:Nat}{w w':World}{v v':Value}{us ts:List Tr}{qs ps:List (Bool × ByteArray × Value × Value)}
 (h:yh S n B w v us qs) (hl:ps.length=ts.length) (hown:w'.ownsRow B 79 4 v' (us.length+ts.length) (quadCells qs++quadCells ps))
 (hg:w.grownBy w' v.ownBlock) (hat:v'.ownBlock=v.ownBlock∨v'.ownBlock=some w.heap.size)
 (he:∀ (i:Nat) (q:Bool × ByteArray × Value × Value) (t:Tr),ps[i]?=some q→ts[i]?=some t→q.1=t.text∧q.2.1=t.s∧qm (Oth S B w v) w q.2.2.1 t.attrs∧qb (Oth S B w v) w n q.2.2.2 t.kids):yh S n B w' v' (us++ts) (qs++ps):=by
 have carry:∀ b,Oth S B w v b→Oth S B w' v' b∧w'.heap[b]?=w.heap[b]?:=by
  intro b hb;refine ⟨⟨hb.1,Nat.lt_of_lt_of_le hb.2.1 hg.size,?_⟩,hg.block b hb.2.1 (fun e=>hb.2.2 e.symm)⟩
  rcases hat with e|e
  · rw[e];exact hb.2.2
  · rw[e];intro e';cases e';exact Nat.lt_irrefl _ hb.2.1
 refine ⟨by simp[h.len,hl],?_,?_⟩
 · rw[zm,List.length_append];exact hown
 · intro i q' t' hq ht
   rcases Nat.lt_or_ge i us.length with hi|hi
   · rw[List.getElem?_append_left (by rw[h.len];exact hi)]at hq
     rw[List.getElem?_append_left hi]at ht
     obtain ⟨a,b,c,d⟩:=h.each i q' t' hq ht;exact ⟨a,b,c.carry carry,qb.carry carry n d⟩
   · rw[List.getElem?_append_right (by rw[h.len];exact hi)]at hq
     rw[List.getElem?_append_right hi]at ht
     rw[h.len]at hq
     obtain ⟨a,b,c,d⟩:=he _ q' t' hq ht;exact ⟨a,b,c.carry carry,qb.carry carry n d⟩
theorem QW {ops:Array Oper}{rest:List Oper}{o:Oper}{a:Act}{w:World}{Q:Exit→Act→World→Prop}(hgd:o.guard=none)(s x:Operand)
 (ho:o.op=.call { callee:=.builtin .append,args:=#[s,x],argTypes:=#[22,22] })
 (S S1:Nat→Prop) (n B:Nat) (v vk:Value) (us ts:List Tr) (qs:List (Bool × ByteArray × Value × Value)) (hs:a.eval s=v) (hG:yh S n B w v us qs) (hx:a.eval x=vk) (hk:qb S1 w (n+1) vk ts)
 (hS:∀ b,S1 b→Oth S B w v b) (hl:us.length+ts.length≤1048576) (hB:B≤w.heap.size)
 (h:∀ v' w' qs',yh S n B w' v' (us++ts) qs'→Below B w w'→wpList Tryz.prog ops Q rest (a.put o.dst v') w') :
 wpList Tryz.prog ops Q (o::rest) a w:=by
 obtain ⟨i0,hi,hz0,hz1,hz2⟩:=info_parts treeInfo;obtain ⟨ka,kc,rfl,hkc,hkm⟩:=qb.shape (n+1) hk;cases ka with
 | none =>
   have hn:ts=[]:=by
    apply Classical.byContradiction;intro hne
    obtain ⟨a,c,hv,_,_,h4⟩:=hk;obtain ⟨b,o,ha,_⟩:=h4 hne;rw[ha]at hv;cases hv
   subst hn;refine wpList_plain hgd fun K hK=>?_
   have hrun:(Builtin.append_ #[22,22] o.type #[v,.slice none 0 kc]).run Tryz.prog w=.ok v w:=by
    rcases hG.own.2 with ⟨rfl,e⟩|⟨g,cap,cur,rfl,_,_,hnc,_⟩
    · simp[Builtin.append_,run_underlying Tryz.underlying22,sizeOf,typeInfo,hi,Builtin.lenOf,Builtin.firstCells]
    · simp[Builtin.append_,run_underlying Tryz.underlying22,sizeOf,typeInfo,hi,Builtin.lenOf,Builtin.firstCells,hnc,storeCells]
   simp only[List.length_nil]at hx
   unfold Oper.wp;simp[execOp,ho,resolve,invoke,builtin,hs,hx,hrun,Result.andThen];exact hK _ _ (h v w qs (by rw[List.append_nil];exact hG) (Below.refl _ _))
 | some ad =>
   obtain ⟨ps,hpl,hpc,hp1,hpe⟩:=qb.quads hk;refine wpList_append_own_at w hgd s x 22 ho B 79 i0 _ 4 72 Tryz.underlying22 hi hz0 hz1 hz2 rfl (by decide) v us.length (quadCells qs) hs hG.own ad ts.length kc (quadCells ps) hx ?_ hpc hp1 ?_ ?_ hB ?_
   · rw[za,hpl]
   · unfold maxLen;omega
   · omega
   · intro v' w' hown hgr _ hat
     exact h v' w' _ (hG.many hpl hown hgr hat (fun i q t hq ht=>by
      obtain ⟨a,b,c,d⟩:=hpe i q t hq ht;exact ⟨a,b,c.carry (fun b hb=>⟨hS b hb,rfl⟩),qb.carry (fun b hb=>⟨hS b hb,rfl⟩) n d⟩)) ((Below.refl _ w).grown hgr hB (fun k hk'=>(hG.own.lt k hk').1))
theorem ZJ (n:Nat):rgt n []=true:=by cases n<;>rfl
theorem qaU {n:Nat}{t:Tr}(h:qz t=true):(t.text||rgt n t.kids)=rgt n t.kids:=by
 cases htt:t.text with
 | false=>rfl
 | true =>
   have:t.kids=[]:=by
    simp[qz,htt]at h
    exact h.2
   rw[this,ZJ];rfl
theorem qfT (d n:Nat)(f:Int→List Tr→Int)
    (hf:∀ room k,0≤room→Deep n k→f room k=if dep n k≤d∧(cnt n k:Int)≤room∧rgt n k=true then room-cnt n k else -1) :
    ∀ (l : List Tr) (p : Bool) (room : Int), 0 ≤ room → Deep (n + 1) l →
      rl f p room l=if dep n (nx l)≤d∧(cnt n (nx l):Int)≤room∧rgL (rgt n) p l=true then room-cnt n (nx l) else -1:=by
  intro l
  induction l with
  | nil =>
    intro p room h0 _;rw[nx_nil,yN,qR,if_pos ⟨nZ9 _,by simpa using h0,rfl⟩]
    simp[rl]
  | cons t r ih =>
    intro p room h0 hd;have hk:Deep n t.kids:=hd t (List.mem_cons_self ..);have hr:Deep (n+1) r:=fun x hx=>hd x (List.mem_cons_of_mem _ hx)
    rw[Qd,yw,zd];unfold rl;have hfk:=hf room t.kids h0 hk
    by_cases hA:(!qz t||(p&&t.text))=true
    · rw[if_pos hA, if_neg];rintro ⟨_,_,h3⟩;unfold rgL at h3
      cases h1:qz t<;>cases h2:(p&&t.text)<;>simp[h1,h2]at hA h3
    · rw[if_neg hA];have h1:qz t=true:=by cases h:qz t<;>simp[h]at hA ⊢
      have h2:(p&&t.text)=false:=by cases h:(p&&t.text)<;>simp[h]at hA ⊢
      have hg:rgL (rgt n) p (t::r)=(rgt n t.kids&&rgL (rgt n) t.text r):=by
        show (qz t&&!(p&&t.text)&&(t.text||rgt n t.kids)&&rgL (rgt n) t.text r)=_
        rw[h1,h2,qaU h1];rfl
      rw[hg]
      by_cases hK:dep n t.kids≤d∧(cnt n t.kids:Int)≤room∧rgt n t.kids=true
      · rw[if_pos hK]at hfk
        rw[hfk,if_neg (by omega),ih t.text (room-cnt n t.kids) (by omega) hr]
        by_cases hR:dep n (nx r)≤d∧(cnt n (nx r):Int)≤room-cnt n t.kids∧rgL (rgt n) t.text r=true
        · rw[if_pos hR, if_pos ⟨by omega, by push_cast;omega, by rw[hK.2.2, hR.2.2];rfl⟩]
          push_cast;omega
        · rw[if_neg hR, if_neg];rintro ⟨a,b,c⟩;rw[hK.2.2]at c
          exact hR ⟨by omega,by push_cast at b;omega,by simpa using c⟩
      · rw[if_neg hK]at hfk
        rw[hfk,if_pos (by decide),if_neg]
        rintro ⟨a,b,c⟩;simp only[Bool.and_eq_true]at c
        exact hK ⟨by omega,by push_cast at b;omega,c.1⟩
theorem rb_eq:∀ (d n:Nat)(l:List Tr)(room:Int),0≤room→Deep n l →
 rb d room l=if dep n l≤d∧(cnt n l:Int)≤room∧rgt n l=true then room-cnt n l else -1:=by
 intro d
 induction d with
 | zero =>
   intro n l room h0 hd;unfold rb;cases l with
   | nil=>simp[yN,qR,ZJ];omega
   | cons t r =>
     cases n with
     | zero=>cases (show t::r=[] from hd)
     | succ n =>
       rw[if_neg (by simp),if_neg]
       rintro ⟨a,_⟩;rw[j6]at a;omega
 | succ d ih =>
   intro n l room h0 hd;unfold rb;cases l with
   | nil=>simp[yN,qR,ZJ];omega
   | cons t r =>
     cases n with
     | zero=>cases (show t::r=[] from hd)
     | succ n =>
       rw[if_neg (by simp)]
       generalize hl:t::r=l at *
       have hne:l≠[]:=by rw[←hl];simp
       rw[qaa n l hne,YN n l]
       by_cases hrm:room<(l.length:Int)
       · rw[if_pos hrm, if_neg];rintro ⟨_,b,_⟩
         push_cast at b;omega
       · rw[if_neg hrm, qfT d n (rb d) (fun room k h hk => ih n k room h hk) l false (room - l.length) (by omega) hd]
         by_cases hR:dep n (nx l)≤d∧(cnt n (nx l):Int)≤room-l.length∧rgL (rgt n) false l=true
         · rw[if_pos hR,if_pos ⟨by omega,by push_cast;omega,hR.2.2⟩];push_cast;omega
         · rw[if_neg hR, if_neg];rintro ⟨a,b,c⟩;exact hR ⟨by omega,by push_cast at b;omega,c⟩
theorem Qv {n:Nat}{l:List Tr}(hd:Deep n l):qF l=(decide (dep n l≤8)&&decide (cnt n l≤80)&&rgt n l):=by
 unfold qF;rw[rb_eq 8 n l 80 (by decide) hd]
 by_cases h:dep n l≤8∧(cnt n l:Int)≤80∧rgt n l=true
 · rw[if_pos h];have h2:cnt n l≤80:=by omega
   simp[h.1,h2,h.2.2];omega
 · rw[if_neg h];cases hr:rgt n l with
   | false=>simp
   | true =>
     have:¬ (dep n l≤8∧cnt n l≤80):=fun ⟨a,b⟩=>h ⟨a,by omega,hr⟩
     by_cases h1:dep n l≤8
     · have h2 : ¬ cnt n l ≤ 80 := fun b => this ⟨h1, b⟩
       simp[h2]
     · simp[h1]
theorem QC {n:Nat}{t:Tr}(hd:Deep n t.kids):zZ t=(!t.text&&decide (dep (n+1) [t]<9)&&decide (cnt (n+1) [t]<81)&&rgt (n+1) [t]):=by
 have h:Deep (n+1) [t]:=by intro x hx;simp at hx;subst hx;exact hd
 unfold zZ;rw[Qv h];have e1:decide (dep (n+1) [t]≤8)=decide (dep (n+1) [t]<9):=by congr 1;apply propext;omega
 have e2:decide (cnt (n+1) [t]≤80)=decide (cnt (n+1) [t]<81):=by congr 1;apply propext;omega
 rw[e1,e2,Bool.and_assoc,Bool.and_assoc,Bool.and_assoc]
def groupCells:List (Value × Nat)→List Value
 | []=>[]
 | x::r=>x.1::.int .i64 (x.2:Int)::groupCells r
theorem xv (l:List (Value × Nat)):(groupCells l).length=l.length*2:=by
 induction l with
 | nil=>rfl
 | cons x r ih=>simp[groupCells,ih];omega
theorem yt (l m:List (Value × Nat)):groupCells (l++m)=groupCells l++groupCells m:=by
 induction l with
 | nil=>rfl
 | cons x r ih=>simp[groupCells,ih]
theorem JN {w:World}{B:Nat}{e:TypeId}{size g cap n:Nat}{xs ys:List Value}(h:w.ownsRow B e size (.slice (some ⟨g,0,none⟩) (n+1) cap) (n+1) (xs++ys))(hx:xs.length=n*size) :
 w.ownsRow B e size (.slice (some ⟨g,0,none⟩) n cap) n xs:=by
 obtain ⟨h1,h2⟩:=h
 rcases h2 with ⟨h0,_⟩|⟨g',cap',cur,hv,hg,hh,hn,hcap,hsz,htake⟩
 · cases h0
 · cases hv;refine ⟨hx,Or.inr ⟨g,cap,cur,rfl,hg,hh,by omega,hcap,hsz,?_⟩⟩
   have e1:cur.toList.take (n*size)=(cur.toList.take ((n+1)*size)).take (n*size):=by
    rw[List.take_take,Nat.min_eq_left (Nat.mul_le_mul_right _ (by omega))]
   rw[e1,htake,←hx,List.take_left]
structure Cst (B cb:Nat) (w:World) (dd cc:Nat) (v:Value) (G:List (Value × Nat)):Prop where
 base:B≤cb
 held:w.heap[cb]?=some (.cells #[.int .i64 (dd:Int),.int .i64 (cc:Int),v] 153 (0,0))
 own:w.ownsRow B 181 2 v G.length (groupCells G)
 slices:∀ x∈G,∃ a l c,x.1=.slice a l c
theorem Cst.lt {B cb:Nat}{w:World}{dd cc:Nat}{v:Value}{G:List (Value × Nat)}(h:Cst B cb w dd cc v G):cb<w.heap.size:=by
 rcases Nat.lt_or_ge cb w.heap.size with h'|h'
 · exact h'
 · have:=h.held;simp[Array.getElem?_eq_none h']at this
theorem Cst.apart {B cb:Nat}{w:World}{dd cc:Nat}{v:Value}{G:List (Value × Nat)}(h:Cst B cb w dd cc v G):v.ownBlock≠some cb:=by
 intro e;obtain ⟨_,c,fz,hc⟩:=qi h.own e;rw[h.held]at hc
 simp at hc
theorem Cst.shape {B cb:Nat}{w:World}{dd cc:Nat}{v:Value}{G:List (Value × Nat)}(h:Cst B cb w dd cc v G):∃ a c,v=.slice a G.length c:=by
 rcases h.own.2 with ⟨hv,h0⟩|⟨g,cap,cur,hv,_⟩
 · exact ⟨none,0,by rw[hv,h0]⟩
 · exact ⟨_,_,hv⟩
theorem qcK (B cb:Nat)(w:World)(dd cc:Nat)(v:Value)(G:List (Value × Nat))(x:Value)(d:Nat)(h:Cst B cb w dd cc v (G++[(x,d)]))(hBw:B≤w.heap.size) :
 Calls Tryz.prog 140 #[.pointer (some ⟨cb,2,none⟩)] w fun e w'=>e=.returned (.agg #[x,.int .i64 (d:Int)])∧∃ v',Cst B cb w' dd cc v' G∧v'.ownBlock=v.ownBlock∧(∀ b,b<w.heap.size→b≠cb→w'.heap[b]?=w.heap[b]?)∧Below B w w':=by
 have hap:=h.apart;have hlt:=h.lt;obtain ⟨hB,hj,hown,hsl⟩:=h;obtain ⟨xa,xl,xc,hx⟩:=hsl (x,d) (by simp)
 simp only at hx
 subst hx
 rcases hown.2 with ⟨_,h0⟩|⟨g,cap,cur,rfl,hg,hh,hc,hm,hs,ht⟩
 · simp at h0
 have hlen:(G++[(Value.slice xa xl xc,d)]).length=G.length+1:=by simp
 rw[hlen]at hown hj hc ht
 have c2:w.cell? ⟨cb,2,none⟩=some (.slice (some ⟨g,0,none⟩) (G.length+1) cap):=by rw[cH9 hj];rfl
 have f2:w.frozen? ⟨cb,2,none⟩=false:=fH9 hj 2;have hgl:=xv G
 have k0:w.cell? ⟨g,G.length*2,none⟩=some (.slice xa xl xc):=by
  rw[World.ownsRow.cellAt hown _ (by omega),yt,List.getElem?_append_right (by omega),hgl];simp[groupCells]
 have k1:w.cell? ⟨g,G.length*2+1,none⟩=some (.int .i64 (d:Int)):=by
  rw[World.ownsRow.cellAt hown _ (by omega),yt,List.getElem?_append_right (by omega),hgl];simp[groupCells]
 have hgs:g<w.heap.size:=World.block_lt_of_cell? w _ k0;unfold maxLen at hm
 have HJ:Hid (w.heap[cb]?=some (.cells #[.int .i64 (dd:Int),.int .i64 (cc:Int),.slice (some ⟨g,0,none⟩) (G.length+1) cap] 153 (0,0))):=hj;clear hj hgl
 go_enter Tryz.func140,Tryz.ntmps140
 go_wp2_with fail
 have hk:∀ b,b<w.heap.size→b≠cb→(((w.setCell ⟨cb,2,none⟩ (.slice (some ⟨g,0,none⟩) G.length cap)).alloc (.cells #[.slice xa xl xc,.int .i64 (d:Int)] 181)).alloc (.cells #[.slice xa xl xc,.int .i64 (d:Int)] 181)).heap[b]?=w.heap[b]?:=by
  intro b hb hbc;rw[Lib.alloc_old _ _ _ (by simp;omega),Lib.alloc_old _ _ _ (by simp;omega),Below.heap_setCell _ _ _ _ hbc]
 have hgc:g≠cb:=fun e=>hap (by rw[e];rfl)
 refine bodyPost_ret (v:=.agg #[.slice xa xl xc,.int .i64 (d:Int)]) (by simp[results,Tryz.results140,go_sem]) rfl ⟨rfl,.slice (some ⟨g,0,none⟩) G.length cap,⟨hB,?_,?_,fun y hy=>hsl y (by simp[hy])⟩,?_,hk,?_⟩
 · rw[Lib.alloc_old _ _ _ (by simp;omega), Lib.alloc_old _ _ _ (by simp;omega)]
   simp[World.setCell,Array.getElem?_modify,HJ.out]
 · rw[yt]at hown
   exact qn (JN hown (xv G)) fun b hb=>by cases hb;exact hk g hgs hgc
 · rfl
 · exact ((((Below.refl B w).setCell hB _).alloc (by simp;omega) _).alloc (by simp;omega) _)
theorem groupInfo:(Tryz.prog.info? 181).map (fun i=>(i.zero,i.size,i.bytes))=some (some (.agg #[.slice none 0 0,.int .i64 0]),2,32):=by kernel_rfl
theorem qa7 {ops:Array Oper}{o:Oper}{a:Act}{w:World}{K:Act→World→Prop}{Q:Exit→Act→World→Prop}{E:Prop}
 (hg:o.guard=none) (s x:Operand) (hop:o.op=Op.call { callee:=Callee.builtin Builtin.append,args:=#[s,x],argTypes:=#[151,151] })
 (B:Nat) (v:Value) (n:Nat) (xs:List Value) (hs:a.eval s=v) (hown:w.ownsRow B 181 2 v n xs) (ad:Addr) (sa:Option Addr) (sl sc:Nat) (d:Int) (hx:a.eval x=.slice (some ad) 1 1)
 (hnews:∀ j u,[Value.slice sa sl sc,Value.int .i64 d][j]?=some u→w.cell? (ad.add j)=some u) (hn:n≤1048576) (hB:B≤w.heap.size)
 (hK:∀ v' w',w'.ownsRow B 181 2 v' (n+1) (xs++[.slice sa sl sc,.int .i64 d])→w.grownBy w' v.ownBlock→(v'.ownBlock=v.ownBlock∨v'.ownBlock=some w.heap.size)→K (a.put o.dst v') w') :
 if Region.wanted o (yielded ops a.tmps)=true then Oper.wp Tryz.prog o a w K Q else E:=by
 have hw:Region.wanted o (yielded ops a.tmps)=true:=by simp[Region.wanted,hg]
 rw[if_pos hw];obtain ⟨i0,hi,hz0,hz1,hz2⟩:=info_parts groupInfo;obtain ⟨v',w',hr,h2,h3,_,h5⟩:=run_append_own_at (P:=Tryz.prog) w B 151 o.type 181 i0 _ 2 32 Tryz.underlying151 hi hz0 hz1 hz2 rfl (by decide) v n xs hown ad 1 1 [.slice sa sl sc,.int .i64 d] rfl hnews (by intro u hu;simp at hu;rcases hu with rfl|rfl<;>rfl) (by unfold maxLen;omega) (by omega) hB
 unfold Oper.wp;simp[execOp,hop,resolve,invoke,builtin,hs,hx,hr,Result.andThen];exact hK v' w' h2 h3 h5
structure CE where
 v:Value
 n:Nat
 ts:List Tr
 o:Nat
def csum (P:List CE):Nat:=(P.map fun e=>cnt e.n e.ts).sum
def xM (P:List CE):Nat:=(P.map fun e=>e.o+dep e.n e.ts).foldr max 0
def grp (e:CE):Value × Nat:=(e.v,e.o+1)
theorem xu (P Q:List CE):csum (P++Q)=csum P+csum Q:=by simp[csum]
theorem Qu (P Q:List CE):xM (P++Q)=max (xM P) (xM Q):=by
 induction P with
 | nil=>simp[xM]
 | cons e r ih =>
   have h1:xM (e::r++Q)=max (e.o+dep e.n e.ts) (xM (r++Q)):=rfl;have h2:xM (e::r)=max (e.o+dep e.n e.ts) (xM r):=rfl;rw[h1,h2,ih];omega
def qbk (S:Nat→Prop)(w:World)(e:CE):Prop:=e.ts≠[]∧qb S w e.n e.v e.ts∧e.o+dep e.n e.ts≤1048577
structure XF (S:Nat→Prop) (B cb:Nat) (w:World) (ds cs L:Nat) (o:Nat) (ts:List Tr) (dd cc:Nat) (wv:Value) (G:List (Value × Nat)) (w':World) (P:List CE) (dd' cc':Nat) (wv':Value):Prop where
 below:Below B w w'
 cst:Cst B cb w' dd' cc' wv' (G++P.map grp)
 row:wv'.ownBlock=wv.ownBlock∨∃ b,wv'.ownBlock=some b∧w.heap.size≤b
 frame:∀ b,b<w.heap.size→b≠cb→wv.ownBlock≠some b→w'.heap[b]?=w.heap[b]?
 pend:∀ e∈P,qbk S w e
 dmax:max dd' (xM P)=max dd ds
 csum:cc'+csum P=cc+cs
 more:cc≤cc'∧(0<L→cc+ts.length≤cc')
def Kr (S:Nat→Prop)(B cb L:Nat):Prop:=∀ (n:Nat)(v:Value)(ts:List Tr)(o d dd cc:Nat)(wv:Value)(G:List (Value × Nat))(w:World),
 d=o+1→(∀ b,S b→b<w.heap.size∧b≠cb∧wv.ownBlock≠some b)→qb S w n v ts→Cst B cb w dd cc wv G→B≤w.heap.size→o+dep n ts≤1048577→dd≤1048577→cc+cnt n ts≤1048576→G.length+cnt n ts≤1048576 →
 Calls Tryz.prog 139 #[.pointer (some ⟨cb,0,none⟩),.agg #[v,.int .i64 (d:Int)],.int .i64 (L:Int)] w fun e w'=>e=.returned (.tuple #[]) ∧
  ∃ P dd' cc' wv',XF S B cb w (if ts=[] then 0 else o+dep n ts) (cnt n ts) L o ts dd cc wv G w' P dd' cc' wv'
theorem Cst.later {B cb:Nat}{w w':World}{dd cc:Nat}{v:Value}{G:List (Value × Nat)}(h:Cst B cb w dd cc v G)(hb:Below w.heap.size w w'):Cst B cb w' dd cc v G :=
 ⟨h.base,by rw[hb.block cb h.lt];exact h.held,qq h.own hb,h.slices⟩
theorem qbl (S:Nat→Prop)(B cb L n:Nat)(v:Value)(o d dd cc:Nat)(wv:Value)(G:List (Value × Nat))(w:World)(h:qb S w n v [])(hc:Cst B cb w dd cc wv G)(hB:B≤w.heap.size) :
 Calls Tryz.prog 139 #[.pointer (some ⟨cb,0,none⟩),.agg #[v,.int .i64 (d:Int)],.int .i64 (L:Int)] w fun e w'=>e=.returned (.tuple #[]) ∧
  ∃ P dd' cc' wv',XF S B cb w 0 (cnt n []) L o [] dd cc wv G w' P dd' cc' wv':=by
 obtain ⟨a,c,rfl,_,_⟩:=qb.shape n h;simp only[List.length_nil]
 go_enter Tryz.func139,Tryz.ntmps139
 go_wp2_with fail
 go_returns
 refine ⟨rfl,[],dd,cc,wv,?_⟩;refine ⟨(Below.refl B w).alloc hB _,by simpa using hc.later (Below.alloc1 w _),Or.inl rfl,fun b hb _ _=>Below.heap_alloc _ _ _ hb,by simp,by simp[xM],by simp[Go.Proofs.YtfplhcicbbhljaaGreatDoor.csum,qR],nR9 _,fun _=>by simp⟩
theorem K1 {W:World}{ad:Nat}{x y:Value}(h0:W.cell? ⟨ad,0,none⟩=some x)(h1:W.cell? ⟨ad,1,none⟩=some y):∀ j u,[x,y][j]?=some u→W.cell? ((⟨ad,0,none⟩:Addr).add j)=some u:=by
 intro j u hj
 match j,hj with
 | 0,hj=>simp at hj;subst hj;exact h0
 | 1,hj=>simp at hj;subst hj;exact h1
theorem qcB {w:World}{B n:Nat}{e:TypeId}{size:Nat}{v:Value}{xs:List Value}(h:w.ownsRow B e size v n xs):∃ a l c,v=.slice a l c:=by
 rcases h.2 with ⟨hv,_⟩|⟨g,cap,cur,hv,_⟩
 · exact ⟨_,_,_,hv⟩
 · exact ⟨_,_,_,hv⟩
theorem YY {B cb:Nat}{W X w1:World}{dd cc:Nat}{wv:Value}{G:List (Value × Nat)}(h:Cst B cb W dd cc wv G)(hX:Below W.heap.size W X)(hg:X.grownBy w1 wv.ownBlock) :
 w1.heap[cb]?=some (.cells #[.int .i64 (dd:Int),.int .i64 (cc:Int),wv] 153 (0,0)):=by
 rw[hg.block cb (Nat.lt_of_lt_of_le h.lt hX.size) (fun e=>h.apart e.symm),hX.block cb h.lt]
 exact h.held
theorem qez {S:Nat→Prop}{B cb:Nat}{w W0 w1:World}{n o d dd cc:Nat}{ts:List Tr}{va wa a1:Option Addr}{vc wc l1 c1:Nat}{G:List (Value × Nat)}{c:Obj}(hd:d=o+1)(hne:ts≠[])
 (hT:qb S w n (.slice va ts.length vc) ts) (hod:o+dep n ts≤1048577) (hBw:B≤w.heap.size) (hbx:Below w.heap.size w W0) (hX:Cst B cb W0 dd cc (.slice wa G.length wc) G)
 (hown1:w1.ownsRow B 181 2 (.slice a1 l1 c1) (G.length+1) (groupCells G++[.slice va ts.length vc,.int .i64 (d:Int)]))
 (hgr1:(W0.alloc c).drew.grownBy w1 (Value.slice wa G.length wc).ownBlock)
 (hat1:(Value.slice a1 l1 c1).ownBlock=(Value.slice wa G.length wc).ownBlock∨(Value.slice a1 l1 c1).ownBlock=some (W0.alloc c).drew.heap.size) :
 XF S B cb w (o+dep n ts) (cnt n ts) 0 o ts dd cc (.slice wa G.length wc) G (w1.setCell ⟨cb,2,none⟩ (.slice a1 l1 c1)) [⟨.slice va ts.length vc,n,ts,o⟩] dd cc (.slice a1 l1 c1):=by
 have hH:=YY hX (Below.alloc1 W0 c).drew hgr1;have hsz:=hbx.size;have hsX:(W0.alloc c).drew.heap.size=W0.heap.size+1:=by simp[World.drew]
 have hap:(Value.slice a1 l1 c1).ownBlock≠some cb:=by
  intro e;obtain ⟨_,cs,fz,hc⟩:=qi hown1 e;rw[hH]at hc
  simp at hc
 subst hd;refine ⟨?_,⟨hX.base,?_,?_,?_⟩,?_,?_,?_,?_,?_,nR9 _,fun h=>by omega⟩
 · exact (((((hbx.mono hBw).alloc (by omega) c).drew).grown hgr1 (by omega) (fun k hk=>(hX.own.lt k hk).1))).setCell hX.base _
 · simp[World.setCell,Array.getElem?_modify,hH]
 · have e1 : (G ++ List.map grp [(⟨.slice va ts.length vc, n, ts, o⟩ : CE)]).length = G.length + 1 := by simp
   rw[e1,yt];exact qn hown1 fun b hb=>Below.heap_setCell _ _ _ _ (fun e=>hap (by rw[hb,e]))
 · intro x hx
   rcases List.mem_append.1 hx with hx|hx
   · exact hX.slices x hx
   · simp[grp]at hx;subst hx;exact ⟨_,_,_,rfl⟩
 · rcases hat1 with h | h
   · exact Or.inl h
   · exact Or.inr ⟨_,h,by omega⟩
 · intro b hb h1 h2;rw[Below.heap_setCell _ _ _ _ h1,hgr1.block b (by omega) (fun e=>h2 e.symm)]
   show (W0.alloc c).heap[b]?=_
   rw[Lib.alloc_old _ _ _ (by omega),hbx.block b hb]
 · intro e he;simp at he
   subst he;exact ⟨hne,hT,hod⟩
 · simp[xM]
 · simp[Go.Proofs.YtfplhcicbbhljaaGreatDoor.csum]
theorem add_zero (S:Nat→Prop)(B cb:Nat):Kr S B cb 0:=by
 intro n v ts o d dd cc wv G w hd _ hT hC hBw hod hdd hcc hG;have HD:Hid (d=o+1):=hd
 by_cases hne:ts=[]
 · subst hne
   simpa using qbl S B cb 0 n v o d dd cc wv G w hT hC hBw
 · have hTo : Hid (qb S w n v ts) := hT;obtain ⟨va,vc,rfl,_,hvm⟩:=qb.shape n hT;have hl0:0<ts.length:=List.length_pos_iff.2 hne
   have hcn:1≤cnt n ts:=by
    have:=(qb.deep n hT).len;omega
   have hlt:=hC.lt;have hap:=hC.apart
   have hne1:((ts.length:Int)==0)=false:=by
    have:(ts.length:Int)≠0:=by omega
    simpa using this
   have hbx:=Below.alloc1 w (.cells #[.slice va ts.length vc,.int .i64 (d:Int)] 181);have hX:=hC.later hbx;have b0:(w.alloc (.cells #[.slice va ts.length vc,.int .i64 (d:Int)] 181)).cell? ⟨w.heap.size,0,none⟩=some (.slice va ts.length vc):=by simp
   have b1:(w.alloc (.cells #[.slice va ts.length vc,.int .i64 (d:Int)] 181)).cell? ⟨w.heap.size,1,none⟩=some (.int .i64 (d:Int)):=by simp
   have hsz:(w.alloc (.cells #[.slice va ts.length vc,.int .i64 (d:Int)] 181)).heap.size=w.heap.size+1:=by simp
   have HO:Hid (o+dep n ts≤1048577):=hod;clear hT hd hod hcc hdd;unfold maxLen at hvm
   go_enter Tryz.func139,Tryz.ntmps139
   go_wp2_with fail
   generalize w.alloc (.cells #[.slice va ts.length vc,.int .i64 (d:Int)] 181)=W0 at hbx hX b0 b1 hsz ⊢
   obtain ⟨wa,wc,rfl⟩:=hC.shape;have HS:Hid (W0.heap.size=w.heap.size+1):=hsz;have hB0:B≤W0.heap.size:=by omega
   have hszl:w.heap.size<W0.heap.size:=by omega
   clear hsz;have k2:W0.cell? ⟨cb,2,none⟩=some (.slice wa G.length wc):=by rw[cH9 hX.held];rfl
   have kf:W0.frozen? ⟨cb,2,none⟩=false:=fH9 hX.held 2;have hcb0:cb<W0.heap.size:=hX.lt;have HX:Hid (Cst B cb W0 dd cc (.slice wa G.length wc) G):=hX;clear hX hC;have hrow:(W0.alloc (.cells #[.slice va ts.length vc,.int .i64 (d:Int)] 181)).drew.ownsRow B 181 2 (.slice wa G.length wc) G.length (groupCells G):=HX.out.own.alloc _;have hgc:∀ j u,[Value.slice va ts.length vc,Value.int .i64 (d:Int)][j]?=some u→(W0.alloc (.cells #[.slice va ts.length vc,.int .i64 (d:Int)] 181)).drew.cell? ((⟨W0.heap.size,0,none⟩:Addr).add j)=some u:=K1 (W:=(W0.alloc (.cells #[.slice va ts.length vc,.int .i64 (d:Int)] 181)).drew) (by simp) (by simp)
   have HR:Hid _:=hrow;have HGC:Hid _:=hgc;clear hrow hgc;have hGl:G.length≤1048576:=by omega
   have HH:Hid (∀ w1,(W0.alloc (.cells #[.slice va ts.length vc,.int .i64 (d:Int)] 181)).drew.grownBy w1 (Value.slice wa G.length wc).ownBlock→w1.heap[cb]?=some (.cells #[.int .i64 (dd:Int),.int .i64 (cc:Int),.slice wa G.length wc] 153 (0,0))):=fun w1 hg=>YY HX.out (Below.alloc1 W0 _).drew hg
   go_region_law (first
    | (refine qa7 (by rfl) (.tmp 17) (.tmp 19) (by rfl) B (.slice wa G.length wc) G.length (groupCells G) (by simp[Act.eval]) HR.out ⟨W0.heap.size,0,none⟩ va ts.length vc (d:Int) (by simp[Act.eval]) HGC.out hGl (by simp;omega) ?_;intro v1 w1 hown1 hgr1 hat1;obtain ⟨a1,l1,c1,rfl⟩:=qcB hown1;have hj1:=cH9 (HH.out w1 hgr1) 2;have hf1:=fH9 (HH.out w1 hgr1) 2;simp at hj1))
   all_goals
    go_wp2_with fail
    go_returns
    exact ⟨rfl,_,_,_,_,qez HD.out hne hTo.out HO.out hBw hbx HX.out hown1 hgr1 hat1⟩
section
attribute [local go_sem] qd
structure J5 (S:Nat→Prop) (B cb:Nat) (w:World) (m o k:Nat) (ts:List Tr) (bx by_:Value) (dd cc:Nat) (wv:Value) (G:List (Value × Nat)) (w':World) (P:List CE) (dd' cc':Nat) (wv':Value):Prop where
 below:Below B w w'
 cst:Cst B cb w' dd' cc' wv' (G++P.map grp)
 row:wv'.ownBlock=wv.ownBlock∨∃ b,wv'.ownBlock=some b∧w.heap.size+1≤b
 frame:∀ b,b<w.heap.size→b≠cb→wv.ownBlock≠some b→w'.heap[b]?=w.heap[b]?
 box0:w'.cell? ⟨w.heap.size,0,none⟩=some bx
 box1:w'.cell? ⟨w.heap.size,1,none⟩=some by_
 size:w.heap.size+1≤w'.heap.size
 pend:∀ e∈P,qbk S w e
 dmax:max dd' (xM P)=max dd (max (o+1) (o+dep (m+1) (ts.take k)))
 csum:cc'+csum P=cc+ts.length+cnt m (nx (ts.take k))
 more:cc+ts.length≤cc'
theorem KQ {S:Nat→Prop}{w:World}{P:List CE}(h:∀ e∈P,qbk S w e):P.length≤csum P:=by
 induction P with
 | nil=>simp
 | cons e r ih =>
   have h1:=ih (fun x hx=>h x (List.mem_cons_of_mem _ hx))
   obtain ⟨h2,h3,_⟩:=h e List.mem_cons_self;have h4:=(qb.deep e.n h3).len;have h5:=List.length_pos_iff.2 h2;have h6:csum (e::r)=cnt e.n e.ts+csum r:=by simp[csum]
   simp only[List.length_cons];omega
theorem qaw {S:Nat→Prop}{B cb:Nat}{w:World}{m o k L:Nat}{ts:List Tr}{bx by_:Value}{dd cc:Nat}{wv:Value}{G:List (Value × Nat)}{wr w3:World}{P P1:List CE}{dd' cc' dd3 cc3:Nat}{wv' wv3:Value}{t:Tr}
 (hS:∀ b,S b→wr.heap[b]?=w.heap[b]?) (I:J5 S B cb w m o k ts bx by_ dd cc wv G wr P dd' cc' wv') (hwv:∀ b,wv.ownBlock=some b→b<w.heap.size) (hcb:cb<w.heap.size) (hsn:ts.take (k+1)=ts.take k++[t])
 (J:XF S B cb wr (if t.kids=[] then 0 else o+1+dep m t.kids) (cnt m t.kids) L (o+1) t.kids dd' cc' wv' (G++P.map grp) w3 P1 dd3 cc3 wv3) :
 J5 S B cb w m o (k+1) ts bx by_ dd cc wv G w3 (P++P1) dd3 cc3 wv3:=by
 have hsz3:=J.below.size;have hszr:=I.size
 have hrow:∀ b,b<w.heap.size+1→wv.ownBlock≠some b→wv'.ownBlock≠some b:=by
  intro b hb h1 h2
  rcases I.row with h|⟨b',h,h3⟩
  · exact h1 (h.symm.trans h2)
  · rw[h]at h2;cases h2;omega
 have hbox:w3.heap[w.heap.size]?=wr.heap[w.heap.size]?:=J.frame _ (by omega) (by omega) (hrow _ (by omega) (fun e=>by have:=hwv _ e;omega))
 refine ⟨I.below.trans J.below,?_,?_,?_,?_,?_,by omega,?_,?_,?_,?_⟩
 · have:=J.cst;simpa using this
 · rcases J.row with h | ⟨b, h, h1⟩
   · rw[h];exact I.row
   · exact Or.inr ⟨b,h,by omega⟩
 · intro b hb h1 h2;rw[J.frame b (by omega) h1 (hrow b (by omega) h2),I.frame b hb h1 h2]
 · rw[World.cell?_of_block (a:=⟨w.heap.size,0,none⟩) hbox];exact I.box0
 · rw[World.cell?_of_block (a:=⟨w.heap.size,1,none⟩) hbox];exact I.box1
 · intro e he
   rcases List.mem_append.1 he with he|he
   · exact I.pend e he
   · obtain ⟨h1, h2, h3⟩ := J.pend e he;exact ⟨h1,qb.carry (fun b hb=>⟨hb,(hS b hb).symm⟩) e.n h2,h3⟩
 · rw[Qu, hsn, yw, j6, yN];have h1:=J.dmax;have h2:=I.dmax
   by_cases hk:t.kids=[]
   · rw[if_pos hk]at h1
     rw[hk,yN];omega
   · rw[if_neg hk]at h1
     omega
 · rw[xu, hsn, xT, Qd, nx_nil, List.append_nil, zd];have h1:=J.csum;have h2:=I.csum;omega
 · have:=J.more.1;have:=I.more;omega
theorem Vg {S:Nat→Prop}{B cb:Nat}{w W0:World}{m o d:Nat}{ts:List Tr}{bx by_:Value}{dd cc:Nat}{wv:Value}{G:List (Value × Nat)}(hd:d=o+1)(hBw:B≤w.heap.size)(hcb:cb<w.heap.size)(hsz:W0.heap.size=w.heap.size+1)(hbx:Below w.heap.size w W0)(hX:Cst B cb W0 dd cc wv G)
 (b0:W0.cell? ⟨w.heap.size,0,none⟩=some bx) (b1:W0.cell? ⟨w.heap.size,1,none⟩=some by_) :
 J5 S B cb w m o 0 ts bx by_ dd cc wv G ((W0.setCell ⟨cb,0,none⟩ (.int .i64 (max (dd:Int) (d:Int)))).setCell ⟨cb,1,none⟩ (.int .i64 ((cc:Int)+(ts.length:Int)))).drew.drew [] (max dd d) (cc+ts.length) wv:=by
 have hk:∀ b,b≠cb→((W0.setCell ⟨cb,0,none⟩ (.int .i64 (max (dd:Int) (d:Int)))).setCell ⟨cb,1,none⟩ (.int .i64 ((cc:Int)+(ts.length:Int)))).drew.drew.heap[b]?=W0.heap[b]?:=by
  intro b hb
  show ((W0.setCell ⟨cb,0,none⟩ (.int .i64 (max (dd:Int) (d:Int)))).setCell ⟨cb,1,none⟩ (.int .i64 ((cc:Int)+(ts.length:Int)))).heap[b]?=_
  rw[Below.heap_setCell _ _ _ _ hb,Below.heap_setCell _ _ _ _ hb]
 subst hd;refine ⟨((((hbx.mono hBw).setCell hX.base _).setCell hX.base _).drew).drew,⟨hX.base,?_,?_,?_⟩,Or.inl rfl,?_,?_,?_,?_,by simp,?_,?_,nR9 _⟩
 · show ((W0.setCell ⟨cb, 0, none⟩ _).setCell ⟨cb, 1, none⟩ _).heap[cb]? = _
   have e1:(((max dd (o+1):Nat)):Int)=max (dd:Int) ((o+1:Nat):Int):=by omega
   have e2:(((cc+ts.length:Nat)):Int)=(cc:Int)+(ts.length:Int):=by omega
   rw[e1,e2];simp[World.setCell,Array.getElem?_modify,hX.held]
 · simp only[List.map_nil, List.append_nil];exact qn hX.own fun b hb=>hk b (fun e=>hX.apart (by rw[hb,e]))
 · simp only[List.map_nil, List.append_nil];exact hX.slices
 · intro b hb h1 _;rw[hk b h1,hbx.block b hb]
 · rw[World.cell?_of_block (a:=⟨w.heap.size,0,none⟩) (hk w.heap.size (by omega))];exact b0
 · rw[World.cell?_of_block (a:=⟨w.heap.size,1,none⟩) (hk w.heap.size (by omega))];exact b1
 · show w.heap.size + 1 ≤ ((W0.setCell ⟨cb, 0, none⟩ _).setCell ⟨cb, 1, none⟩ _).heap.size
   simp;omega
 · simp[xM,yN]
 · simp[Go.Proofs.YtfplhcicbbhljaaGreatDoor.csum,nx_nil,qR]
theorem qax {S:Nat→Prop}{B cb:Nat}{w:World}{m o L:Nat}{ts:List Tr}{bx by_:Value}{dd cc:Nat}{wv:Value}{G:List (Value × Nat)}{wr:World}{P:List CE}{dd' cc':Nat}{wv':Value}
 (hne:ts≠[]) (I:J5 S B cb w m o ts.length ts bx by_ dd cc wv G wr P dd' cc' wv'):XF S B cb w (o+dep (m+1) ts) (cnt (m+1) ts) L o ts dd cc wv G wr P dd' cc' wv':=by
 refine ⟨I.below,I.cst,?_,I.frame,I.pend,?_,?_,?_,fun _=>I.more⟩
 · rcases I.row with h | ⟨b, h, h1⟩
   · exact Or.inl h
   · exact Or.inr ⟨b,h,by omega⟩
 · have h := I.dmax;rw[List.take_length]at h
   rw[h,qaa m ts hne];omega
 · have h := I.csum;rw[List.take_length]at h
   rw[h,YN m ts];omega
 · have:=I.more;omega
theorem XF.undrew {S:Nat→Prop}{B cb:Nat}{w:World}{ds cs L o:Nat}{ts:List Tr}{dd cc:Nat}{wv:Value}{G:List (Value × Nat)}{w':World}{P:List CE}{dd' cc':Nat}{wv':Value}
    (h:XF S B cb w.drew ds cs L o ts dd cc wv G w' P dd' cc' wv'):XF S B cb w ds cs L o ts dd cc wv G w' P dd' cc' wv' :=
  ⟨(Below.refl B w).drew.trans h.below, h.cst, h.row, h.frame, fun e he => by
    obtain ⟨h1,h2,h3⟩:=h.pend e he;exact ⟨h1,qb.carry (w:=w.drew) (w':=w) (fun b hb=>⟨hb,rfl⟩) e.n h2,h3⟩,h.dmax,h.csum,h.more⟩
theorem qc7 (S:Nat→Prop)(B cb:Nat)(L:Nat)(hL:L<1000)(ih:Kr S B cb L):Kr S B cb (L+1):=by
 intro n v ts o d dd cc wv G w hd hS0 hT hC hBw hod hdd hcc hG;have HS0:Hid (∀ b,S b→b<w.heap.size∧b≠cb∧wv.ownBlock≠some b):=hS0;clear hS0;have HD:Hid (d=o+1):=hd
 by_cases hne:ts=[]
 · subst hne
   simpa using qbl S B cb (L+1) n v o d dd cc wv G w hT hC hBw
 · have hTo : Hid (qb S w n v ts) := hT;obtain ⟨va,vc,rfl,_,hvm⟩:=qb.shape n hT;have hl0:0<ts.length:=List.length_pos_iff.2 hne;have hcn:=(qb.deep n hT).len;have hlt:=hC.lt;have hap:=hC.apart
   have hne1:((ts.length:Int)==0)=false:=by
    have:(ts.length:Int)≠0:=by omega
    simpa using this
   have hne2:((((L+1:Nat):Int))==0)=false:=by
    have:(((L+1:Nat):Int))≠0:=by omega
    simpa using this
   obtain ⟨M,hM⟩:∃ M,L+1=M:=⟨_,rfl⟩;rw[hM]at hne2 ⊢
   have hbx:=Below.alloc1 w (.cells #[.slice va ts.length vc,.int .i64 (d:Int)] 181);have hX:=hC.later hbx;have b0:(w.alloc (.cells #[.slice va ts.length vc,.int .i64 (d:Int)] 181)).cell? ⟨w.heap.size,0,none⟩=some (.slice va ts.length vc):=by simp
   have b1:(w.alloc (.cells #[.slice va ts.length vc,.int .i64 (d:Int)] 181)).cell? ⟨w.heap.size,1,none⟩=some (.int .i64 (d:Int)):=by simp
   have hsz:(w.alloc (.cells #[.slice va ts.length vc,.int .i64 (d:Int)] 181)).heap.size=w.heap.size+1:=by simp
   have HO:Hid (o+dep n ts≤1048577):=hod;have HIH:Hid (Kr S B cb L):=ih;have HM:Hid (L+1=M):=hM;clear hT hd ih hM;unfold maxLen at hvm
   go_enter Tryz.func139,Tryz.ntmps139
   go_wp2_with fail
   generalize w.alloc (.cells #[.slice va ts.length vc,.int .i64 (d:Int)] 181)=W0 at hbx hX b0 b1 hsz ⊢
   have HS:Hid (W0.heap.size=w.heap.size+1):=hsz;have hB0:B≤W0.heap.size:=by omega
   have hszl:w.heap.size<W0.heap.size:=by omega
   have hcw:cb≠w.heap.size:=by omega
   clear hsz;have k0:W0.cell? ⟨cb,0,none⟩=some (.int .i64 (dd:Int)):=by rw[cH9 hX.held];rfl
   have k1:W0.cell? ⟨cb,1,none⟩=some (.int .i64 (cc:Int)):=by rw[cH9 hX.held];rfl
   have kf0:W0.frozen? ⟨cb,0,none⟩=false:=fH9 hX.held 0;have kf1:W0.frozen? ⟨cb,1,none⟩=false:=fH9 hX.held 1;have HX:Hid (Cst B cb W0 dd cc wv G):=hX;have HWV:Hid (∀ b,wv.ownBlock=some b→b<w.heap.size):=fun b hb=>(hC.own.lt b hb).2
   clear hX hC
   go_region
   go_wp2_with fail
   go_region
   go_wp2_with fail;cases n with
   | zero=>exact absurd hTo.out.1 hne
   | succ m =>
   have hwv:∀ b,wv.ownBlock=some b→b<w.heap.size:=fun b hb=>HWV.out b hb
   have HW:Hid (∀ b,wv.ownBlock=some b→b<w.heap.size):=hwv;clear hwv
   go_loopg [46] ts.length (fun g i wr=>∃ (k:Nat) (P:List CE) (dd' cc':Nat) (wv':Value),k+g=ts.length∧i=.int .i64 k∧J5 S B cb w m o k ts (.slice va ts.length vc) (.int .i64 (d:Int)) dd cc wv G wr P dd' cc' wv')
   case atStart => exact ⟨0,[],_,_,_,by omega,rfl,Vg HD.out hBw hlt HS.out hbx HX.out b0 b1⟩
   case round =>
    obtain ⟨k,P,dd',cc',wv',hk,rfl,I⟩:=hrel;have HI:Hid (J5 S B cb w m o k ts (.slice va ts.length vc) (.int .i64 (d:Int)) dd cc wv G wr P dd' cc' wv'):=I;have x0:=I.box0;have x1:=I.box1;have hBr:=I.below;have hsr:=I.size;clear I b0 b1 k0 k1 kf0 kf1 HX hbx hcw hB0 hszl HS
    by_cases hlt':k<ts.length
    · obtain ⟨_, _, hve, _, _, h4⟩ := hTo.out;obtain ⟨b,o',hao,hs,hcc'⟩:=h4 hne
      injection hve with e1 e2 e3
      subst e1;subst hao;obtain ⟨t,ht⟩:∃ t,ts[k]?=some t:=⟨ts[k],by simp[hlt']⟩
      obtain ⟨xa,xk,c0,c1,c2,c3,hat,hkt⟩:=hcc' k t ht;obtain ⟨ka,kc,rfl,_,hkm⟩:=qb.shape m hkt;have hkeep:∀ b,S b→wr.heap[b]?=w.heap[b]?:=fun b hb=>HI.out.frame b (HS0.out b hb).1 (HS0.out b hb).2.1 (HS0.out b hb).2.2
      have HKEEP:Hid (∀ b,S b→wr.heap[b]?=w.heap[b]?):=hkeep;rw[←World.cell?_of_block (a:=⟨b,o'+k*4+3,none⟩) (hkeep b hs)]at c3
      have hsn:ts.take (k+1)=ts.take k++[t]:=by
       rw[List.take_succ_eq_append_getElem hlt'];congr 2;simpa[hlt'] using ht
      have HSN:Hid (ts.take (k+1)=ts.take k++[t]):=hsn;have hkT:qb S wr m (.slice ka t.kids.length kc) t.kids:=qb.carry (fun b hb=>⟨hb,hkeep b hb⟩) m hkt
      have HKT:Hid (qb S wr m (.slice ka t.kids.length kc) t.kids):=hkT
      have hkids:dep m t.kids+1≤dep (m+1) ts∧cnt m (nx (ts.take (k+1)))≤cnt m (nx ts)∧dep (m+1) (ts.take k)≤dep (m+1) ts:=by
       refine ⟨?_,?_,?_⟩
       · obtain ⟨a, b, e⟩ := List.append_of_mem (List.mem_of_getElem? ht);rw[e,yw,j6];omega
       · have e : nx ts = nx (ts.take (k + 1)) ++ nx (ts.drop (k + 1)) := by rw[←xT, List.take_append_drop]
         rw[e,zd];omega
       · have e : dep (m + 1) ts = max (dep (m + 1) (ts.take k)) (dep (m + 1) (ts.drop k)) := by rw[←yw, List.take_append_drop]
         omega
      have HCALL:Hid (Calls Tryz.prog 139 #[.pointer (some ⟨cb,0,none⟩),.agg #[.slice ka t.kids.length kc,.int .i64 ((d:Int)+1)],.int .i64 ((M:Int)-1)] wr.drew fun e w'=>∃ r,e=.returned r∧(r=.tuple #[]∧∃ P1 dd3 cc3 wv3,XF S B cb wr (if t.kids=[] then 0 else o+1+dep m t.kids) (cnt m t.kids) L (o+1) t.kids dd' cc' wv' (G++P.map grp) w' P1 dd3 cc3 wv3)):=by
       have I:=HI.out;have h1:=I.dmax;have h2:=I.csum;have h3:=KQ I.pend;have h4:=I.more;have h5:=YN m ts;obtain ⟨h6,h7,h8⟩:=hkids;rw[hsn,xT,Qd,nx_nil,List.append_nil,zd]at h7
       have hd:=HD.out
       have hfree:∀ b,S b→b<wr.drew.heap.size∧b≠cb∧wv'.ownBlock≠some b:=by
        intro b hb;obtain ⟨q1,q2,q3⟩:=HS0.out b hb;refine ⟨Nat.lt_of_lt_of_le q1 (Nat.le_trans (Nat.le_succ _) I.size),q2,fun h=>?_⟩
        rcases I.row with h'|⟨b',h',h''⟩
        · exact q3 (h'.symm.trans h)
        · rw[h']at h;cases h;omega
       have hcst:Cst B cb wr.drew dd' cc' wv' (G++P.map grp):=⟨I.cst.base,I.cst.held,I.cst.own,I.cst.slices⟩;have hTd:qb S wr.drew m (.slice ka t.kids.length kc) t.kids:=qb.carry (w:=wr) (w':=wr.drew) (fun b hb=>⟨hb,rfl⟩) m HKT.out
       have:=HIH.out m (.slice ka t.kids.length kc) t.kids (o+1) (d+1) dd' cc' wv' (G++P.map grp) wr.drew (by omega) hfree hTd hcst (by show B≤wr.heap.size;omega) (by omega) (by omega) (by omega) (by rw[List.length_append,List.length_map];omega)
       have e1:((d+1:Nat):Int)=(d:Int)+1:=by omega
       have e2:(L:Int)=(M:Int)-1:=by have:=HM.out;omega
       rw[e1,e2]at this
       refine this.mono ?_;rintro e w' ⟨rfl,P1,dd3,cc3,wv3,J⟩;exact ⟨_,rfl,rfl,P1,dd3,cc3,wv3,J.undrew⟩
      have hkb:(k:Int)<(ts.length:Int):=by omega
      have hdb:d≤1048578:=by have:=HD.out;omega
      have hMb:1≤M∧M≤1000:=by have:=HM.out;omega
      clear c0 c1 c2 hat hkt hkT hcc' h4 e2 e3 ht hsn hs hkids hkeep;go_wp2_with fail
      go_region_law (first
       | (refine yT (by rfl) 139 #[.pointer (some ⟨cb,0,none⟩),.agg #[.slice ka t.kids.length kc,.int .i64 ((d:Int)+1)],.int .i64 ((M:Int)-1)] (by go_simp;exact ⟨IntWalk.i64_in _ (by omega),IntWalk.i64_in _ (by omega)⟩) _ HCALL.out ?_;intro r w3 hR;obtain ⟨hr,P1,dd3,cc3,wv3,J⟩:=hR))
      all_goals
       go_wp2_with fail
       go_roundg (ts.length-(k+1))
       case measure => omega
       case rel => exact ⟨k+1,_,_,_,_,by omega,by go_num,qaw HKEEP.out HI.out HW.out hlt HSN.out J⟩
    · have hkk : k = ts.length := by omega
      subst hkk;go_wp2_with fail
      go_returns
      exact ⟨rfl,_,_,_,_,qax hne HI.out⟩
end
section
attribute [local go_sem] qd
theorem qey (S:Nat→Prop)(B cb:Nat):∀ L,L≤1000→Kr S B cb L:=by
 intro L
 induction L with
 | zero=>intro _;exact add_zero S B cb
 | succ L ih=>intro h;exact qc7 S B cb L (by omega) (ih (by omega))
structure qfs (S:Nat→Prop) (B cb:Nat) (w:World) (D C:Nat) (w':World) (P:List CE) (dd cc:Nat) (wv:Value):Prop where
 below:Below B w w'
 cst:Cst B cb w' dd cc wv (P.map grp)
 keep:∀ b,S b→w'.heap[b]?=w.heap[b]?
 free:∀ b,S b→wv.ownBlock≠some b
 pend:∀ e∈P,qbk S w e
 dmax:max dd (xM P)=D
 csum:cc+csum P=C
theorem qbS {S:Nat→Prop}{B cb n:Nat}{va:Option Addr}{vc:Nat}{ts:List Tr}{w:World}(hS:∀ b,S b→b<w.heap.size∧b≠cb)(hne:ts≠[])(hT:qb S w n (.slice va ts.length vc) ts)(hD:dep n ts≤1048577)(hC:Cst B cb w 0 0 (.slice none 0 0) [])(hBw:B≤w.heap.size) :
 qfs S B cb w (dep n ts) (cnt n ts) ((w.setCell ⟨cb,2,none⟩ (.slice (some ⟨w.heap.size,0,none⟩) 1 1)).alloc (.cells #[.slice va ts.length vc,.int .i64 1] 181)) [⟨.slice va ts.length vc,n,ts,0⟩] 0 0 (.slice (some ⟨w.heap.size,0,none⟩) 1 1):=by
 have hlt:=hC.lt;refine ⟨((Below.refl B w).setCell hC.base _).alloc (by simp;omega) _,⟨hC.base,?_,?_,?_⟩,?_,?_,?_,?_,?_⟩
 · rw[Lib.alloc_old _ _ _ (by simp;omega)]
   simp[World.setCell,Array.getElem?_modify,hC.held]
 · have := World.ownsRow_lit (base := B) (e := 181) (size := 2) (w.setCell ⟨cb, 2, none⟩ (.slice (some ⟨w.heap.size, 0, none⟩) 1 1)) #[.slice va ts.length vc, .int .i64 1] 1 (by simp;omega) (by unfold maxLen;omega) rfl
   simpa[grp,groupCells] using this
 · intro x hx;simp[grp]at hx
   subst hx;exact ⟨_,_,_,rfl⟩
 · intro b hb;rw[Lib.alloc_old _ _ _ (by simp;exact (hS b hb).1),Below.heap_setCell _ _ _ _ (hS b hb).2]
 · intro b hb h;cases h;exact Nat.lt_irrefl _ (hS _ hb).1
 · intro e he;simp at he
   subst he;exact ⟨hne,hT,by simpa using hD⟩
 · simp[xM]
 · simp[Go.Proofs.YtfplhcicbbhljaaGreatDoor.csum]
theorem XR (S:Nat→Prop)(B cb n:Nat)(v:Value)(ts:List Tr)(w:World)(hS:∀ b,S b→b<w.heap.size∧b≠cb)(hne:ts≠[])(hT:qb S w n v ts)(hC:Cst B cb w 0 0 (.slice none 0 0) [])(hBw:B≤w.heap.size)(hcnt:cnt n ts≤1048576) :
 Calls Tryz.prog 106 #[.pointer (some ⟨cb,0,none⟩),v] w fun e w'=>e=.returned (.tuple #[])∧∃ wv,Cst B cb w' (dep n ts) (cnt n ts) wv []∧Below B w w':=by
 obtain ⟨va,vc,rfl,_,hvm⟩:=qb.shape n hT;have hDC:=dep_cnt n ts;have hlt:=hC.lt;have c2:w.cell? ⟨cb,2,none⟩=some (.slice none 0 0):=by rw[cH9 hC.held];rfl
 have f2:w.frozen? ⟨cb,2,none⟩=false:=fH9 hC.held 2;have HC:Hid (Cst B cb w 0 0 (.slice none 0 0) []):=hC;have HT:Hid (qb S w n (.slice va ts.length vc) ts):=hT;clear hC hT
 go_enter Tryz.func106,Tryz.ntmps106
 go_wp2_with fail
 go_loopg [] (cnt n ts) (fun g wr=>∃ P dd cc wv,csum P=g∧qfs S B cb w (dep n ts) (cnt n ts) wr P dd cc wv)
 case atStart => exact ⟨_,_,_,_,by simp[csum],qbS hS hne HT.out (by omega) HC.out hBw⟩
 case round =>
  obtain ⟨P,dd,cc,wv,hm,I⟩:=hrel;subst hm;obtain ⟨wa,wc,rfl⟩:=I.cst.shape;rw[List.length_map]at I
  have d2:wr.cell? ⟨cb,2,none⟩=some (.slice wa P.length wc):=by rw[cH9 I.cst.held];rfl
  have HI:Hid (qfs S B cb w (dep n ts) (cnt n ts) wr P dd cc (.slice wa P.length wc)):=I;clear I
  rcases List.eq_nil_or_concat P with rfl|⟨P0,e,hPe⟩
  · simp only[List.length_nil]at d2
    go_wp2_with fail
    go_returns
    have I:=HI.out;have h1:=I.dmax;have h2:=I.csum;have h3:xM []=0:=rfl;have h4:csum []=0:=rfl;rw[h3]at h1
    rw[h4]at h2
    have e1:dd=dep n ts:=by omega
    have e2:cc=cnt n ts:=by omega
    have hc:=I.cst;rw[e1,e2]at hc
    exact ⟨rfl,_,hc,I.below⟩
  · rw[List.concat_eq_append]at hPe
    subst hPe;have hl:(P0++[e]).length=P0.length+1:=by simp
    rw[hl]at d2
    have hcs:Cst B cb wr dd cc (.slice wa (P0++[e]).length wc) (P0.map grp++[(e.v,e.o+1)]):=by
     have:=HI.out.cst;rw[List.map_append,List.map_cons,List.map_nil]at this
     exact this
    have hszr:B≤wr.heap.size:=Nat.le_trans hBw HI.out.below.size;have HCS:Hid _:=hcs;clear hcs;go_wp2_with fail;refine (qcK B cb wr dd cc _ (P0.map grp) e.v (e.o+1) HCS.out hszr).mono ?_;rintro e' w1 ⟨rfl,v1,hc1,hv1,hk1,hb1⟩;have hB1:Below B w w1:=HI.out.below.trans hb1;obtain ⟨hp1,hp2,hp3⟩:=HI.out.pend e (by simp)
    have hwr:=HI.out.below.size;have hw1:=hb1.size;have hkp:∀ b,S b→w1.heap[b]?=w.heap[b]?:=fun b hb=>(hk1 b (by have:=(hS b hb).1;omega) (hS b hb).2).trans (HI.out.keep b hb)
    have HKP:Hid (∀ b,S b→w1.heap[b]?=w.heap[b]?):=hkp;have hfr:∀ b,S b→b<w1.heap.size∧b≠cb∧v1.ownBlock≠some b:=fun b hb=>⟨by have:=(hS b hb).1;omega,(hS b hb).2,by rw[hv1];exact HI.out.free b hb⟩
    have HFR:Hid (∀ b,S b→b<w1.heap.size∧b≠cb∧v1.ownBlock≠some b):=hfr;have hTe:qb S w1 e.n e.v e.ts:=qb.carry (fun b hb=>⟨hb,hkp b hb⟩) e.n hp2
    have h1:=HI.out.dmax;have h2:=HI.out.csum;have h3:csum (P0++[e])=csum P0+cnt e.n e.ts:=by rw[xu];simp[csum]
    have h4:xM (P0++[e])=max (xM P0) (e.o+dep e.n e.ts):=by rw[Qu];simp[xM]
    have h5:=KQ (P:=P0) (fun x hx=>HI.out.pend x (by simp[hx]))
    rw[h3]at h2
    rw[h4]at h1
    have hcall:=qey S B cb 1000 (nR9 _) e.n e.v e.ts e.o (e.o+1) dd cc v1 (P0.map grp) w1 rfl hfr hTe hc1 (by have:=hb1.size;omega) hp3 (by omega) (by omega) (by rw[List.length_map];omega)
    have e1:((e.o+1:Nat):Int)=(e.o:Int)+1:=by omega
    rw[e1,show ((1000:Nat):Int)=1000 from rfl]at hcall
    have HCALL:Hid _:=hcall;clear hcall e1 hkp hfr hk1;have H1:Hid (max dd (max (xM P0) (e.o+dep e.n e.ts))=dep n ts):=h1;have H2:Hid (cc+(csum P0+cnt e.n e.ts)=cnt n ts):=h2;have H3:Hid (csum (P0++[e])=csum P0+cnt e.n e.ts):=h3;clear d2 h1 h2 h3 h4 h5 hp3 hTe hc1 hv1 hl hszr;go_wp2_with fail;refine (Calls.mono HCALL.out ?_);rintro e' w2 ⟨rfl,P1,dd3,cc3,wv3,J⟩;go_wp2_with fail
    go_roundg (csum (P0++P1))
    case measure =>
     have h6:=J.csum;have h7:=J.more.2 (by omega)
     have h8:=List.length_pos_iff.2 hp1;rw[H3.out,xu];omega
    case rel =>
     refine ⟨P0++P1,dd3,cc3,wv3,rfl,hB1.trans J.below,by rw[List.map_append];exact J.cst,fun b hb=>(J.frame b (HFR.out b hb).1 (HFR.out b hb).2.1 (HFR.out b hb).2.2).trans (HKP.out b hb),?_,?_,?_,?_⟩
     · intro b hb h
       rcases J.row with h'|⟨b',h',h''⟩
       · exact (HFR.out b hb).2.2 (h'.symm.trans h)
       · rw[h']at h;cases h;have:=(HFR.out _ hb).1;omega
     · intro x hx
       rcases List.mem_append.1 hx with hx|hx
       · exact HI.out.pend x (by simp[hx])
       · obtain ⟨q1, q2, q3⟩ := J.pend x hx;exact ⟨q1,qb.carry (fun b hb=>⟨hb,(HKP.out b hb).symm⟩) x.n q2,q3⟩
     · have h6 := J.dmax;rw[if_neg hp1]at h6
       have h1:=H1.out;rw[Qu];omega
     · have h6 := J.csum;have h2:=H2.out;rw[xu];omega
theorem qec (S:Nat→Prop)(n:Nat)(va vk:Value)(t:Tr)(w:World)(h:qm S w va t.attrs)(hk:qb S w n vk t.kids)(hc:cnt (n+1) [t]≤1048576) :
 Calls Tryz.prog 74 #[.agg #[.bool t.text,.string t.s,va,vk]] w fun e w'=>e=.returned (.tuple #[.int .i64 (dep (n+1) [t]:Int),.int .i64 (cnt (n+1) [t]:Int)])∧Below w.heap.size w w':=by
 obtain ⟨aa,ac,rfl⟩:=h.shape;obtain ⟨ka,kc,rfl,_,_⟩:=qb.shape n hk;have hb:∀ X Y Z,Below w.heap.size w (((w.alloc X).alloc Y).alloc Z):=fun X Y Z=>((Below.alloc1 w X).alloc (by simp) Y).alloc (by simp;omega) Z
 have HB:Hid (∀ X Y Z,Below w.heap.size w (((w.alloc X).alloc Y).alloc Z)):=hb;have HA:Hid (qm (fun b=>S b∧b<w.heap.size) w (.slice aa t.attrs.length ac) t.attrs):=h.bounded
 have HK:Hid (qb (fun b=>S b∧b<w.heap.size) w n (.slice ka t.kids.length kc) t.kids):=qb.bounded n hk
 clear h hk hb
 go_enter Tryz.func74,Tryz.ntmps74
 go_wp2_with fail
 have hT:=qb.of_block (S:=fun b=>S b∧b<w.heap.size) (n:=n) (len:=1) (cap:=1) (ts:=[t]) (e:=79) (fz:=(0,0)) (qs:=[(t.text,t.s,.slice aa t.attrs.length ac,.slice ka t.kids.length kc)]) (heap_alloc_new ((w.alloc (.cells #[.bool t.text,.string t.s,.slice aa t.attrs.length ac,.slice ka t.kids.length kc] 79)).alloc (.cells #[.int .i64 0,.int .i64 0,.slice none 0 0] 153)) (.cells #[.bool t.text,.string t.s,.slice aa t.attrs.length ac,.slice ka t.kids.length kc] 79)) rfl rfl rfl (nR9 _) (by unfold maxLen;simp) (by
  intro i q t' hq ht';cases i with
  | zero =>
    simp at hq ht'
    subst hq ht';exact ⟨rfl,rfl,HA.out.later (HB.out _ _ _),qb.later (HB.out _ _ _) n HK.out⟩
  | succ i=>simp at ht')
 have hCst:Cst w.heap.size (w.heap.size+1) (((w.alloc (.cells #[.bool t.text,.string t.s,.slice aa t.attrs.length ac,.slice ka t.kids.length kc] 79)).alloc (.cells #[.int .i64 0,.int .i64 0,.slice none 0 0] 153)).alloc (.cells #[.bool t.text,.string t.s,.slice aa t.attrs.length ac,.slice ka t.kids.length kc] 79)) 0 0 (.slice none 0 0) []:=by
  refine ⟨by omega,?_,World.ownsRow_nil _ _ _ _,by simp⟩
  have e:=heap_alloc_new (w.alloc (.cells #[.bool t.text,.string t.s,.slice aa t.attrs.length ac,.slice ka t.kids.length kc] 79)) (.cells #[.int .i64 0,.int .i64 0,.slice none 0 0] 153);rw[World.size_alloc]at e
  rw[Lib.alloc_old _ _ _ (by simp)]
  exact e
 have hB3:=HB.out (.cells #[.bool t.text,.string t.s,.slice aa t.attrs.length ac,.slice ka t.kids.length kc] 79) (.cells #[.int .i64 0,.int .i64 0,.slice none 0 0] 153) (.cells #[.bool t.text,.string t.s,.slice aa t.attrs.length ac,.slice ka t.kids.length kc] 79);have hs2:((w.alloc (.cells #[.bool t.text,.string t.s,.slice aa t.attrs.length ac,.slice ka t.kids.length kc] 79)).alloc (.cells #[.int .i64 0,.int .i64 0,.slice none 0 0] 153)).heap.size=w.heap.size+1+1:=by simp
 rw[hs2]at hT
 refine (XR _ w.heap.size (w.heap.size+1) (n+1) _ [t] _ ?_ (by simp) hT hCst hB3.size hc).mono ?_
 · intro b hb;simp only[World.size_alloc]
   rcases hb with hb|hb
   · have:=hb.2;omega
   · omega
 rintro e w2 ⟨rfl,wv,hC2,hb2⟩;have k0:w2.cell? ⟨w.heap.size+1,0,none⟩=some (.int .i64 (dep (n+1) [t]:Int)):=by rw[cH9 hC2.held];rfl
 have k1:w2.cell? ⟨w.heap.size+1,1,none⟩=some (.int .i64 (cnt (n+1) [t]:Int)):=by rw[cH9 hC2.held];rfl
 have hB4:Below w.heap.size w w2:=hB3.trans hb2;obtain ⟨D,hD⟩:∃ D,dep (n+1) [t]=D:=⟨_,rfl⟩;obtain ⟨C,hC⟩:∃ C,cnt (n+1) [t]=C:=⟨_,rfl⟩;rw[hD]at k0
 rw[hC]at k1
 have HD:Hid (dep (n+1) [t]=D):=hD;have HC:Hid (cnt (n+1) [t]=C):=hC;clear hD hC hc;clear hC2 hT hCst hB3 hb2 hs2;go_wp2_with fail
 go_region
 all_goals
  go_wp2_with fail
  go_ret2
  exact ⟨by rw[HD.out,HC.out];rfl,hB4.drew⟩
end
end Go.Proofs.YtfplhcicbbhljaaGreatDoor
namespace Go.Proofs.YtfplhcicbbhljaaGreatDoor
open Go.RowKit
set_option maxRecDepth 100000
def qE (v:Bool):List UInt8:=if v then valueEnds else textEnds
theorem Vz {c:UInt8}{x:List UInt8}(hc:c≠38)(p:List UInt8):(⟨c::x,false⟩:Rs).ahead (38::p)=false:=by
 have:((38:UInt8)==c)=false:=by simpa using fun e=>hc e.symm
 simp[Rs.ahead,List.isPrefixOf,this]
theorem y9 {c:UInt8}(h:qg c=true):qo c=false:=by
 simp only[qg,Bool.and_eq_true,decide_eq_true_eq]at h
 have h1:¬ c=32:=by intro e;subst e;exact absurd h.1 (by decide)
 have h2:¬ c=10:=by intro e;subst e;exact absurd h.1 (by decide)
 simp[qo,h1,h2]
theorem qH {p:UInt8→Bool}:∀ {l:List UInt8}{c:UInt8}{x:List UInt8},l.all p=true→p c=false→(l++c::x).takeWhile p=l∧(l++c::x).dropWhile p=c::x:=by
 intro l
 induction l with
 | nil=>intro c x _ hc;simp[hc]
 | cons d l ih =>
   intro c x h hc;simp only[List.all_cons,Bool.and_eq_true]at h
   obtain ⟨h1,h2⟩:=ih (x:=x) h.2 hc;simp[h.1,h1,h2]
theorem xz (p x:List UInt8):(⟨p++x,false⟩:Rs).must p=⟨x,false⟩:=by
 have:(⟨p++x,false⟩:Rs).ahead p=true:=by simp[Rs.ahead]
 simp[Rs.must,this]
def ZV (x:ByteArray × ByteArray):List UInt8 × List UInt8:=(x.1.data.toList,x.2.data.toList)
theorem YF {l:List (ByteArray × ByteArray)}(h:q7 l=true):(l.map ZV).Pairwise fun x y=>x.1<y.1:=by
 simp only[q7,Bool.and_eq_true,decide_eq_true_eq,List.all_eq_true]at h
 have step:∀ i,i+1<(l.map ZV).length→∀ x y,(l.map ZV)[i]?=some x→(l.map ZV)[i+1]?=some y→x.1<y.1:=by
  intro i hi x y hx hy;have hk:=h.2 (i+1) (by simpa using hi)
  simp only[List.getElem?_map,Option.map_eq_some_iff]at hx hy
  obtain ⟨a,ha,rfl⟩:=hx;obtain ⟨b,hb,rfl⟩:=hy;unfold okA at hk
  rw[hb]at hk
  simp only[ha,Bool.and_eq_true]at hk
  have:=hk.2;rw[less_lt,decide_eq_true_eq,ByteArray.toList_eq,ByteArray.toList_eq]at this
  exact this
 have gen:∀ (m:List (List UInt8 × List UInt8)),(∀ i,i+1<m.length→∀ x y,m[i]?=some x→m[i+1]?=some y→x.1<y.1)→m.Pairwise fun x y=>x.1<y.1:=by
  intro m
  induction m with
  | nil=>intro _;exact List.Pairwise.nil
  | cons a m ih =>
    intro hs;have hm:=ih (fun i hi x y hx hy=>hs (i+1) (by simpa using hi) x y (by simpa using hx) (by simpa using hy))
    rw[List.pairwise_cons];refine ⟨fun b hb=>?_,hm⟩
    cases m with
    | nil=>simp at hb
    | cons c m =>
      have h1:a.1<c.1:=hs 0 (by simp) a c rfl rfl
      rw[List.mem_cons]at hb
      rcases hb with rfl|hb
      · exact h1
      · rw[List.pairwise_cons]at hm
        exact List.lt_trans h1 (hm.1 b hb)
 exact gen _ step
def wordsT:List (List UInt8 × UInt8):=[([108,116],60),([103,116],62),([97,109,112],38),([113,117,111,116],34)]
def qy (c:UInt8):Bool:=decide (c≠59)
def yl (t:List UInt8):Option (UInt8 × List UInt8) :=
 match t.dropWhile qy with
 | []=>none
 | _ :: r => match wordsT.find? (fun p => p.1 == t.takeWhile qy) with
   | some p=>some (p.2,r)
   | none=>none
def zt (v:Bool):Nat→List UInt8→Option (List UInt8)
 | 0,_=>none
 | _+1,[]=>some []
 | f + 1, c :: t =>
   if c=38 then match yl t with
    | some (x,r)=>(zt v f r).map (x::·)
    | none=>none
   else if decide (c=60)||decide (c=62)||(decide (c=34)&&v)||!sign c then none
   else (zt v f t).map (c::·)
theorem Qg {u t:List UInt8}(hu:u.all qy=true):(u++[59]).isPrefixOf t=true↔t.takeWhile qy=u∧∃ r,t.dropWhile qy=59::r:=by
 constructor
 · intro h;obtain ⟨r,rfl⟩:=List.isPrefixOf_iff_prefix.1 h;have h2:=qH (p:=qy) (l:=u) (c:=59) (x:=r) hu (by decide)
   rw[List.append_assoc];exact ⟨h2.1,r,h2.2⟩
 · rintro ⟨h1, r, h2⟩;rw[List.isPrefixOf_iff_prefix];refine ⟨r,?_⟩;rw[←List.takeWhile_append_dropWhile (p:=qy) (l:=t),h1,h2,List.append_assoc];rfl
theorem qcD {t u r:List UInt8}(h1:t.takeWhile qy=u)(h2:t.dropWhile qy=59::r):t.drop (u.length+1)=r:=by
 have e:t=u++59::r:=by rw[←h1,←h2];exact (List.takeWhile_append_dropWhile).symm
 rw[e,←List.drop_drop,List.drop_left];rfl
theorem xO {t:List UInt8}{c:UInt8}{r:List UInt8}(h:t.dropWhile qy=c::r):c=59:=by
 have:=List.head?_dropWhile_not qy t;rw[h]at this
 simpa[qy] using this
theorem j3 (t:List UInt8):(⟨38::t,false⟩:Rs).sign=match yl t with
 | some (x,r)=>(x,⟨r,false⟩)
 | none=>(38,⟨38::t,true⟩):=by
 have ah:∀ u:List UInt8,(⟨38::t,false⟩:Rs).ahead (38::(u++[59]))=(u++[59]).isPrefixOf t:=by
  intro u;simp[Rs.ahead,List.isPrefixOf]
 have a1:=ah [108,116];have a2:=ah [103,116];have a3:=ah [97,109,112];have a4:=ah [113,117,111,116];simp only[List.cons_append,List.nil_append]at a1 a2 a3 a4
 have s1:=Qg (u:=[108,116]) (t:=t) (by decide)
 have s2:=Qg (u:=[103,116]) (t:=t) (by decide)
 have s3:=Qg (u:=[97,109,112]) (t:=t) (by decide)
 have s4:=Qg (u:=[113,117,111,116]) (t:=t) (by decide)
 simp only[List.cons_append,List.nil_append]at s1 s2 s3 s4
 unfold Rs.sign yl;cases hd:t.dropWhile qy with
 | nil =>
   have n:∀ u,¬ (t.takeWhile qy=u∧∃ r,t.dropWhile qy=59::r):=fun u h=>by obtain ⟨_,r,h2⟩:=h;rw[hd]at h2;cases h2
   have b1:(⟨38::t,false⟩:Rs).ahead [38,108,116,59]=false:=by rw[a1];exact Bool.eq_false_iff.2 (fun h=>n _ (s1.1 h))
   have b2:(⟨38::t,false⟩:Rs).ahead [38,103,116,59]=false:=by rw[a2];exact Bool.eq_false_iff.2 (fun h=>n _ (s2.1 h))
   have b3:(⟨38::t,false⟩:Rs).ahead [38,97,109,112,59]=false:=by rw[a3];exact Bool.eq_false_iff.2 (fun h=>n _ (s3.1 h))
   have b4:(⟨38::t,false⟩:Rs).ahead [38,113,117,111,116,59]=false:=by rw[a4];exact Bool.eq_false_iff.2 (fun h=>n _ (s4.1 h))
   simp[marksL,Rs.signFrom,b1,b2,b3,b4]
 | cons c r =>
   obtain rfl:=xO hd;have key:∀ u:List UInt8,(t.takeWhile qy=u∧∃ r,t.dropWhile qy=59::r)↔t.takeWhile qy=u:=fun u=>⟨fun h=>h.1,fun h=>⟨h,r,hd⟩⟩
   rw[key]at s1 s2 s3 s4
   generalize hw:t.takeWhile qy=wd at *
   have dr:∀ u:List UInt8,wd=u→t.drop (u.length+1)=r:=fun u h=>qcD (hw.trans h) hd
   by_cases e1:wd=[108,116]
   · have b1 : (⟨38 :: t, false⟩ : Rs).ahead [38, 108, 116, 59] = true := by rw[a1];exact s1.2 e1
     have:=dr _ e1;simp only[List.length_cons,List.length_nil]at this
     simp[marksL,Rs.signFrom,b1,wordsT,e1,this]
   have b1:(⟨38::t,false⟩:Rs).ahead [38,108,116,59]=false:=by rw[a1];exact Bool.eq_false_iff.2 (fun h=>e1 (s1.1 h))
   by_cases e2:wd=[103,116]
   · have b2 : (⟨38 :: t, false⟩ : Rs).ahead [38, 103, 116, 59] = true := by rw[a2];exact s2.2 e2
     have:=dr _ e2;simp only[List.length_cons,List.length_nil]at this
     simp[marksL,Rs.signFrom,b1,b2,wordsT,e2,this]
   have b2:(⟨38::t,false⟩:Rs).ahead [38,103,116,59]=false:=by rw[a2];exact Bool.eq_false_iff.2 (fun h=>e2 (s2.1 h))
   by_cases e3:wd=[97,109,112]
   · have b3 : (⟨38 :: t, false⟩ : Rs).ahead [38, 97, 109, 112, 59] = true := by rw[a3];exact s3.2 e3
     have:=dr _ e3;simp only[List.length_cons,List.length_nil]at this
     simp[marksL,Rs.signFrom,b1,b2,b3,wordsT,e3,this]
   have b3:(⟨38::t,false⟩:Rs).ahead [38,97,109,112,59]=false:=by rw[a3];exact Bool.eq_false_iff.2 (fun h=>e3 (s3.1 h))
   by_cases e4:wd=[113,117,111,116]
   · have b4 : (⟨38 :: t, false⟩ : Rs).ahead [38, 113, 117, 111, 116, 59] = true := by rw[a4];exact s4.2 e4
     have:=dr _ e4;simp only[List.length_cons,List.length_nil]at this
     simp[marksL,Rs.signFrom,b1,b2,b3,b4,wordsT,e4,this]
   have b4:(⟨38::t,false⟩:Rs).ahead [38,113,117,111,116,59]=false:=by rw[a4];exact Bool.eq_false_iff.2 (fun h=>e4 (s4.1 h))
   have f1:([108,116]==wd)=false:=by simpa using fun h=>e1 h.symm
   have f2:([103,116]==wd)=false:=by simpa using fun h=>e2 h.symm
   have f3:([97,109,112]==wd)=false:=by simpa using fun h=>e3 h.symm
   have f4:([113,117,111,116]==wd)=false:=by simpa using fun h=>e4 h.symm
   simp[marksL,Rs.signFrom,b1,b2,b3,b4,wordsT,List.find?,f1,f2,f3,f4]
theorem j2 {c:UInt8}(hc:c≠38)(t:List UInt8):(⟨c::t,false⟩:Rs).sign=(c,⟨t,false⟩):=by
 unfold Rs.sign;simp[marksL,Rs.signFrom,Vz hc,hc]
theorem jA {t r:List UInt8}{x:UInt8}(h:yl t=some (x,r)):r.length<t.length∧sign x=true:=by
 unfold yl at h
 cases hd:t.dropWhile qy with
 | nil=>rw[hd]at h;cases h
 | cons c q =>
   rw[hd]at h
   simp only at h
   have hl:(t.dropWhile qy).length≤t.length:=(List.dropWhile_suffix qy).length_le;rw[hd,List.length_cons]at hl
   cases hf:wordsT.find? (fun p=>p.1==t.takeWhile qy) with
   | none=>rw[hf]at h;cases h
   | some p =>
     rw[hf]at h
     injection h with h
     injection h with h1 h2
     subst h1 h2;refine ⟨by omega,?_⟩
     have hm:=List.mem_of_find?_eq_some hf;simp only[wordsT,List.mem_cons,List.not_mem_nil,or_false]at hm
     rcases hm with rfl|rfl|rfl|rfl<;>decide
theorem Qi (s:List UInt8)(ends:List UInt8):(⟨s,true⟩:Rs).text ends=([],⟨s,true⟩):=jm (y5 rfl)
theorem yC (v:Bool)(c:UInt8)(t:List UInt8):(⟨c::t,false⟩:Rs).goesOn (qE v)=!(decide (c=60)||decide (c=62)||(decide (c=34)&&v)):=by
 unfold Rs.goesOn qE
 by_cases h1:c=60
 · subst h1;cases v<;>rfl
 by_cases h2:c=62
 · subst h2;cases v<;>rfl
 by_cases h3:c=34
 · subst h3;cases v<;>rfl
 have e1:((60:UInt8)==c)=false:=by simpa using fun h=>h1 h.symm
 have e2:((62:UInt8)==c)=false:=by simpa using fun h=>h2 h.symm
 have e3:((34:UInt8)==c)=false:=by simpa using fun h=>h3 h.symm
 cases v<;>simp[valueEnds,textEnds,Lib.indexByte,e1,e2,e3,h1,h2,h3]
theorem xe (v:Bool):∀ (f:Nat)(s out:List UInt8),s.length<f→(zt v f s=some out↔(⟨s,false⟩:Rs).text (qE v)=(out,⟨[],false⟩)∧out.all sign=true):=by
 intro f
 induction f with
 | zero=>intro s out h;omega
 | succ f ih =>
   intro s out h;cases s with
   | nil =>
     have e:(⟨[],false⟩:Rs).text (qE v)=([],⟨[],false⟩):=jm rfl;rw[e,zt]
     constructor
     · intro h1;injection h1 with h1;subst h1;exact ⟨rfl,rfl⟩
     · rintro ⟨h1,_⟩;injection h1 with h1;rw[h1]
   | cons c t =>
     simp only[List.length_cons]at h
     rw[zt]
     by_cases hc:c=38
     · subst hc;rw[if_pos rfl];have hg:(⟨38::t,false⟩:Rs).goesOn (qE v)=true:=by rw[yC];cases v<;>rfl
       rw[jE hg,j3];cases hw:yl t with
       | none =>
         simp only;rw[Qi]
         constructor
         · intro h1;cases h1
         · rintro ⟨h1,_⟩;injection h1 with _ h1;injection h1 with _ h1;cases h1
       | some p =>
         obtain ⟨x,r⟩:=p;obtain ⟨hl,hx⟩:=jA hw;simp only
         constructor
         · intro h1;obtain ⟨o,ho,rfl⟩:=Option.map_eq_some_iff.1 h1;obtain ⟨g1,g2⟩:=(ih r o (by omega)).1 ho
           rw[g1];exact ⟨rfl,by rw[List.all_cons,hx,g2];rfl⟩
         · rintro ⟨h1, h2⟩
           injection h1 with h1 h3
           subst h1;rw[List.all_cons,Bool.and_eq_true]at h2
           rw[(ih r _ (by omega)).2 ⟨by rw[←h3],h2.2⟩]
           rfl
     · rw[if_neg hc];cases he:(decide (c=60)||decide (c=62)||(decide (c=34)&&v)) with
       | true =>
         have hg:(⟨c::t,false⟩:Rs).goesOn (qE v)=false:=by rw[yC,he];rfl
         rw[jm hg,if_pos (by simp)]
         constructor
         · intro h1;cases h1
         · rintro ⟨h1,_⟩;injection h1 with _ h1;injection h1 with h1 _;cases h1
       | false =>
         have hg:(⟨c::t,false⟩:Rs).goesOn (qE v)=true:=by rw[yC,he];rfl
         rw[jE hg,j2 hc];simp only[Bool.false_or];cases hs:sign c with
         | false =>
           rw[if_pos (by simp)]
           constructor
           · intro h1;cases h1
           · rintro ⟨h1, h2⟩
             injection h1 with h1 _
             subst h1;rw[List.all_cons,hs]at h2
             cases h2
         | true =>
           rw[if_neg (by simp)]
           constructor
           · intro h1;obtain ⟨o,ho,rfl⟩:=Option.map_eq_some_iff.1 h1;obtain ⟨g1,g2⟩:=(ih t o (by omega)).1 ho
             rw[g1];exact ⟨rfl,by rw[List.all_cons,hs,g2];rfl⟩
           · rintro ⟨h1, h2⟩
             injection h1 with h1 h3
             subst h1;rw[List.all_cons,Bool.and_eq_true]at h2
             rw[(ih t _ (by omega)).2 ⟨by rw[←h3],h2.2⟩]
             rfl
theorem qep {t r:List UInt8}{x:UInt8}(h:yl t=some (x,r))(y:List UInt8):yl (t++y)=some (x,r++y):=by
 unfold yl at h ⊢
 cases hd:t.dropWhile qy with
 | nil=>rw[hd]at h;cases h
 | cons c q =>
   obtain rfl:=xO hd;have e:t=t.takeWhile qy++59::q:=by rw[←hd];exact (List.takeWhile_append_dropWhile).symm
   have hall:(t.takeWhile qy).all qy=true:=List.all_takeWhile
   generalize hw:t.takeWhile qy=wd at *
   have h2:=qH (p:=qy) (l:=wd) (c:=59) (x:=q++y) hall (by decide)
   have e2:t++y=wd++59::(q++y):=by rw[e,List.append_assoc];rfl
   rw[e2,h2.1,h2.2];rw[hd]at h
   simp only at h ⊢
   cases hf:wordsT.find? (fun p=>p.1==wd) with
   | none=>rw[hf]at h;cases h
   | some p =>
     rw[hf]at h
     injection h with h
     injection h with h1 h2
     subst h1 h2;rfl
theorem qeq {t r p:List UInt8}{x:UInt8}(h:yl t=some (x,r))(hp:∃ y,r=p++y):∃ u,(∀ y,r=p++y→t=u++y)∧yl u=some (x,p):=by
 unfold yl at h
 cases hd:t.dropWhile qy with
 | nil=>rw[hd]at h;cases h
 | cons c q =>
   obtain rfl:=xO hd;have e:t=t.takeWhile qy++59::q:=by rw[←hd];exact (List.takeWhile_append_dropWhile).symm
   have hall:(t.takeWhile qy).all qy=true:=List.all_takeWhile
   generalize hw:t.takeWhile qy=wd at *
   rw[hd]at h
   simp only at h
   cases hf:wordsT.find? (fun p=>p.1==wd) with
   | none=>rw[hf]at h;cases h
   | some z =>
     rw[hf]at h
     injection h with h
     injection h with h1 h2
     subst h1 h2;refine ⟨wd++59::p,fun y hy=>?_,?_⟩
     · rw[e,hy,List.append_assoc];rfl
     · have h3 := qH (p := qy) (l := wd) (c := 59) (x := p) hall (by decide)
       unfold yl;rw[h3.1,h3.2];simp only;rw[hf]
theorem VS (v:Bool)(y:List UInt8)(hy:(⟨y,false⟩:Rs).goesOn (qE v)=false):∀ (n:Nat)(s out:List UInt8),s.length<n→(⟨s,false⟩:Rs).text (qE v)=(out,⟨[],false⟩)→(⟨s++y,false⟩:Rs).text (qE v)=(out,⟨y,false⟩):=by
 intro n
 induction n with
 | zero=>intro s out h;omega
 | succ n ih =>
   intro s out h hs;cases s with
   | nil =>
     have e:(⟨[],false⟩:Rs).text (qE v)=([],⟨[],false⟩):=jm rfl;rw[e]at hs
     injection hs with h1 _
     subst h1;exact jm hy
   | cons c t =>
     simp only[List.length_cons]at h
     cases hg:(⟨c::t,false⟩:Rs).goesOn (qE v) with
     | false =>
       rw[jm hg]at hs
       injection hs with _ h1
       injection h1 with h1 _
       cases h1
     | true =>
       have hg2:(⟨c::t++y,false⟩:Rs).goesOn (qE v)=true:=by
        rw[yC]at hg
        show (⟨c::(t++y),false⟩:Rs).goesOn (qE v)=true
        rw[yC];exact hg
       rw[jE hg]at hs
       rw[jE hg2]
       by_cases hc:c=38
       · subst hc;rw[j3]at hs
         show _=_
         rw[show (38::t++y:List UInt8)=38::(t++y) from rfl,j3]
         cases hw:yl t with
         | none =>
           rw[hw]at hs
           simp only at hs
           rw[Qi]at hs
           injection hs with _ h1
           injection h1 with _ h1
           cases h1
         | some p =>
           obtain ⟨x,r⟩:=p;rw[hw]at hs
           rw[qep hw];simp only at hs ⊢
           have hl:=(jA hw).1
           injection hs with h1 h2
           have h3:=ih r _ (by omega) (Prod.ext rfl h2:(⟨r,false⟩:Rs).text (qE v)=(((⟨r,false⟩:Rs).text (qE v)).1,⟨[],false⟩))
           rw[h3];rw[←h1]
       · rw[j2 hc]at hs
         rw[show (c::t++y:List UInt8)=c::(t++y) from rfl,j2 hc]
         simp only at hs ⊢
         injection hs with h1 h2
         have h3:=ih t _ (by omega) (Prod.ext rfl h2:(⟨t,false⟩:Rs).text (qE v)=(((⟨t,false⟩:Rs).text (qE v)).1,⟨[],false⟩))
         rw[h3,←h1]
theorem VT (v:Bool):∀ (n:Nat)(s out y:List UInt8),s.length<n→(⟨s,false⟩:Rs).text (qE v)=(out,⟨y,false⟩)→∃ p,s=p++y∧(⟨p,false⟩:Rs).text (qE v)=(out,⟨[],false⟩)∧(⟨y,false⟩:Rs).goesOn (qE v)=false:=by
 intro n
 induction n with
 | zero=>intro s out y h;omega
 | succ n ih =>
   intro s out y h hs;cases hg:(⟨s,false⟩:Rs).goesOn (qE v) with
   | false =>
     rw[jm hg]at hs
     injection hs with h1 h2
     injection h2 with h2 _
     subst h1 h2;exact ⟨[],rfl,jm rfl,hg⟩
   | true =>
     cases s with
     | nil=>cases hg
     | cons c t =>
       simp only[List.length_cons]at h
       rw[jE hg]at hs
       by_cases hc:c=38
       · subst hc;rw[j3]at hs
         cases hw:yl t with
         | none =>
           rw[hw]at hs
           simp only at hs
           rw[Qi]at hs
           injection hs with _ h1
           injection h1 with _ h1
           cases h1
         | some q =>
           obtain ⟨x,r⟩:=q;rw[hw]at hs
           simp only at hs
           have hl:=(jA hw).1
           injection hs with h1 h2
           obtain ⟨p,hp,ht,hy⟩:=ih r _ y (by omega) (Prod.ext rfl h2:(⟨r,false⟩:Rs).text (qE v)=(((⟨r,false⟩:Rs).text (qE v)).1,⟨y,false⟩))
           obtain ⟨u,hu,hwu⟩:=qeq hw ⟨y,hp⟩;refine ⟨38::u,by rw[hu y hp];rfl,?_,hy⟩
           have hg3:(⟨38::u,false⟩:Rs).goesOn (qE v)=true:=by rw[yC]at hg ⊢;exact hg
           rw[jE hg3,j3,hwu];simp only;rw[ht,←h1]
       · rw[j2 hc]at hs
         simp only at hs
         injection hs with h1 h2
         obtain ⟨p,hp,ht,hy⟩:=ih t _ y (by omega) (Prod.ext rfl h2:(⟨t,false⟩:Rs).text (qE v)=(((⟨t,false⟩:Rs).text (qE v)).1,⟨y,false⟩))
         refine ⟨c::p,by rw[hp];rfl,?_,hy⟩
         have hg3:(⟨c::p,false⟩:Rs).goesOn (qE v)=true:=by rw[yC]at hg ⊢;exact hg
         rw[jE hg3,j2 hc];simp only;rw[ht,←h1]
def zC (c:UInt8):Bool:=decide (c≠34)
def qI (l:List UInt8):Bool:=decide (l≠[])&&decide (l.length≤8)&&l.all qg
def attrsL:Nat→List UInt8→Option (List (List UInt8 × List UInt8))
 | 0,_=>none
 | f + 1, m =>
   if m.all qo then some [] else
   if (m.dropWhile qo).length=m.length then none else
   if !qI ((m.dropWhile qo).takeWhile qg) then none else
   match (m.dropWhile qo).dropWhile qg with
   | 61 :: 34 :: after => match after.dropWhile zC with
     | []=>none
     | _ :: next => match zt true (after.length + 1) (after.takeWhile zC) with
       | none=>none
       | some x=>(attrsL f next).map (((m.dropWhile qo).takeWhile qg,x)::·)
   | _=>none
def xQ (y:List UInt8):Bool:=match y with
 | []=>false
 | c::_=>decide (c=47)||decide (c=62)
theorem xN {p:UInt8→Bool}:∀ {l:List UInt8}(y:List UInt8),l.all p=true→(l++y).dropWhile p=y.dropWhile p:=by
 intro l
 induction l with
 | nil=>intro y _;rfl
 | cons c l ih =>
   intro y h;rw[List.all_cons,Bool.and_eq_true]at h
   rw[List.cons_append,List.dropWhile_cons,if_pos h.1];exact ih y h.2
theorem QQ {y:List UInt8}(h:xQ y=true):y.dropWhile qo=y∧(∀ c r,y=c::r→qg c=false):=by
 cases y with
 | nil=>cases h
 | cons c r =>
   simp only[xQ,Bool.or_eq_true,decide_eq_true_eq]at h
   rcases h with rfl|rfl
   · exact ⟨rfl,fun c r e=>by injection e with e _;subst e;rfl⟩
   · exact ⟨rfl,fun c r e=>by injection e with e _;subst e;rfl⟩
theorem qeY {sp y:List UInt8}(hs:sp.all qo=true)(hy:xQ y=true):(⟨sp++y,false⟩:Rs).attrAhead=false:=by
 unfold Rs.attrAhead;rw[xN y hs,(QQ hy).1];cases y with
 | nil=>simp
 | cons c r=>simp[(QQ hy).2 c r rfl]
theorem yL {p:UInt8→Bool}{l:List UInt8}:∃ a b,l=a++b∧l.takeWhile p=a∧l.dropWhile p=b∧a.all p=true :=
 ⟨_,_,(List.takeWhile_append_dropWhile).symm,rfl,rfl,List.all_takeWhile⟩
theorem Kx (y:List UInt8)(hy:xQ y=true):∀ (f:Nat)(m:List UInt8)(L:List (List UInt8 × List UInt8)),attrsL f m=some L→∃ sp,sp.all qo=true∧(⟨m++y,false⟩:Rs).attrs=(L,⟨sp++y,false⟩):=by
 intro f
 induction f with
 | zero=>intro m L h;cases h
 | succ f ih =>
   intro m L h;rw[attrsL]at h
   by_cases hall:m.all qo=true
   · rw[if_pos hall]at h
     injection h with h
     subst h;exact ⟨m,hall,Zq (qeY hall hy)⟩
   rw[if_neg hall]at h
   by_cases hlen:(m.dropWhile qo).length=m.length
   · rw[if_pos hlen]at h;cases h
   rw[if_neg hlen]at h
   obtain ⟨sp,rest,hm,_,hd,hsp⟩:=yL (p:=qo) (l:=m);rw[hd]at h hlen
   obtain ⟨nm,tail,hr,ht,hdl,hnm⟩:=yL (p:=qg) (l:=rest);rw[ht,hdl]at h
   by_cases hok:qI nm=true
   · rw[hok]at h
     simp only[Bool.not_true,Bool.false_eq_true,if_false]at h
     obtain ⟨c0,nm',hnm0⟩:∃ c0 nm',nm=c0::nm':=by
      cases nm with
      | nil=>simp[qI]at hok
      | cons c0 nm'=>exact ⟨c0,nm',rfl⟩
     by_cases ht2:∃ after,tail=61::34::after
     · obtain ⟨after, rfl⟩ := ht2;simp only at h
       obtain ⟨value,q,ha,htv,hdq,hv⟩:=yL (p:=zC) (l:=after);rw[hdq,htv]at h
       match q,hdq,ha,h with
       | [],_,_,h=>cases h
       | c :: next, hdq, ha, h =>
         simp only at h
         have hc:c=34:=by
          have:=List.head?_dropWhile_not zC after;rw[hdq]at this
          simpa[zC] using this
         subst hc;cases hmn:zt true (after.length+1) value with
         | none=>rw[hmn]at h;cases h
         | some x =>
           rw[hmn]at h
           simp only at h
           obtain ⟨L',hL',rfl⟩:=Option.map_eq_some_iff.1 h;obtain ⟨sp',hsp',hat⟩:=ih next L' hL';refine ⟨sp',hsp',?_⟩;have hl:value.length<after.length+1:=by rw[ha,List.length_append];omega
           obtain ⟨htx,_⟩:=(xe true _ value x hl).1 hmn;have hstop:(⟨34::(next++y),false⟩:Rs).goesOn (qE true)=false:=by rw[yC];rfl
           have htx2:=VS true (34::(next++y)) hstop _ value x (Nat.lt_succ_self _) htx;have hlet:qg c0=true:=by rw[hnm0,List.all_cons,Bool.and_eq_true]at hnm;exact hnm.1
           have hrest:rest++y=nm++61::(34::(after++y)):=by rw[hr,List.append_assoc];rfl
           have hdw:(m++y).dropWhile qo=rest++y:=by
            rw[hm,List.append_assoc,xN _ hsp,hrest,hnm0,List.cons_append,List.dropWhile_cons,y9 hlet];rfl
           have h2:=qH (p:=qg) (l:=nm) (c:=61) (x:=34::(after++y)) hnm (by decide)
           have hah:(⟨m++y,false⟩:Rs).attrAhead=true:=by
            unfold Rs.attrAhead;rw[hdw]
            have h3:(rest++y).length<(m++y).length:=by
             have h4:m.length=sp.length+rest.length:=by rw[hm,List.length_append]
             rw[List.length_append,List.length_append];omega
            have h5:rest++y=c0::(nm'++61::(34::(after++y))):=by rw[hrest,hnm0];rfl
            simp only[Bool.not_false,Bool.true_and,h3,decide_true];rw[h5];exact hlet
           rw[YE hah];have hav:after++y=value++34::(next++y):=by rw[ha,List.append_assoc];rfl
           have hattr:(⟨m++y,false⟩:Rs).attr=((nm,x),⟨next++y,false⟩):=by
            unfold Rs.attr Rs.skip Rs.nameOf Rs.name;simp only;rw[hdw,hrest,h2.1,h2.2];have hmu:(⟨61::(34::(after++y)),false⟩:Rs).must [61,34]=⟨after++y,false⟩:=xz [61,34] (after++y);rw[hmu,hav];have e2:(⟨value++34::(next++y),false⟩:Rs).text valueEnds=(x,⟨34::(next++y),false⟩):=htx2;rw[e2];have hmu2:(⟨34::(next++y),false⟩:Rs).must [34]=⟨next++y,false⟩:=xz [34] (next++y);simp only;rw[hmu2]
           rw[hattr];simp only;rw[hat]
     · exfalso
       split at h
       · exact ht2 ⟨_,rfl⟩
       · cases h
   · have : qI nm = false := by simpa using hok
     rw[this]at h
     simp at h
theorem xS {r:Rs}{p:List UInt8}(h:(r.must p).wrong=false):r.wrong=false∧r.rest=p++(r.must p).rest:=by
 unfold Rs.must at h ⊢
 by_cases ha:r.ahead p=true
 · rw[if_pos ha]at h ⊢
   unfold Rs.ahead at ha
   rw[Bool.and_eq_true]at ha
   obtain ⟨q,hq⟩:=List.isPrefixOf_iff_prefix.1 ha.2;refine ⟨h,?_⟩;rw[←hq];simp
 · rw[if_neg ha]at h;cases h
theorem qej {r:Rs}{ends:List UInt8}(h:(r.text ends).2.wrong=false):r.wrong=false:=by
 cases hw:r.wrong with
 | false=>rfl
 | true=>rw[jm (y5 hw)]at h;rw[hw]at h;exact h
def z7 (c:UInt8):Bool:=decide (c≠60)
def zK (c:UInt8):Bool:=decide (c≠62)
theorem qeo (q:UInt8→Bool)(hq:wordsT.all (fun p=>p.1.all q)=true)(h59:q 59=true){t r:List UInt8}{x:UInt8}(h:yl t=some (x,r)):t.all q=r.all q:=by
 unfold yl at h
 cases hd:t.dropWhile qy with
 | nil=>rw[hd]at h;cases h
 | cons c w =>
   obtain rfl:=xO hd;have e:t=t.takeWhile qy++59::w:=by rw[←hd];exact (List.takeWhile_append_dropWhile).symm
   generalize hw:t.takeWhile qy=wd at *
   rw[hd]at h
   simp only at h
   cases hf:wordsT.find? (fun p=>p.1==wd) with
   | none=>rw[hf]at h;cases h
   | some z =>
     rw[hf]at h
     injection h with h
     injection h with h1 h2
     subst h1 h2;have hm:=List.mem_of_find?_eq_some hf;have hz:=List.find?_some hf;have hz2:z.1=wd:=by simpa using hz
     rw[e,List.all_append,List.all_cons,←hz2,List.all_eq_true.1 hq z hm,h59];rfl
theorem X3 (v:Bool)(q:UInt8→Bool)(hq:wordsT.all (fun p=>p.1.all q)=true)(h59:q 59=true)(hc:∀ c t,(⟨c::t,false⟩:Rs).goesOn (qE v)=true→q c=true):∀ (n:Nat)(p out:List UInt8),p.length<n→(⟨p,false⟩:Rs).text (qE v)=(out,⟨[],false⟩)→p.all q=true:=by
 intro n
 induction n with
 | zero=>intro p out h;omega
 | succ n ih =>
   intro p out h hp;cases p with
   | nil=>rfl
   | cons c t =>
     simp only[List.length_cons]at h
     cases hg:(⟨c::t,false⟩:Rs).goesOn (qE v) with
     | false =>
       rw[jm hg]at hp
       injection hp with _ h1
       injection h1 with h1 _
       cases h1
     | true =>
       have hc34:=hc c t hg;rw[jE hg]at hp
       rw[List.all_cons,hc34,Bool.true_and]
       by_cases hc:c=38
       · subst hc;rw[j3]at hp
         cases hw:yl t with
         | none =>
           rw[hw]at hp
           simp only at hp
           rw[Qi]at hp
           injection hp with _ h1
           injection h1 with _ h1
           cases h1
         | some z =>
           obtain ⟨x,r⟩:=z;rw[hw]at hp
           simp only at hp
           injection hp with h1 h2
           have hl:=(jA hw).1;rw[qeo q hq h59 hw];exact ih r _ (by omega) (Prod.ext rfl h2:(⟨r,false⟩:Rs).text (qE v)=(((⟨r,false⟩:Rs).text (qE v)).1,⟨[],false⟩))
       · rw[j2 hc]at hp
         simp only at hp
         injection hp with h1 h2
         exact ih t _ (by omega) (Prod.ext rfl h2:(⟨t,false⟩:Rs).text (qE v)=(((⟨t,false⟩:Rs).text (qE v)).1,⟨[],false⟩))
theorem qdM (p out:List UInt8)(h:(⟨p,false⟩:Rs).text (qE true)=(out,⟨[],false⟩)):p.all zC=true :=
 X3 true zC (by decide) (by decide) (fun c t hg=>by
  rw[yC]at hg
  by_cases h:c=34
  · subst h;cases hg
  · simp[zC,h]) _ p out (Nat.lt_succ_self _) h
theorem qfQ (v:Bool)(p out:List UInt8)(h:(⟨p,false⟩:Rs).text (qE v)=(out,⟨[],false⟩)):p.all z7=true :=
 X3 v z7 (by decide) (by decide) (fun c t hg=>by
  rw[yC]at hg
  by_cases h:c=60
  · subst h;cases v<;>cases hg
  · simp[z7,h]) _ p out (Nat.lt_succ_self _) h
theorem qfq (v:Bool)(p out:List UInt8)(h:(⟨p,false⟩:Rs).text (qE v)=(out,⟨[],false⟩)):p.all zK=true :=
 X3 v zK (by decide) (by decide) (fun c t hg=>by
  rw[yC]at hg
  by_cases h:c=62
  · subst h;cases v<;>cases hg
  · simp[zK,h]) _ p out (Nat.lt_succ_self _) h
theorem xJ {p q:UInt8→Bool}{l:List UInt8}(h:∀ c,p c=true→q c=true)(hl:l.all p=true):l.all q=true:=by
 rw[List.all_eq_true]at hl ⊢
 exact fun c hc=>h c (hl c hc)
theorem Z0 (c:UInt8)(h:qg c=true):zK c=true:=by
 by_cases e:c=62
 · subst e;cases h
 · simp[zK,e]
theorem Jn (c:UInt8)(h:qo c=true):zK c=true:=by
 by_cases e:c=62
 · subst e;cases h
 · simp[zK,e]
theorem Ky {r:Rs}(h:r.wrong=true):r.attrs=([],r):=Zq (by unfold Rs.attrAhead;rw[h];rfl)
theorem attrs_complete:∀ (n:Nat)(s:List UInt8)(L:List (List UInt8 × List UInt8))(z:List UInt8),s.length<n→(⟨s,false⟩:Rs).attrs=(L,⟨z,false⟩)→(∀ a∈L,qI a.1=true∧a.2.all sign=true) →
 ∃ m0,s=m0++z∧m0.all zK=true∧(m0=[]∨∃ u,m0=u++[34])∧∀ (sp:List UInt8) (f:Nat),sp.all qo=true→(m0++sp).length<f→attrsL f (m0++sp)=some L:=by
 intro n
 induction n with
 | zero=>intro s L z h;omega
 | succ n ih =>
   intro s L z h hs hL;cases hah:(⟨s,false⟩:Rs).attrAhead with
   | false =>
     rw[Zq hah]at hs
     injection hs with h1 h2
     injection h2 with h2 _
     subst h1 h2;refine ⟨[],rfl,rfl,Or.inl rfl,fun sp f hsp hf=>?_⟩
     cases f with
     | zero=>omega
     | succ f=>rw[List.nil_append,attrsL,if_pos hsp]
   | true =>
     rw[YE hah]at hs
     injection hs with h1 h2
     subst h1;obtain ⟨hok,hval⟩:=hL _ List.mem_cons_self;unfold Rs.attrAhead at hah
     simp only[Bool.not_false,Bool.true_and,Bool.and_eq_true,decide_eq_true_eq]at hah
     obtain ⟨sp1,rest,hsr,_,hdr,hsp1⟩:=yL (p:=qo) (l:=s);rw[hdr]at hah
     obtain ⟨nm,tl,hrt,htn,hdt,hnm⟩:=yL (p:=qg) (l:=rest)
     have hw2:(⟨s,false⟩:Rs).attr.2.wrong=false:=by
      cases hw:(⟨s,false⟩:Rs).attr.2.wrong with
      | false=>rfl
      | true=>rw[Ky hw]at h2;simp only at h2;rw[h2]at hw;cases hw
     have e1:(⟨s,false⟩:Rs).attr=((nm,(((⟨tl,false⟩:Rs).must [61,34]).text valueEnds).1),((((⟨tl,false⟩:Rs).must [61,34]).text valueEnds).2.must [34])):=by
      unfold Rs.attr Rs.skip Rs.nameOf Rs.name;simp only;rw[hdr,htn,hdt]
     rw[e1]at hw2 h2 hok hval hL
     simp only at hw2 h2 hok hval
     obtain ⟨g1,g2⟩:=xS hw2;have g3:=qej g1;obtain ⟨_,g4⟩:=xS g3;simp only at g4
     have g5:((⟨tl,false⟩:Rs).must [61,34])=⟨((⟨tl,false⟩:Rs).must [61,34]).rest,false⟩:=by
      cases hq:((⟨tl,false⟩:Rs).must [61,34]) with
      | mk a b=>rw[hq]at g3;simp only at g3;rw[g3]
     generalize haf:((⟨tl,false⟩:Rs).must [61,34]).rest=after at *
     rw[g5]at g1 g2 h2 hval hw2
     have g6:((⟨after,false⟩:Rs).text valueEnds).2=⟨34::(((⟨after,false⟩:Rs).text valueEnds).2.must [34]).rest,false⟩:=by
      cases hq:((⟨after,false⟩:Rs).text valueEnds).2 with
      | mk a b =>
        rw[hq]at g1 g2
        simp only at g1 g2
        rw[g1]at hq ⊢
        rw[g1]at g2
        rw[g2]
        congr 1
     have g7:(((⟨after,false⟩:Rs).text valueEnds).2.must [34])=⟨(((⟨after,false⟩:Rs).text valueEnds).2.must [34]).rest,false⟩:=by
      cases hq:(((⟨after,false⟩:Rs).text valueEnds).2.must [34]) with
      | mk a b=>rw[hq]at hw2;simp only at hw2;rw[hw2]
     generalize hnx:(((⟨after,false⟩:Rs).text valueEnds).2.must [34]).rest=next at *
     generalize hx:((⟨after,false⟩:Rs).text valueEnds).1=x at *
     have htx:(⟨after,false⟩:Rs).text (qE true)=(x,⟨34::next,false⟩):=Prod.ext hx g6;obtain ⟨p,hp,hpt,_⟩:=VT true _ after x (34::next) (Nat.lt_succ_self _) htx;have hnq:=qdM p x hpt
     have hlen:next.length<n:=by
      have a1:s.length=sp1.length+rest.length:=by rw[hsr,List.length_append]
      have a2:rest.length=nm.length+tl.length:=by rw[hrt,List.length_append]
      have a3:tl.length=2+after.length:=by rw[g4];simp;omega
      have a4:after.length=p.length+(next.length+1):=by rw[hp];simp
      omega
     rw[g7]at h2
     obtain ⟨m0,hm0,hgt,hlast,hrec⟩:=ih next _ z hlen (Prod.ext rfl h2:(⟨next,false⟩:Rs).attrs=(((⟨next,false⟩:Rs).attrs).1,⟨z,false⟩)) (fun a ha=>hL a (by rw[g5,g7];exact List.mem_cons_of_mem _ ha))
     obtain ⟨c0,nm',hnm0⟩:∃ c0 nm',nm=c0::nm':=by
      cases nm with
      | nil=>simp[qI]at hok
      | cons c0 nm'=>exact ⟨c0,nm',rfl⟩
     have hlet:qg c0=true:=by rw[hnm0,List.all_cons,Bool.and_eq_true]at hnm;exact hnm.1
     refine ⟨sp1++(nm++61::34::(p++34::m0)),?_,?_,Or.inr ?_,fun sp f hsp hf=>?_⟩
     · rw[hsr,hrt,g4,hp,hm0];simp[List.append_assoc]
     · rw[List.all_append, List.all_append, List.all_cons, List.all_cons, List.all_append, List.all_cons, xJ Jn hsp1, xJ Z0 hnm, qfq true p x hpt, hgt];rfl
     · rcases hlast with rfl | ⟨u, rfl⟩
       · exact ⟨sp1++(nm++61::34::p),by simp[List.append_assoc]⟩
       · exact ⟨sp1++(nm++61::34::(p++34::u)),by simp[List.append_assoc]⟩
     · cases f with
       | zero=>omega
       | succ f =>
         have eA:sp1++(nm++61::34::(p++34::m0))++sp=sp1++(nm++61::(34::(p++34::(m0++sp)))):=by simp[List.append_assoc]
         rw[eA]at hf ⊢
         have hdA:(sp1++(nm++61::(34::(p++34::(m0++sp))))).dropWhile qo=nm++61::(34::(p++34::(m0++sp))):=by
          rw[xN _ hsp1,hnm0,List.cons_append,List.dropWhile_cons,y9 hlet];rfl
         have hnA:¬ (sp1++(nm++61::(34::(p++34::(m0++sp))))).all qo=true:=by
          rw[List.all_append,hnm0,List.cons_append,List.all_cons,y9 hlet];simp
         have hsl:0<sp1.length:=by
          have a1:s.length=sp1.length+rest.length:=by rw[hsr,List.length_append]
          have a2:=hah.1;omega
         have h2w:=qH (p:=qg) (l:=nm) (c:=61) (x:=34::(p++34::(m0++sp))) hnm (by decide)
         have h3w:=qH (p:=zC) (l:=p) (c:=34) (x:=m0++sp) hnq (by decide)
         have hmt:zt true ((p++34::(m0++sp)).length+1) p=some x:=(xe true _ p x (by rw[List.length_append];omega)).2 ⟨hpt,hval⟩
         have hrc:=hrec sp f hsp (by simp only[List.length_append,List.length_cons]at hf ⊢;omega)
         have hne:¬ (nm++61::(34::(p++34::(m0++sp)))).length=(sp1++(nm++61::(34::(p++34::(m0++sp))))).length:=by
          intro hq;have hq2:=congrArg (fun n=>n) hq
          simp only[List.length_append]at hq2
          omega
         rw[attrsL,if_neg hnA,hdA,if_neg hne,h2w.1,hok];simp only[Bool.not_true,Bool.false_eq_true,if_false];rw[h2w.2];simp only;rw[h3w.2];simp only;rw[h3w.1,hmt];simp only;rw[hrc,e1,g5,g7];simp only[Option.map_some];rw[hx]
def xU (x:List UInt8)(l:List (List UInt8 × List UInt8)):Nat→Nat
 | 0=>0
 | k+1=>if x<(l.getD k default).1 then xU x l k else k+1
def JL (l:List (List UInt8 × List UInt8))(x:List UInt8 × List UInt8):List (List UInt8 × List UInt8):=l.take (xU x.1 l l.length)++x::l.drop (xU x.1 l l.length)
def qW (L:List (List UInt8 × List UInt8)):List (List UInt8 × List UInt8):=L.foldl JL []
theorem qb4 (l:List (List UInt8 × List UInt8))(x:List UInt8 × List UInt8):(JL l x).Perm (x::l):=by
 unfold JL;refine List.perm_middle.trans ?_;rw[List.take_append_drop]
theorem insF_perm:∀ (L l:List (List UInt8 × List UInt8)),(L.foldl JL l).Perm (L++l):=by
 intro L
 induction L with
 | nil=>intro l;exact List.Perm.refl _
 | cons x L ih =>
   intro l;refine (ih (JL l x)).trans ?_;refine ((qb4 l x).append_left L).trans ?_;rw[List.cons_append];exact List.perm_middle
theorem jZ (L:List (List UInt8 × List UInt8)):(qW L).Perm L:=by
 have:=insF_perm L []
 rwa [List.append_nil]at this
theorem qe3 (x:List UInt8)(l:List (List UInt8 × List UInt8)):∀ k,xU x l k≤k:=by
 intro k
 induction k with
 | zero=>exact nR9 _
 | succ k ih=>unfold xU;split<;>omega
theorem qaP (x:List UInt8)(l:List (List UInt8 × List UInt8)):∀ k,(∀ i,xU x l k≤i→i<k→x<(l.getD i default).1)∧(0<xU x l k→¬ x<(l.getD (xU x l k-1) default).1):=by
 intro k
 induction k with
 | zero=>exact ⟨fun i _ h=>absurd h (Nat.not_lt_zero _),fun h=>absurd h (Nat.lt_irrefl _)⟩
 | succ k ih =>
   by_cases h:x<(l.getD k default).1
   · have e : xU x l (k + 1) = xU x l k := by rw[xU, if_pos h]
     rw[e];refine ⟨fun i h1 h2=>?_,ih.2⟩
     by_cases hi:i=k
     · rw[hi];exact h
     · exact ih.1 i h1 (by omega)
   · have e : xU x l (k + 1) = k + 1 := by rw[xU, if_neg h]
     rw[e];exact ⟨fun i h1 h2=>by omega,fun _=>by simpa using h⟩
theorem qbu {l:List (List UInt8 × List UInt8)}{i:Nat}(h:i<l.length):l.getD i default=l[i]:=by
 rw[List.getD_eq_getElem?_getD,List.getElem?_eq_getElem h];rfl
theorem K7 {l:List (List UInt8 × List UInt8)}(h:l.Pairwise fun a b=>a.1≤b.1)(x:List UInt8 × List UInt8):(JL l x).Pairwise fun a b=>a.1≤b.1:=by
 obtain ⟨f1,f2⟩:=qaP x.1 l l.length;have hle:=qe3 x.1 l l.length;unfold JL
 generalize xU x.1 l l.length=k at *
 rw[List.pairwise_append,List.pairwise_cons]
 have hd:∀ b∈l.drop k,x.1≤b.1:=by
  intro b hb;obtain ⟨i,hi,rfl⟩:=List.getElem_of_mem hb;rw[List.getElem_drop];rw[List.length_drop]at hi
  have:=f1 (k+i) (by omega) (by omega)
  rw[qbu (by omega)]at this
  exact List.le_of_lt this
 have ht:∀ a∈l.take k,a.1≤x.1:=by
  intro a ha;obtain ⟨i,hi,rfl⟩:=List.getElem_of_mem ha;rw[List.getElem_take];rw[List.length_take]at hi
  have h0:0<k:=by omega
  have:=f2 h0;rw[qbu (by omega)]at this
  have h3:l[k-1].1≤x.1:=List.not_lt.1 this
  by_cases hik:i=k-1
  · subst hik;exact h3
  · exact List.le_trans (List.pairwise_iff_getElem.1 h i (k-1) (by omega) (by omega) (by omega)) h3
 refine ⟨h.sublist (List.take_sublist _ _),⟨hd,h.sublist (List.drop_sublist _ _)⟩,?_⟩;intro a ha b hb;rw[List.mem_cons]at hb
 rcases hb with rfl|hb
 · exact ht a ha
 · exact List.le_trans (ht a ha) (hd b hb)
theorem insF_sorted:∀ (L l:List (List UInt8 × List UInt8)),(l.Pairwise fun a b=>a.1≤b.1)→(L.foldl JL l).Pairwise fun a b=>a.1≤b.1:=by
 intro L
 induction L with
 | nil=>intro l h;exact h
 | cons x L ih=>intro l h;exact ih _ (K7 h x)
theorem K6 (L:List (List UInt8 × List UInt8)):(qW L).Pairwise fun a b=>a.1≤b.1:=insF_sorted L [] List.Pairwise.nil
theorem VF {A B:List (List UInt8 × List UInt8)}(hA:A.Pairwise fun x y=>x.1<y.1)(hB:B.Pairwise fun x y=>x.1≤y.1)(hp:B.Perm A):B=A:=by
 refine List.Perm.eq_of_pairwise (le:=fun x y=>x.1≤y.1) ?_ hB (hA.imp fun h=>List.le_of_lt h) hp
 intro a b ha hb h1 h2;exact qdR hA a (hp.mem_iff.1 ha) b hb (List.le_antisymm h1 h2)
theorem Xc (l:List (List UInt8 × List UInt8)):(asB l).map ZV=l:=by
 unfold asB;rw[List.map_map];exact List.map_id'' (fun x=>by simp[ZV,qa]) l
theorem Jm {L:List (List UInt8 × List UInt8)}(h:q7 (asB (sortA L))=true∨q7 (asB (qW L))=true):sortA L=qW L:=by
 rcases h with h|h
 · have := YF h;rw[Xc]at this
   exact (VF this (K6 L) ((jZ L).trans (xi L).symm)).symm
 · have := YF h;rw[Xc]at this
   exact VF this (Kk L) ((xi L).trans (jZ L).symm)
def ZS (u:List UInt8):List UInt8:=(u.reverse.dropWhile qo).reverse
def yQ (T k:Tr):Tr:={ T with kids:=T.kids++[k] }
def Qr (T:Tr)(l:List Tr):Tr:={ T with kids:=T.kids++l }
def yq (m:List UInt8):Option (List UInt8 × List (List UInt8 × List UInt8) × Bool) :=
 if !qI ((if decide (m.getLast?=some 47) then m.dropLast else m).takeWhile qg) then none else
 match attrsL ((if decide (m.getLast?=some 47) then m.dropLast else m).length+1) ((if decide (m.getLast?=some 47) then m.dropLast else m).dropWhile qg) with
 | none=>none
 | some L=>some ((if decide (m.getLast?=some 47) then m.dropLast else m).takeWhile qg,L,decide (m.getLast?=some 47))
def xE (st:List Tr)(u:List UInt8):Option (List Tr):=match st with
 | T::T2::st=>if qa (ZS u)=T.s then some (yQ T2 T::st) else none
 | _=>none
def yJ (st:List Tr)(m:List UInt8):Option (List Tr):=match yq m with
 | none=>none
 | some (nm, L, e) => if 8 < st.length then none else match st with
   | []=>none
   | T::st=>if e then some (yQ T ⟨false,qa nm,asB (qW L),[]⟩::st) else some (⟨false,qa nm,asB (qW L),[]⟩::T::st)
def yB (st:List Tr)(p:List UInt8):Option (List Tr):=match zt false (p.length+1) p with
 | none=>none
 | some v => match st with
   | []=>none
   | T::st=>some (yQ T ⟨true,qa v,[],[]⟩::st)
def zG (st:List Tr)(m:List UInt8):Option (List Tr):=match m with
 | []=>yJ st []
 | c::u=>if c=47 then xE st u else yJ st (c::u)
def runD:Nat→List Tr→List UInt8→Option (List Tr)
 | 0,_,_=>none
 | _+1,st,[]=>some st
 | f + 1, st, c :: t =>
   if c=60 then match t.dropWhile zK with
    | []=>none
    | _ :: r => match zG st (t.takeWhile zK) with
      | none=>none
      | some st'=>runD f st' r
   else match yB st ((c::t).takeWhile z7) with
    | none=>none
    | some st'=>runD f st' ((c::t).dropWhile z7)
theorem q6 (p:UInt8→Bool)(l:List UInt8):(l.dropWhile p).length≤l.length:=(List.dropWhile_suffix p).length_le
theorem run_fuel:∀ (f g:Nat)(st:List Tr)(s:List UInt8),s.length<f→s.length<g→runD f st s=runD g st s:=by
 intro f
 induction f with
 | zero=>intro g st s h;omega
 | succ f ih =>
   intro g st s h hg;cases g with
   | zero=>omega
   | succ g =>
     cases s with
     | nil=>rfl
     | cons c t =>
       simp only[List.length_cons]at h hg
       rw[runD,runD]
       by_cases hc:c=60
       · rw[if_pos hc, if_pos hc];cases hd:t.dropWhile zK with
         | nil=>rfl
         | cons x r =>
           have hl:=q6 zK t;rw[hd,List.length_cons]at hl
           simp only;cases zG st (t.takeWhile zK) with
           | none=>rfl
           | some st'=>exact ih g st' r (by omega) (by omega)
       · rw[if_neg hc, if_neg hc]
         have hl:((c::t).dropWhile z7).length≤t.length:=by
          rw[List.dropWhile_cons,if_pos (by simp[z7,hc])]
          exact q6 _ _
         cases yB st ((c::t).takeWhile z7) with
         | none=>rfl
         | some st'=>exact ih g st' _ (by omega) (by omega)
def run (st:List Tr)(s:List UInt8):Option (List Tr):=runD (s.length+1) st s
theorem qbG (st:List Tr):run st []=some st:=rfl
theorem ZL (st:List Tr)(m r:List UInt8)(hm:m.all zK=true):run st (60::(m++62::r))=match zG st m with
 | none=>none
 | some st'=>run st' r:=by
 have h:=qH (p:=zK) (l:=m) (c:=62) (x:=r) hm (by decide)
 unfold run;rw[runD,if_pos rfl,h.1,h.2];simp only;cases zG st m with
 | none=>rfl
 | some st'=>exact run_fuel _ _ _ _ (by simp[List.length_append];omega) (Nat.lt_succ_self _)
theorem qdZ (st:List Tr)(t:List UInt8)(h:t.dropWhile zK=[]):run st (60::t)=none:=by
 unfold run;rw[runD,if_pos rfl,h]
theorem Xw {p:UInt8→Bool}:∀ {l:List UInt8},l.all p=true→l.takeWhile p=l∧l.dropWhile p=[]:=by
 intro l
 induction l with
 | nil=>intro _;exact ⟨rfl,rfl⟩
 | cons c l ih =>
   intro h;rw[List.all_cons,Bool.and_eq_true]at h
   rw[List.takeWhile_cons,List.dropWhile_cons,if_pos h.1,if_pos h.1,(ih h.2).1,(ih h.2).2];exact ⟨rfl,rfl⟩
theorem VH (st:List Tr)(p y:List UInt8)(hp:p.all z7=true)(hne:p≠[])(hy:y=[]∨∃ y',y=60::y'):run st (p++y)=match yB st p with
 | none=>none
 | some st'=>run st' y:=by
 have ht:(p++y).takeWhile z7=p∧(p++y).dropWhile z7=y:=by
  rcases hy with rfl|⟨y',rfl⟩
  · rw[List.append_nil];exact Xw hp
  · exact qH hp (by decide)
 cases p with
 | nil=>exact absurd rfl hne
 | cons c t =>
   have hc:c≠60:=by
    rw[List.all_cons,Bool.and_eq_true]at hp
    simpa[z7] using hp.1
   unfold run;rw[List.cons_append]at ht ⊢
   rw[runD,if_neg hc,ht.1,ht.2];cases yB st (c::t) with
   | none=>rfl
   | some st'=>exact run_fuel _ _ _ _ (by simp[List.length_append];omega) (Nat.lt_succ_self _)
theorem qbd (u:List UInt8):∃ sp,u=ZS u++sp∧sp.all qo=true:=by
 refine ⟨(u.reverse.takeWhile qo).reverse,?_,?_⟩
 · unfold ZS;rw[←List.reverse_append,List.takeWhile_append_dropWhile,List.reverse_reverse]
 · rw[List.all_reverse];exact List.all_takeWhile
theorem qfj {nm sp:List UInt8}(hn:nm.all qg=true)(hs:sp.all qo=true):ZS (nm++sp)=nm:=by
 unfold ZS;rw[List.reverse_append,xN _ (by rw[List.all_reverse];exact hs)]
 cases hr:nm.reverse with
 | nil=>simp at hr;subst hr;rfl
 | cons c l =>
   have hc:qg c=true:=by
    have:(nm.reverse).all qg=true:=by rw[List.all_reverse];exact hn
    rw[hr,List.all_cons,Bool.and_eq_true]at this
    exact this.1
   rw[List.dropWhile_cons,y9 hc,←hr];simp
theorem KJ {a b:List UInt8}(h:qa a=qa b):a=b:=by
 unfold qa at h
 injection h with h
 simpa using h
theorem XZ {l:List UInt8}(h:qM (qa l)=true):qI l=true:=by
 simp only[qM,Bool.and_eq_true,decide_eq_true_eq,qe]at h
 obtain ⟨⟨h1,h2⟩,h3⟩:=h;have h0:l≠[]:=by intro e;subst e;simp at h1
 have h3':l.all qg=true:=by simpa[qa] using h3
 simp only[qI,Bool.and_eq_true,decide_eq_true_eq];exact ⟨⟨h0,h2⟩,h3'⟩
theorem qdc {L:List (List UInt8 × List UInt8)}(h:q7 (asB L)=true):∀ a∈L,qI a.1=true∧a.2.all sign=true:=by
 intro a ha;obtain ⟨i,hi,rfl⟩:=List.getElem_of_mem ha;simp only[q7,Bool.and_eq_true,decide_eq_true_eq,List.all_eq_true]at h
 have hk:=h.2 i (by simpa[x7] using hi)
 unfold okA at hk
 have he:(asB L)[i]?=some (qa L[i].1,qa L[i].2):=by simp[asB,hi]
 rw[he]at hk
 simp only[Bool.and_eq_true]at hk
 refine ⟨XZ hk.1.1,?_⟩;have:=hk.1.2;simp only[qN,Bool.and_eq_true]at this
 simpa[qa] using this.2
theorem qdd {nm m0 sp:List UInt8}{L:List (List UInt8 × List UInt8)}(hn:qI nm=true)(hsp:sp.all qo=true)(hl:m0=[]∨∃ u,m0=u++[34])(hh:∀ c r,m0=c::r→qg c=false)
 (ha:∀ f,(m0++sp).length<f→attrsL f (m0++sp)=some L):yq (nm++(m0++sp))=some (nm,L,false)∧yq (nm++(m0++sp)++[47])=some (nm,L,true):=by
 have hall:nm.all qg=true:=by
  simp only[qI,Bool.and_eq_true]at hn;exact hn.2
 have hne:nm≠[]:=by
  simp only[qI,Bool.and_eq_true,decide_eq_true_eq]at hn;exact hn.1.1
 have htw:(nm++(m0++sp)).takeWhile qg=nm∧(nm++(m0++sp)).dropWhile qg=m0++sp:=by
  cases hx:m0++sp with
  | nil =>
    rw[List.append_nil];exact Xw hall
  | cons c r =>
    refine qH hall ?_;cases m0 with
    | nil =>
      rw[List.nil_append]at hx
      rw[hx,List.all_cons,Bool.and_eq_true]at hsp
      cases hlc:qg c with
      | false=>rfl
      | true=>rw[y9 hlc]at hsp;exact absurd hsp.1 (by decide)
    | cons d m1 =>
      rw[List.cons_append]at hx
      injection hx with hx _
      subst hx;exact hh _ _ rfl
 have hlast:(nm++(m0++sp)).getLast?≠some 47:=by
  rw[List.getLast?_append,List.getLast?_append];intro h;cases hs:sp.getLast? with
  | some c =>
    rw[hs]at h
    simp at h
    subst h;have:=List.all_eq_true.1 hsp 47 (List.mem_of_getLast? hs);exact absurd this (by decide)
  | none =>
    rw[hs]at h
    rcases hl with rfl|⟨u,rfl⟩
    · simp at h
      have:=List.all_eq_true.1 hall 47 (List.mem_of_getLast? h);exact absurd this (by decide)
    · simp at h
 constructor
 · unfold yq;rw[decide_eq_false hlast];simp only[Bool.false_eq_true,if_false];rw[htw.1,htw.2,hn,ha _ (by simp only[List.length_append];omega)]
   simp
 · unfold yq;have h47:(nm++(m0++sp)++[47]).getLast?=some 47:=by simp
   simp only[h47,decide_true,if_true];rw[List.dropLast_concat,htw.1,htw.2,hn,ha _ (by simp only[List.length_append];omega)]
   simp
def Gd:Nat→List Tr→Prop
 | 0,l=>l=[]
 | d+1,l=>∀ t∈l,qz t=true∧Gd d t.kids
theorem qck {r:Rs}{z:List UInt8}(h:r=⟨z,false⟩):r.wrong=false:=by rw[h]
theorem Kh {r:Rs}(h:r.wrong=false):r=⟨r.rest,false⟩:=by
 cases r with
 | mk a b=>simp only at h;rw[h]
theorem qdl {rec:Rs→List Tr × Rs}(hrec:∀ r,(rec r).2.le r){t:List UInt8}{e:Tr}{y:List UInt8}(h:(⟨60::t,false⟩:Rs).elem rec=(e,⟨y,false⟩))(hg:qz e=true) :
    ∃ nm L b ks, e = ⟨false, qa nm, asB (qW L), ks⟩ ∧ b.all zK = true ∧ nm.all qg = true ∧ (∃ c r, b = c :: r ∧ qg c = true) ∧
      ((ks = [] ∧ t = b ++ 47 :: 62 :: y ∧ yq (b ++ [47]) = some (nm, L, true)) ∨
       (∃ u sp,t=b++62::u∧yq b=some (nm,L,false)∧rec ⟨u,false⟩=(ks,⟨60::47::(nm++(sp++62::y)),false⟩)∧sp.all qo=true)):=by
  have hm:(⟨60::t,false⟩:Rs).must [60]=⟨t,false⟩:=xz [60] t;unfold Rs.elem at h
  rw[hm]at h
  obtain ⟨nm,x,ht,htk,hdr,hnm⟩:=yL (p:=qg) (l:=t);have hno:(⟨t,false⟩:Rs).nameOf=nm:=htk;have hna:(⟨t,false⟩:Rs).name=⟨x,false⟩:=by unfold Rs.name;rw[hdr]
  rw[hno,hna]at h
  have hx0:∀ c r,x=c::r→qg c=false:=by
    intro c r hx;have:=List.head?_dropWhile_not qg t;rw[hdr,hx]at this
    simpa using this
  generalize hat:(⟨x,false⟩:Rs).attrs=q at h
  obtain ⟨L,r1⟩:=q;simp only at h
  -- nothing went wrong
  have hw:r1.wrong=false∧∃ ks,e=⟨false,qa nm,asB (sortA L),ks⟩∧((ks=[]∧r1.skip.rest=47::62::y)∨(∃ u sp,r1.skip.rest=62::u∧rec ⟨u,false⟩=(ks,⟨60::47::(nm++(sp++62::y)),false⟩)∧sp.all qo=true)):=by
    unfold Rs.elemIn at h
    by_cases ha:r1.skip.ahead [47,62]=true
    · rw[if_pos ha]at h
      injection h with h1 h2
      have hwr:r1.skip.wrong=false:=Yd ha;refine ⟨hwr,[],h1.symm,Or.inl ⟨rfl,?_⟩⟩;unfold Rs.take at h2
      rw[if_pos ha]at h2
      injection h2 with h2 _
      unfold Rs.ahead at ha
      rw[Bool.and_eq_true]at ha
      obtain ⟨v,hv⟩:=List.isPrefixOf_iff_prefix.1 ha.2;rw[←hv]at h2
      rw[←hv];simp at h2
      rw[h2];rfl
    · rw[if_neg ha]at h
      injection h with h1 h2
      have e4:=qck h2;obtain ⟨e3,f4⟩:=xS e4;have e3':((((rec (r1.skip.must [62])).2.must [60,47]).must nm)).wrong=false:=e3;obtain ⟨e2,f3⟩:=xS e3';obtain ⟨e1,f2⟩:=xS e2
      have e0:(r1.skip.must [62]).wrong=false:=by
        cases hq:(r1.skip.must [62]).wrong with
        | false=>rfl
        | true=>have:=(hrec (r1.skip.must [62])).2 hq;rw[this]at e1;cases e1
      obtain ⟨e00,f1⟩:=xS e0;refine ⟨e00,_,h1.symm,Or.inr ⟨(r1.skip.must [62]).rest,((((rec (r1.skip.must [62])).2.must [60,47]).must nm)).rest.takeWhile qo,f1,?_,List.all_takeWhile⟩⟩;rw[←Kh e0];refine Prod.ext rfl ?_
      have hsk:(((rec (r1.skip.must [62])).2.must [60,47]).must nm).rest.dropWhile qo=62::y:=by
        have:(((rec (r1.skip.must [62])).2.must [60,47]).must nm).skip.rest=[62]++((((rec (r1.skip.must [62])).2.must [60,47]).must nm).skip.must [62]).rest:=f4;rw[h2]at this
        exact this
      show (rec (r1.skip.must [62])).2=_
      rw[←hsk,List.takeWhile_append_dropWhile];have f5:(rec (r1.skip.must [62])).2.rest=60::47::(nm++(((rec (r1.skip.must [62])).2.must [60,47]).must nm).rest):=by rw[←f3];exact f2
      rw[←f5];exact Kh e1
  obtain ⟨hw1,ks,he,hcase⟩:=hw
  have hright:qM (qa nm)=true∧q7 (asB (sortA L))=true:=by
    rw[he]at hg
    simp only[qz,Bool.false_eq_true,if_false,Bool.and_eq_true]at hg
    exact hg
  have hok:=XZ hright.1;have hLok:∀ a∈L,qI a.1=true∧a.2.all sign=true:=fun a ha=>qdc hright.2 a ((xi L).mem_iff.2 ha)
  rw[Kh hw1]at hat
  obtain ⟨m0,hm0,hgt,hlast,hatt⟩:=attrs_complete _ x L r1.rest (Nat.lt_succ_self _) hat hLok;obtain ⟨sp1,z2,hz,_,hdz,hsp1⟩:=yL (p:=qo) (l:=r1.rest);have hsk:r1.skip.rest=z2:=hdz;have hb:=qdd hok hsp1 hlast (fun c r hc=>hx0 c (r++r1.rest) (by rw[hm0,hc];rfl)) (fun f hf=>hatt sp1 f hsp1 hf)
  have hins:sortA L=qW L:=Jm (Or.inl hright.2);refine ⟨nm,L,nm++(m0++sp1),ks,by rw[he,hins],?_,hnm,?_,?_⟩
  · rw[List.all_append,List.all_append,xJ Z0 hnm,hgt,xJ Jn hsp1];rfl
  · cases nm with
    | nil=>simp[qI]at hok
    | cons c r =>
      rw[List.all_cons,Bool.and_eq_true]at hnm
      exact ⟨c,_,rfl,hnm.1⟩
  · rw[hsk]at hcase
    rcases hcase with ⟨hk,hz2⟩|⟨u,sp,hz2,hr,hsp⟩
    · refine Or.inl ⟨hk, ?_, hb.2⟩;rw[ht,hm0,hz,hz2];simp[List.append_assoc]
    · refine Or.inr ⟨u, sp, ?_, hb.1, hr, hsp⟩;rw[ht,hm0,hz,hz2];simp[List.append_assoc]
theorem QP (T:Tr):Qr T []=T:=by cases T;simp[Qr]
theorem x5 (T k:Tr)(l:List Tr):Qr (yQ T k) l=Qr T (k::l):=by
 unfold Qr yQ;simp[List.append_assoc]
theorem qa8 {y:List UInt8}(h:(⟨y,false⟩:Rs).goesOn textEnds=false):y=[]∨(∃ y',y=60::y')∨(∃ y',y=62::y'):=by
 cases y with
 | nil=>exact Or.inl rfl
 | cons c y' =>
   have:=yC false c y';rw[show qE false=textEnds from rfl,h]at this
   have h2:(decide (c=60)||decide (c=62))=true:=by
    cases hq:(decide (c=60)||decide (c=62)) with
    | true=>rfl
    | false=>rw[hq]at this;simp at this
   simp only[Bool.or_eq_true,decide_eq_true_eq]at h2
   rcases h2 with rfl|rfl
   · exact Or.inr (Or.inl ⟨y',rfl⟩)
   · exact Or.inr (Or.inr ⟨y',rfl⟩)
theorem run_complete:∀ (f n:Nat)(s:List UInt8)(ts:List Tr)(z:List UInt8),s.length<n→treesF f ⟨s,false⟩=(ts,⟨z,false⟩)→(z=[]∨∃ z',z=60::47::z') →
 ∀ d,Gd d ts→∀ (T:Tr) (st:List Tr),st.length+d≤8→run (T::st) s=run (Qr T ts::st) z:=by
 intro f
 induction f with
 | zero =>
   intro n s ts z _ h _ d _ T st _;unfold treesF at h
   injection h with h1 h2
   injection h2 with h2 _
   subst h1 h2;rw[QP]
 | succ f ihf =>
   intro n
   induction n with
   | zero=>intro s ts z h;omega
   | succ n ih =>
     intro s ts z hn h hz d hd T st hst;cases hta:(⟨s,false⟩:Rs).treeAhead with
     | false =>
       rw[xX hta]at h
       injection h with h1 h2
       injection h2 with h2 _
       subst h1 h2;rw[QP]
     | true =>
       rw[xY hta]at h
       injection h with h1 h2
       generalize ho:(⟨s,false⟩:Rs).one (treesF f)=o at h1 h2
       obtain ⟨e,r1⟩:=o;simp only at h1 h2
       have hw1:r1.wrong=false:=by
        cases hq:r1.wrong with
        | false=>rfl
        | true=>have:=(treesF_le (f+1) r1).2 hq;rw[h2]at this;cases this
       have hless:=Y9 (treesF_le f) ⟨s,false⟩ hta;rw[ho]at hless
       have hlen:r1.rest.length<s.length:=by
        unfold Rs.left at hless
        rw[hw1]at hless
        simp at hless
        exact hless
       rw[Kh hw1]at h2 ho h1
       cases d with
       | zero=>rw[←h1]at hd;cases hd
       | succ d =>
         have hge:qz e=true∧Gd d e.kids:=hd e (by rw[←h1];exact List.mem_cons_self)
         have hgr:Gd (d+1) (treesF (f+1) ⟨r1.rest,false⟩).1:=fun t ht=>hd t (by rw[←h1];exact List.mem_cons_of_mem _ ht)
         have hnext:=ih r1.rest _ z (by omega) (Prod.ext rfl h2:treesF (f+1) ⟨r1.rest,false⟩=((treesF (f+1) ⟨r1.rest,false⟩).1,⟨z,false⟩)) hz (d+1) hgr (yQ T e) st hst
         rw[←h1,←x5,←hnext];unfold Rs.one at ho
         by_cases ha:(⟨s,false⟩:Rs).ahead [60]=true
         · rw[if_pos ha]at ho
           obtain ⟨t,hs⟩:∃ t,s=60::t:=by
            unfold Rs.ahead at ha
            rw[Bool.and_eq_true]at ha
            obtain ⟨v,hv⟩:=List.isPrefixOf_iff_prefix.1 ha.2;exact ⟨v,hv.symm⟩
           subst hs;obtain ⟨nm,L,b,ks,he,hb,hnm,⟨c,br,hbc,hlc⟩,hcase⟩:=qdl (treesF_le f) ho hge.1;have hc47:c≠47:=by intro e;subst e;cases hlc
           rcases hcase with ⟨hk,ht,hbeg⟩|⟨u,sp,ht,hbeg,hrec,hsp⟩
           · have e1 : (60 :: t : List UInt8) = 60 :: ((b ++ [47]) ++ 62 :: r1.rest) := by rw[ht];simp
             rw[e1,ZL _ _ _ (by rw[List.all_append,hb];rfl)]
             have hmk:zG (T::st) (b++[47])=some (yQ T e::st):=by
              have:zG (T::st) (b++[47])=yJ (T::st) (b++[47]):=by
               rw[hbc,List.cons_append,zG,if_neg hc47]
              rw[this,yJ,hbeg];simp only;rw[if_neg (by simp only[List.length_cons];omega),if_pos trivial,he,hk]
             rw[hmk]
           · rw[ht, ZL _ _ _ hb]
             have hmk:zG (T::st) b=some (⟨false,qa nm,asB (qW L),[]⟩::T::st):=by
              have:zG (T::st) b=yJ (T::st) b:=by
               rw[hbc,zG,if_neg hc47]
              rw[this,yJ,hbeg];simp only;rw[if_neg (by simp only[List.length_cons];omega)]
              rfl
             rw[hmk];simp only;have hkids:e.kids=ks:=by rw[he]
             rw[hkids]at hge
             rw[ihf _ u ks _ (Nat.lt_succ_self _) hrec (Or.inr ⟨_,rfl⟩) d hge.2 _ (T::st) (by simp only[List.length_cons];omega)]
             have e2:(60::47::(nm++(sp++62::r1.rest)):List UInt8)=60::((47::(nm++sp))++62::r1.rest):=by simp
             rw[e2,ZL _ _ _ (by rw[List.all_cons,List.all_append,xJ Z0 hnm,xJ Jn hsp];rfl)]
             have hcl:zG (Qr ⟨false,qa nm,asB (qW L),[]⟩ ks::T::st) (47::(nm++sp))=some (yQ T e::st):=by
              rw[zG,if_pos rfl,xE,qfj hnm hsp];refine (if_pos rfl).trans ?_;rw[he];rfl
             rw[hcl]
         · rw[if_neg ha]at ho
           injection ho with h3 h4
           have ha':(⟨s,false⟩:Rs).ahead [60]=false:=by simpa using ha
           have htx:(⟨s,false⟩:Rs).text (qE false)=(((⟨s,false⟩:Rs).text textEnds).1,⟨r1.rest,false⟩):=Prod.ext rfl h4;obtain ⟨p,hp,hpt,hstop⟩:=VT false _ s _ r1.rest (Nat.lt_succ_self _) htx;have hlt:=qfQ false p _ hpt;have hpne:p≠[]:=by intro e;rw[e,List.nil_append]at hp;rw[hp]at hlen;exact Nat.lt_irrefl _ hlen
           have hy:r1.rest=[]∨∃ y',r1.rest=60::y':=by
            rcases qa8 hstop with h|h|⟨y',h⟩
            · exact Or.inl h
            · exact Or.inr h
            · exfalso
              have hno:(⟨r1.rest,false⟩:Rs).treeAhead=false:=by
               rw[h];simp[Rs.treeAhead,Rs.ahead,List.isPrefixOf]
              rw[xX hno]at h2
              simp only at h2
              injection h2 with h2 _
              rw[h]at h2
              rcases hz with hz|⟨z',hz⟩
              · rw[hz]at h2;cases h2
              · rw[hz]at h2;cases h2
           have hpl:((⟨s,false⟩:Rs).text textEnds).1.all sign=true:=by
            have hr:=hge.1;rw[←h3]at hr
            simp only[qz,if_true,Bool.and_eq_true,qN]at hr
            simpa[qa] using hr.1.1.2.2
           have hmt:=(xe false (p.length+1) p _ (Nat.lt_succ_self _)).2 ⟨hpt,hpl⟩;rw[hp,VH _ p r1.rest hlt hpne hy]
           have htd:yB (T::st) p=some (yQ T e::st):=by
            rw[yB,hmt];simp only;rw[←h3]
           rw[htd]
def GA:Nat→List Tr→Prop
 | 0,l=>l=[]
 | n+1,l=>∀ t∈l,q7 t.attrs=true∧GA n t.kids
def AGf (T:Tr):Prop:=q7 T.attrs=true∧∃ n,GA n T.kids
theorem qex {n:Nat}{l:List Tr}{k:Tr}(h:GA n (l++[k])):(∃ m,GA m l)∧AGf k:=by
 cases n with
 | zero =>
   have:l++[k]=[]:=h;simp at this
 | succ n =>
   have h':∀ t∈l++[k],q7 t.attrs=true∧GA n t.kids:=h;refine ⟨⟨n+1,fun t ht=>h' t (List.mem_append_left _ ht)⟩,?_⟩
   have:=h' k (by simp)
   exact ⟨this.1,n,this.2⟩
theorem Yr {T k:Tr}(h:AGf (yQ T k)):AGf T∧AGf k:=by
 obtain ⟨h1,n,h2⟩:=h;obtain ⟨h3,h4⟩:=qex h2;exact ⟨⟨h1,h3⟩,h4⟩
theorem qbb {st st':List Tr}{p:List UInt8}(h:yB st p=some st')(hg:∀ T∈st',AGf T):∀ T∈st,AGf T:=by
 unfold yB at h
 split at h
 · cases h
 · split at h
   · cases h
   · injection h with h
     subst h;intro T hT;rw[List.mem_cons]at hT
     rcases hT with rfl|hT
     · exact (Yr (hg _ List.mem_cons_self)).1
     · exact hg T (List.mem_cons_of_mem _ hT)
theorem qcg {st st':List Tr}{m:List UInt8}(h:zG st m=some st')(hg:∀ T∈st',AGf T):∀ T∈st,AGf T:=by
 have ho:∀ m,yJ st m=some st'→∀ T∈st,AGf T:=by
  intro m h;unfold yJ at h
  split at h
  · cases h
  · split at h
    · cases h
    · split at h
      · cases h
      · split at h
        · injection h with h
          subst h;intro T hT;rw[List.mem_cons]at hT
          rcases hT with rfl|hT
          · exact (Yr (hg _ List.mem_cons_self)).1
          · exact hg T (List.mem_cons_of_mem _ hT)
        · injection h with h
          subst h;exact fun T hT=>hg T (List.mem_cons_of_mem _ hT)
 unfold zG at h
 split at h
 · exact ho _ h
 · split at h
   · unfold xE at h
     split at h
     · split at h
       · injection h with h
         subst h;intro T hT;rw[List.mem_cons,List.mem_cons]at hT
         have:=Yr (hg _ List.mem_cons_self)
         rcases hT with rfl|rfl|hT
         · exact this.2
         · exact this.1
         · exact hg T (List.mem_cons_of_mem _ hT)
       · cases h
     · cases h
   · exact ho _ h
theorem runD_back:∀ (f:Nat)(st st':List Tr)(s:List UInt8),runD f st s=some st'→(∀ T∈st',AGf T)→∀ T∈st,AGf T:=by
 intro f
 induction f with
 | zero=>intro st st' s h;cases h
 | succ f ih =>
   intro st st' s h hg;cases s with
   | nil=>rw[runD]at h;injection h with h;subst h;exact hg
   | cons c t =>
     rw[runD]at h
     by_cases hc:c=60
     · rw[if_pos hc]at h
       split at h
       · cases h
       · cases hm : zG st (t.takeWhile zK) with
         | none=>rw[hm]at h;cases h
         | some s1 =>
           rw[hm]at h
           exact qcg hm (ih _ _ _ h hg)
     · rw[if_neg hc]at h
       cases hm:yB st ((c::t).takeWhile z7) with
       | none=>rw[hm]at h;cases h
       | some s1 =>
         rw[hm]at h
         exact qbb hm (ih _ _ _ h hg)
theorem KC {m nm:List UInt8}{L:List (List UInt8 × List UInt8)}{e:Bool}(h:yq m=some (nm,L,e)):qI nm=true∧nm.all qg=true∧∃ x,m=nm++(x++(if e then [47] else []))∧(∀ c r,x=c::r→qg c=false) ∧
 ∀ y,xQ y=true→∃ sp,sp.all qo=true∧(⟨x++y,false⟩:Rs).attrs=(L,⟨sp++y,false⟩):=by
 unfold yq at h
 generalize hb:(if decide (m.getLast?=some 47)=true then m.dropLast else m)=b at h
 split at h
 · cases h
 · rename_i hok
   obtain ⟨nm',x,hbx,htk,hdr,hnm⟩:=yL (p:=qg) (l:=b);rw[htk,hdr]at h
   rw[htk]at hok
   cases hat:attrsL (b.length+1) x with
   | none=>rw[hat]at h;cases h
   | some L' =>
     rw[hat]at h
     injection h with h
     injection h with h1 h
     injection h with h2 h3
     subst h1 h2;refine ⟨by simpa using hok,hnm,x,?_,?_,fun y hy=>Kx y hy _ _ _ hat⟩
     · rw[←List.append_assoc, ←hbx, ←h3, ←hb]
       by_cases hl:m.getLast?=some 47
       · simp only[hl, decide_true, if_true];obtain ⟨u,hu⟩:=List.getLast?_eq_some_iff.1 hl;rw[hu,List.dropLast_concat]
       · simp[hl]
     · intro c r hx;have:=List.head?_dropWhile_not qg b;rw[hdr,hx]at this
       simpa using this
theorem qbt {rec:Rs→List Tr × Rs}{nm x y:List UInt8}{L:List (List UInt8 × List UInt8)}(hnm:nm.all qg=true)(hx:∀ c r,x=c::r→qg c=false)(hy:xQ y=true)
 (hat:∃ sp,sp.all qo=true∧(⟨x++y,false⟩:Rs).attrs=(L,⟨sp++y,false⟩)):(⟨60::(nm++(x++y)),false⟩:Rs).elem rec=Rs.elemIn rec nm L ⟨y,false⟩:=by
 have hm:(⟨60::(nm++(x++y)),false⟩:Rs).must [60]=⟨nm++(x++y),false⟩:=xz [60] _;obtain ⟨sp,hsp,hat⟩:=hat
 have htw:(nm++(x++y)).takeWhile qg=nm∧(nm++(x++y)).dropWhile qg=x++y:=by
  cases x with
  | nil =>
    cases y with
    | nil=>cases hy
    | cons c r=>exact qH hnm ((QQ hy).2 c r rfl)
  | cons c r=>exact qH hnm (hx c r rfl)
 unfold Rs.elem;rw[hm];unfold Rs.nameOf Rs.name;simp only;rw[htw.1,htw.2,hat];simp only;unfold Rs.skip;simp only;rw[xN y hsp,(QQ hy).1]
theorem Xy {nm x:List UInt8}(hok:qI nm=true)(hnm:nm.all qg=true):(⟨60::(nm++x),false⟩:Rs).treeAhead=true∧(⟨60::(nm++x),false⟩:Rs).ahead [60]=true:=by
  cases nm with
  | nil=>simp[qI]at hok
  | cons c r =>
    rw[List.all_cons,Bool.and_eq_true]at hnm
    have hc:((47:UInt8)==c)=false:=by
      cases h:((47:UInt8)==c) with
      | false=>rfl
      | true => have : 47 = c := by simpa using h
                subst this;exact absurd hnm.1 (by decide)
    simp[Rs.treeAhead,Rs.ahead,List.isPrefixOf,hc]
theorem run_sound:∀ (n:Nat)(s:List UInt8)(T:Tr)(st:List Tr)(F:Tr),s.length<n→run (T::st) s=some [F]→AGf F→∀ f,s.length<f →
    ∃ ts z, treesF f ⟨s, false⟩ = (ts, ⟨z, false⟩) ∧ ((st = [] ∧ z = [] ∧ F = Qr T ts) ∨
      (∃ T2 st' nm sp z',st=T2::st'∧z=60::47::(nm++(sp++62::z'))∧sp.all qo=true∧qa nm=T.s∧run (yQ T2 (Qr T ts)::st') z'=some [F])):=by
  intro n
  induction n with
  | zero=>intro s T st F h;omega
  | succ n ih =>
    intro s T st F hn h hF f hf;cases f with
    | zero=>omega
    | succ f =>
    cases s with
    | nil =>
      rw[qbG]at h
      injection h with h
      injection h with h1 h2
      refine ⟨[],[],xX (by simp[Rs.treeAhead]),Or.inl ⟨h2,rfl,by rw[QP,h1]⟩⟩
    | cons c t =>
      simp only[List.length_cons]at hn hf
      by_cases hc:c=60
      · subst hc;obtain ⟨m,q,ht,htk,hdr,hm⟩:=yL (p:=zK) (l:=t)
        match q,hdr,ht with
        | [],hdr,ht=>rw[qdZ _ _ hdr]at h;cases h
        | g :: r, hdr, ht =>
          have hg:g=62:=by
            have:=List.head?_dropWhile_not zK t;rw[hdr]at this
            simpa[zK] using this
          subst hg;subst ht;simp only[List.length_append,List.length_cons]at hn hf
          rw[ZL _ _ _ hm]at h
          cases hmk:zG (T::st) m with
          | none=>rw[hmk]at h;cases h
          | some st1 =>
            rw[hmk]at h
            simp only at h
            have hopen:∀ m',m'=m→yJ (T::st) m'=some st1→∃ ts z,treesF (f+1) ⟨60::(m++62::r),false⟩=(ts,⟨z,false⟩)∧((st=[]∧z=[]∧F=Qr T ts) ∨
                (∃ T2 st' nm sp z',st=T2::st'∧z=60::47::(nm++(sp++62::z'))∧sp.all qo=true∧qa nm=T.s∧run (yQ T2 (Qr T ts)::st') z'=some [F])):=by
              intro m' hm' ho;subst hm';unfold yJ at ho
              cases hb:yq m' with
              | none=>rw[hb]at ho;cases ho
              | some p =>
                obtain ⟨nm,L,e⟩:=p;rw[hb]at ho
                simp only at ho
                split at ho
                · cases ho
                · obtain ⟨hok, hnm, x, hmx, hx0, hatt⟩ := KC hb;cases e with
                  | true =>
                    simp only[if_true]at ho hmx
                    injection ho with ho
                    subst ho;have hgood:=runD_back _ _ _ _ h (by intro T hT;rw[List.mem_singleton]at hT;rw[hT];exact hF)
                    have hga:q7 (asB (qW L))=true:=(Yr (hgood _ List.mem_cons_self)).2.1;have hso:sortA L=qW L:=Jm (Or.inr hga);have es:(60::(m'++62::r):List UInt8)=60::(nm++(x++(47::62::r))):=by rw[hmx];simp
                    obtain ⟨ts,z,htr,hcase⟩:=ih r _ st F (by omega) h hF (f+1) (by omega)
                    obtain ⟨k1,k2⟩:=Xy (x:=x++(47::62::r)) hok hnm
                    have hone:(⟨60::(nm++(x++(47::62::r))),false⟩:Rs).one (treesF f)=(⟨false,qa nm,asB (qW L),[]⟩,⟨r,false⟩):=by
                      unfold Rs.one;rw[if_pos k2,qbt hnm hx0 rfl (hatt _ rfl)];have h1:(⟨47::62::r,false⟩:Rs).ahead [47,62]=true:=by simp[Rs.ahead,List.isPrefixOf]
                      unfold Rs.elemIn Rs.take;rw[if_pos h1,if_pos h1,hso];rfl
                    refine ⟨⟨false,qa nm,asB (qW L),[]⟩::ts,z,?_,?_⟩
                    · rw[es, xY k1, hone];simp only;rw[htr]
                    · rw[←x5];exact hcase
                  | false =>
                    simp only[Bool.false_eq_true,if_false,List.append_nil]at ho hmx
                    injection ho with ho
                    subst ho;have hgood:=runD_back _ _ _ _ h (by intro T hT;rw[List.mem_singleton]at hT;rw[hT];exact hF)
                    have hga:q7 (asB (qW L))=true:=(hgood _ List.mem_cons_self).1;have hso:sortA L=qW L:=Jm (Or.inr hga);have es:(60::(m'++62::r):List UInt8)=60::(nm++(x++(62::r))):=by rw[hmx];simp
                    obtain ⟨k1,k2⟩:=Xy (x:=x++(62::r)) hok hnm;obtain ⟨ks,z1,htk1,hc1⟩:=ih r _ (T::st) F (by omega) h hF f (by omega)
                    rcases hc1 with ⟨hno,_⟩|⟨T2,st',nm2,sp,z2,hst,hz1,hsp,hnm2,hrun⟩
                    · cases hno
                    · injection hst with e1 e2
                      subst e1 e2;have hnn:nm2=nm:=KJ hnm2;subst hnn
                      have hzl:z1.length≤r.length:=by
                        have:=(treesF_le f ⟨r,false⟩).1;rw[htk1]at this
                        exact this
                      have hz2l:z2.length<z1.length:=by rw[hz1];simp;omega
                      obtain ⟨ts,z,htr,hcase⟩:=ih z2 _ st F (by omega) hrun hF (f+1) (by omega)
                      have hone:(⟨60::(nm2++(x++(62::r))),false⟩:Rs).one (treesF f)=(⟨false,qa nm2,asB (qW L),ks⟩,⟨z2,false⟩):=by
                        unfold Rs.one;rw[if_pos k2,qbt hnm hx0 rfl (hatt _ rfl)];have h1:(⟨62::r,false⟩:Rs).ahead [47,62]=false:=by simp[Rs.ahead,List.isPrefixOf]
                        have h2:(⟨62::r,false⟩:Rs).must [62]=⟨r,false⟩:=xz [62] r;unfold Rs.elemIn;rw[if_neg (by rw[h1];decide),h2,htk1,hz1,hso]
                        simp only;have h3:(⟨60::47::(nm2++(sp++62::z2)),false⟩:Rs).must [60,47]=⟨nm2++(sp++62::z2),false⟩:=xz [60,47] _;rw[h3,xz nm2]
                        have h4:(⟨sp++62::z2,false⟩:Rs).skip=⟨62::z2,false⟩:=by
                          unfold Rs.skip;simp only;rw[xN _ hsp];rfl
                        rw[h4];have h5:(⟨62::z2,false⟩:Rs).must [62]=⟨z2,false⟩:=xz [62] z2;rw[h5]
                      refine ⟨⟨false,qa nm2,asB (qW L),ks⟩::ts,z,?_,?_⟩
                      · rw[es, xY k1, hone];simp only;rw[htr]
                      · rw[←x5];exact hcase
            unfold zG at hmk
            split at hmk
            · exact hopen _ rfl hmk
            · rename_i c u _
              split at hmk
              · rename_i hc47
                subst hc47;unfold xE at hmk
                split at hmk
                · rename_i T' T2 st' hst
                  injection hst with e1 e2
                  subst e1 e2
                  split at hmk
                  · rename_i hnm
                    injection hmk with hmk
                    subst hmk;obtain ⟨sp,hu,hsp⟩:=qbd u;refine ⟨[],_,xX (by simp[Rs.treeAhead,Rs.ahead,List.isPrefixOf]),Or.inr ⟨T2,st',ZS u,sp,r,rfl,?_,hsp,hnm,?_⟩⟩
                    · conv => lhs;rw[hu]
                      simp
                    · rw[QP];exact h
                  · cases hmk
                · cases hmk
              · exact hopen _ rfl hmk
      · obtain ⟨p, y, hp, htk, hdr, hlt⟩ := yL (p := z7) (l := c :: t)
        have hpne:p≠[]:=by
          intro e;rw[e,List.takeWhile_cons,if_pos (by simp[z7,hc])]at htk
          cases htk
        have hy:y=[]∨∃ y',y=60::y':=by
          cases y with
          | nil=>exact Or.inl rfl
          | cons g y' =>
            have:=List.head?_dropWhile_not z7 (c::t);rw[hdr]at this
            have hg:g=60:=by simpa[z7] using this
            exact Or.inr ⟨y',by rw[hg]⟩
        rw[hp,VH _ p y hlt hpne hy]at h
        cases htd:yB (T::st) p with
        | none=>rw[htd]at h;cases h
        | some st1 =>
          rw[htd]at h
          simp only at h
          unfold yB at htd
          cases hmt:zt false (p.length+1) p with
          | none=>rw[hmt]at htd;cases htd
          | some v =>
            rw[hmt]at htd
            simp only at htd
            injection htd with htd
            subst htd
            have hyl:y.length<(c::t).length:=by
              rw[hp,List.length_append];have:=List.length_pos_iff.2 hpne;omega
            simp only[List.length_cons]at hyl
            obtain ⟨ts,z,htr,hcase⟩:=ih y _ st F (by omega) h hF (f+1) (by omega)
            obtain ⟨hpt,_⟩:=(xe false _ p v (Nat.lt_succ_self _)).1 hmt
            have hstop:(⟨y,false⟩:Rs).goesOn (qE false)=false:=by
              rcases hy with rfl|⟨y',rfl⟩
              · rfl
              · rw[yC];rfl
            have htx:=VS false y hstop _ p v (Nat.lt_succ_self _) hpt;rw[←hp]at htx
            have hpg:=qfq false p v hpt
            have hc62:c≠62:=by
              cases p with
              | nil=>exact absurd rfl hpne
              | cons d p' =>
                rw[List.cons_append]at hp
                injection hp with hd _
                subst hd;rw[List.all_cons,Bool.and_eq_true]at hpg
                simpa[zK] using hpg.1
            have n1:((60:UInt8)==c)=false:=by simpa using fun e=>hc e.symm
            have n2:((62:UInt8)==c)=false:=by simpa using fun e=>hc62 e.symm
            have hta:(⟨c::t,false⟩:Rs).treeAhead=true:=by simp[Rs.treeAhead,Rs.ahead,List.isPrefixOf,n1,n2]
            have hone:(⟨c::t,false⟩:Rs).one (treesF f)=(⟨true,qa v,[],[]⟩,⟨y,false⟩):=by
              unfold Rs.one;rw[if_neg (by simp[Rs.ahead,List.isPrefixOf,n1])]
              have:(⟨c::t,false⟩:Rs).text textEnds=(v,⟨y,false⟩):=htx;rw[this]
            refine ⟨⟨true,qa v,[],[]⟩::ts,z,?_,?_⟩
            · rw[xY hta, hone];simp only;rw[htr]
            · rw[←x5];exact hcase
theorem qfG {f:Int→List Tr→Int}:∀ (l:List Tr)(p:Bool)(room:Int),0≤room→0≤rl f p room l→∀ t∈l,qz t=true∧∃ room',0≤room'∧0≤f room' t.kids:=by
 intro l
 induction l with
 | nil=>intro p room _ _ t ht;cases ht
 | cons x r ih =>
   intro p room h0 h t ht;unfold rl at h
   split at h
   · omega
   · rename_i hA
     split at h
     · omega
     · rename_i hB
       have hx:qz x=true:=by
        cases hr:qz x with
        | true=>rfl
        | false=>rw[hr]at hA;simp at hA
       rw[List.mem_cons]at ht
       rcases ht with rfl|ht
       · exact ⟨hx,room,h0,by omega⟩
       · exact ih x.text _ (by omega) h t ht
theorem rb_Gd:∀ (d:Nat)(room:Int)(l:List Tr),0≤room→0≤rb d room l→Gd d l:=by
 intro d
 induction d with
 | zero =>
   intro room l h0 h;unfold rb at h
   split at h
   · rename_i hl;show l=[];simpa using hl
   · omega
 | succ d ih =>
   intro room l h0 h;unfold rb at h
   split at h
   · rename_i hl
     have:l=[]:=by simpa using hl
     subst this;intro t ht;cases ht
   · split at h
     · omega
     · intro t ht;obtain ⟨h1,room',h2,h3⟩:=qfG l false _ (by omega) h t ht
       exact ⟨h1,ih room' t.kids h2 h3⟩
theorem Kg {t:Tr}(h:qz t=true):q7 t.attrs=true:=by
 unfold qz at h
 split at h
 · simp only[Bool.and_eq_true, decide_eq_true_eq]at h
   have:t.attrs=[]:=List.eq_nil_of_length_eq_zero h.1.2;rw[this];rfl
 · rw[Bool.and_eq_true]at h;exact h.2
theorem Gd_GA:∀ (d:Nat)(l:List Tr),Gd d l→GA d l:=by
 intro d
 induction d with
 | zero=>intro l h;exact h
 | succ d ih=>intro l h t ht;exact ⟨Kg (h t ht).1,ih _ (h t ht).2⟩
def Yl (st:List Tr):Option (List (ByteArray × ByteArray)):=st.getLast?.map Tr.attrs
theorem YI (T k:Tr)(st:List Tr):Yl (yQ T k::st)=Yl (T::st):=by
 cases st<;>rfl
theorem qbQ (E T:Tr)(st:List Tr):Yl (E::T::st)=Yl (T::st):=rfl
theorem qei {st st':List Tr}{p:List UInt8}(h:yB st p=some st'):Yl st'=Yl st:=by
 unfold yB at h
 split at h
 · cases h
 · split at h
   · cases h
   · injection h with h
     subst h;exact YI _ _ _
theorem qdH {st st':List Tr}{m:List UInt8}(h:zG st m=some st'):Yl st'=Yl st:=by
 have ho:∀ m,yJ st m=some st'→Yl st'=Yl st:=by
  intro m h;unfold yJ at h
  split at h
  · cases h
  · split at h
    · cases h
    · split at h
      · cases h
      · split at h
        · injection h with h
          subst h;exact YI _ _ _
        · injection h with h
          subst h;rfl
 unfold zG at h
 split at h
 · exact ho _ h
 · split at h
   · unfold xE at h
     split at h
     · split at h
       · injection h with h
         subst h;rw[YI,qbQ]
       · cases h
     · cases h
   · exact ho _ h
theorem run_bot:∀ (f:Nat)(st st':List Tr)(s:List UInt8),runD f st s=some st'→Yl st'=Yl st:=by
 intro f
 induction f with
 | zero=>intro st st' s h;cases h
 | succ f ih =>
   intro st st' s h;cases s with
   | nil=>rw[runD]at h;injection h with h;subst h;rfl
   | cons c t =>
     rw[runD]at h
     by_cases hc:c=60
     · rw[if_pos hc]at h
       split at h
       · cases h
       · cases hm : zG st (t.takeWhile zK) with
         | none=>rw[hm]at h;cases h
         | some s1=>rw[hm]at h;rw[ih _ _ _ h,qdH hm]
     · rw[if_neg hc]at h
       cases hm:yB st ((c::t).takeWhile z7) with
       | none=>rw[hm]at h;cases h
       | some s1=>rw[hm]at h;rw[ih _ _ _ h,qei hm]
def ze (s:List UInt8):Option (List Tr):=match run [zeroT] s with
 | some [F]=>some F.kids
 | _=>none
theorem XS {s:List UInt8}{l:List Tr}(h:ze s=some l)(hl:qF l=true):treesF (s.length+1) ⟨s,false⟩=(l,⟨[],false⟩):=by
 unfold ze at h
 split at h
 · rename_i F hr
   injection h with h
   subst h;have hg:Gd 8 F.kids:=rb_Gd 8 80 _ (by decide) (by simpa[qF] using hl)
   have hb:=run_bot _ _ _ _ hr
   have hfa:F.attrs=[]:=by
    have:some F.attrs=some []:=hb
    injection this
   obtain ⟨ts,z,h1,h2⟩:=run_sound _ s zeroT [] F (Nat.lt_succ_self _) hr ⟨by rw[hfa];rfl,8,Gd_GA _ _ hg⟩ (s.length+1) (Nat.lt_succ_self _)
   rcases h2 with ⟨_,hz,hF⟩|⟨T2,st',_,_,_,hno,_⟩
   · rw[h1,hz,hF];rfl
   · cases hno
 · cases h
theorem Yn {s:List UInt8}{l:List Tr}(h:treesF (s.length+1) ⟨s,false⟩=(l,⟨[],false⟩))(hl:qF l=true):ze s=some l:=by
 have hg:Gd 8 l:=rb_Gd 8 80 _ (by decide) (by simpa[qF] using hl)
 have:=run_complete _ _ s l [] (Nat.lt_succ_self _) h (Or.inl rfl) 8 hg zeroT [] (by decide)
 unfold ze;rw[this,qbG];rfl
def jP (s:List UInt8):List Tr × Int :=
 if 2500<s.length then ([],2) else match ze s with
 | none=>([],1)
 | some l=>if qF l then (l,0) else ([],1)
theorem qdY {r:Rs}(h:(r.wrong||decide (r.rest≠[]))=false):r=⟨[],false⟩:=by
 cases r with
 | mk a b =>
   simp at h
   rw[h.1,h.2]
theorem V9 (s:List UInt8):zp s=jP s:=by
 unfold zp jP
 by_cases hl:2500<s.length
 · rw[if_pos hl,if_pos hl]
 · rw[if_neg hl, if_neg hl]
   generalize hq:treesF (s.length+1) ⟨s,false⟩=q
   obtain ⟨ts,r⟩:=q;simp only
   by_cases hc:(r.wrong||decide (r.rest≠[])||!qF ts)=true
   · rw[if_pos hc];cases hf:ze s with
     | none=>rfl
     | some l =>
       simp only
       by_cases hk:qF l=true
       · exfalso
         have:=XS hf hk;rw[hq]at this
         injection this with h1 h2
         rw[h1,h2,hk]at hc
         simp at hc
       · rw[if_neg hk]
   · rw[if_neg hc];have hc':(r.wrong||decide (r.rest≠[])||!qF ts)=false:=by simpa using hc
     rw[Bool.or_eq_false_iff]at hc'
     have hr:=qdY hc'.1;have hk:qF ts=true:=by simpa using hc'.2
     rw[hr]at hq
     rw[Yn hq hk];simp only;rw[if_pos hk]
def fourL:List UInt8:=[32,108,116,59,32,103,116,59,32,97,109,112,59,32,113,117,111,116,59,32]
theorem ZH {u v x:List UInt8}(hu:u.all qy=true)(hv:v.all qy=true):(32::(u++[59,32])).isPrefixOf (32::(v++59::32::x))=decide (u=v):=by
 by_cases h:u=v
 · subst h;rw[decide_eq_true rfl,List.isPrefixOf_iff_prefix];exact ⟨x,by simp⟩
 · rw[decide_eq_false h]
   apply Bool.eq_false_iff.2
   intro hp;obtain ⟨q,hq⟩:=List.isPrefixOf_iff_prefix.1 hp;rw[List.cons_append,List.append_assoc]at hq
   injection hq with _ hq
   have h1:=qH (p:=qy) (l:=u) (c:=59) (x:=32::q) hu (by decide)
   have h2:=qH (p:=qy) (l:=v) (c:=59) (x:=32::x) hv (by decide)
   have e:u++59::32::q=v++59::32::x:=hq;rw[e,h2.1]at h1
   exact h h1.1.symm
theorem jD {c:UInt8}(hc:c≠32)(u x:List UInt8):(32::u).isPrefixOf (c::x)=false:=by
 have:((32:UInt8)==c)=false:=by simpa using fun e=>hc e.symm
 simp[List.isPrefixOf,this]
theorem qe4 (u:List UInt8):(32::(u++[59,32])).isPrefixOf [32]=false:=by
 cases u<;>simp[List.isPrefixOf]
def yr (u:List UInt8):Int:=if u=[108,116] then 0 else if u=[103,116] then 4 else if u=[97,109,112] then 8 else if u=[113,117,111,116] then 13 else -1
theorem K5 {u:List UInt8}(hu:u.all qy=true):Lib.index fourL (32::(u++[59,32]))=yr u:=by
 have p1:=ZH (u:=u) (v:=[108,116]) (x:=[103,116,59,32,97,109,112,59,32,113,117,111,116,59,32]) hu (by decide)
 have p2:=ZH (u:=u) (v:=[103,116]) (x:=[97,109,112,59,32,113,117,111,116,59,32]) hu (by decide)
 have p3:=ZH (u:=u) (v:=[97,109,112]) (x:=[113,117,111,116,59,32]) hu (by decide)
 have p4:=ZH (u:=u) (v:=[113,117,111,116]) (x:=[]) hu (by decide)
 have p5:=qe4 u;simp only[List.cons_append,List.nil_append]at p1 p2 p3 p4
 unfold fourL yr;simp only[Lib.index,p1,p2,p3,p4,p5,jD (by decide:(108:UInt8)≠32),jD (by decide:(116:UInt8)≠32),jD (by decide:(59:UInt8)≠32),jD (by decide:(103:UInt8)≠32),jD (by decide:(97:UInt8)≠32),jD (by decide:(109:UInt8)≠32),jD (by decide:(112:UInt8)≠32),jD (by decide:(113:UInt8)≠32),jD (by decide:(117:UInt8)≠32),jD (by decide:(111:UInt8)≠32),Bool.false_eq_true,if_false,List.isEmpty_cons]
 by_cases h1:u=[108,116]
 · subst h1;decide
 by_cases h2:u=[103,116]
 · subst h2;decide
 by_cases h3:u=[97,109,112]
 · subst h3;decide
 by_cases h4:u=[113,117,111,116]
 · subst h4;decide
 simp[h1,h2,h3,h4]
def Q4 (k:Int):UInt8:=if k=0 then 60 else if k=4 then 62 else if k=8 then 38 else 34
theorem qaN (u:List UInt8):wordsT.find? (fun p=>p.1==u)=if yr u<0 then none else some (u,Q4 (yr u)):=by
 unfold yr wordsT
 by_cases h1:u=[108,116]
 · subst h1;decide
 by_cases h2:u=[103,116]
 · subst h2;decide
 by_cases h3:u=[97,109,112]
 · subst h3;decide
 by_cases h4:u=[113,117,111,116]
 · subst h4;decide
 have f1:([108,116]==u)=false:=by simpa using fun h=>h1 h.symm
 have f2:([103,116]==u)=false:=by simpa using fun h=>h2 h.symm
 have f3:([97,109,112]==u)=false:=by simpa using fun h=>h3 h.symm
 have f4:([113,117,111,116]==u)=false:=by simpa using fun h=>h4 h.symm
 simp[List.find?,f1,f2,f3,f4,h1,h2,h3,h4]
theorem qdU (u:List UInt8)(h:¬ yr u<0):yr u=0∨yr u=4∨yr u=8∨yr u=13:=by
 unfold yr at h ⊢
 by_cases h1:u=[108,116]
 · rw[if_pos h1];exact Or.inl rfl
 by_cases h2:u=[103,116]
 · rw[if_neg h1,if_pos h2];exact Or.inr (Or.inl rfl)
 by_cases h3:u=[97,109,112]
 · rw[if_neg h1,if_neg h2,if_pos h3];exact Or.inr (Or.inr (Or.inl rfl))
 by_cases h4:u=[113,117,111,116]
 · rw[if_neg h1,if_neg h2,if_neg h3,if_pos h4];exact Or.inr (Or.inr (Or.inr rfl))
 rw[if_neg h1,if_neg h2,if_neg h3,if_neg h4]at h
 exact absurd (by decide) h
theorem Zc (v:Bool):∀ (f g:Nat)(s:List UInt8),s.length<f→s.length<g→zt v f s=zt v g s:=by
 intro f
 induction f with
 | zero=>intro g s h;omega
 | succ f ih =>
   intro g s h hg;cases g with
   | zero=>omega
   | succ g =>
     cases s with
     | nil=>rfl
     | cons c t =>
       simp only[List.length_cons]at h hg
       rw[zt,zt]
       by_cases hc:c=38
       · rw[if_pos hc, if_pos hc];cases hw:yl t with
         | none=>rfl
         | some p =>
           obtain ⟨x,r⟩:=p;have:=(jA hw).1;simp only;rw[ih g r (by omega) (by omega)]
       · rw[if_neg hc,if_neg hc,ih g t (by omega) (by omega)]
def zu (v:Bool)(s:List UInt8):Option (List UInt8):=zt v (s.length+1) s
theorem qaA (v:Bool):zu v []=some []:=rfl
theorem Vj (v:Bool){t r:List UInt8}{x:UInt8}(h:yl t=some (x,r)):zu v (38::t)=(zu v r).map (x::·):=by
 have:=(jA h).1;unfold zu;rw[zt,if_pos rfl,h];simp only;rw[Zc v _ (r.length+1) r (by simp only[List.length_cons];omega) (Nat.lt_succ_self _)]
theorem Yf (v:Bool){t:List UInt8}(h:yl t=none):zu v (38::t)=none:=by
 unfold zu;rw[zt,if_pos rfl,h]
theorem xd (v:Bool){c:UInt8}{t:List UInt8}(hc:c≠38)(h:(decide (c=60)||decide (c=62)||(decide (c=34)&&v)||!sign c)=true):zu v (c::t)=none:=by
 unfold zu;rw[zt,if_neg hc,if_pos h]
theorem Xm (v:Bool){c:UInt8}{t:List UInt8}(hc:c≠38)(h:(decide (c=60)||decide (c=62)||(decide (c=34)&&v)||!sign c)=false):zu v (c::t)=(zu v t).map (c::·):=by
 unfold zu;rw[zt,if_neg hc,if_neg (by rw[h];decide)]
 rw[Zc v _ (t.length+1) t (by simp only[List.length_cons];omega) (Nat.lt_succ_self _)]
def zh (v:Bool)(s:List UInt8):List UInt8 × Bool:=match zu v s with
 | some x=>(x,true)
 | none=>([],false)
theorem y8 (c:UInt8):∀ (l:List UInt8),Lib.indexByte l c=match l.dropWhile (fun x=>decide (x≠c)) with
 | []=>-1
 | _::_=>((l.takeWhile (fun x=>decide (x≠c))).length:Int):=by
 intro l
 induction l with
 | nil=>rfl
 | cons d l ih =>
   by_cases h:d=c
   · subst h;simp[Lib.indexByte]
   · have hb : (d == c) = false := by simpa using h
     rw[List.dropWhile_cons,List.takeWhile_cons,if_pos (by simpa using h),if_pos (by simpa using h)]
     simp only[Lib.indexByte,hb,ih];cases hd:l.dropWhile (fun x=>decide (x≠c)) with
     | nil=>rfl
     | cons x r =>
       simp only[List.length_cons];rw[if_neg (by decide),if_neg (by simp)]
       push_cast
       rfl
def piecesL:Nat→List UInt8→Option (List (List UInt8))
 | 0,_=>none
 | _+1,[]=>some []
 | f + 1, c :: t =>
   if c=60 then match t.dropWhile zK with
    | []=>none
    | _::r=>(piecesL f r).map ((60::(t.takeWhile zK++[62]))::·)
   else (piecesL f ((c::t).dropWhile z7)).map ((c::t).takeWhile z7::·)
def QH (st:List Tr)(p:List UInt8):Option (List Tr):=match p with
 | []=>none
 | c::u=>if c=60 then zG st u.dropLast else yB st (c::u)
def foldD:List Tr→List (List UInt8)→Option (List Tr)
 | st,[]=>some st
 | st, p :: ps => match QH st p with
   | none=>none
   | some st'=>foldD st' ps
theorem QR {c:UInt8}(t:List UInt8)(h:c≠60):(c::t).takeWhile z7=c::t.takeWhile z7∧(c::t).dropWhile z7=t.dropWhile z7:=by
 have:z7 c=true:=by simp[z7,h]
 rw[List.takeWhile_cons,List.dropWhile_cons,if_pos this,if_pos this];exact ⟨rfl,rfl⟩
theorem runD_pieces:∀ (f:Nat)(st:List Tr)(s:List UInt8),runD f st s=match piecesL f s with
 | none=>none
 | some ps=>foldD st ps:=by
 intro f
 induction f with
 | zero=>intro st s;rfl
 | succ f ih =>
   intro st s;cases s with
   | nil=>rfl
   | cons c t =>
     rw[runD,piecesL]
     by_cases hc:c=60
     · rw[if_pos hc, if_pos hc];cases hd:t.dropWhile zK with
       | nil=>rfl
       | cons x r =>
         simp only
         have hp:QH st (60::(t.takeWhile zK++[62]))=zG st (t.takeWhile zK):=by
          show (if (60:UInt8)=60 then zG st (t.takeWhile zK++[62]).dropLast else yB st (60::(t.takeWhile zK++[62])))=_
          rw[if_pos rfl,List.dropLast_concat]
         cases hm:zG st (t.takeWhile zK) with
         | none =>
           cases piecesL f r with
           | none=>rfl
           | some ps=>simp[foldD,hp,hm]
         | some st' =>
           simp only;rw[ih];cases piecesL f r with
           | none=>rfl
           | some ps=>simp[foldD,hp,hm]
     · rw[if_neg hc, if_neg hc]
       have hp:QH st ((c::t).takeWhile z7)=yB st ((c::t).takeWhile z7):=by
        rw[(QR t hc).1]
        show (if c=60 then _ else _)=_
        rw[if_neg hc]
       cases hm:yB st ((c::t).takeWhile z7) with
       | none =>
         cases piecesL f ((c::t).dropWhile z7) with
         | none=>rfl
         | some ps=>simp[foldD,hp,hm]
       | some st' =>
         simp only;rw[ih];cases piecesL f ((c::t).dropWhile z7) with
         | none=>rfl
         | some ps=>simp[foldD,hp,hm]
theorem pieces_fuel:∀ (f g:Nat)(s:List UInt8),s.length<f→s.length<g→piecesL f s=piecesL g s:=by
 intro f
 induction f with
 | zero=>intro g s h;omega
 | succ f ih =>
   intro g s h hg;cases g with
   | zero=>omega
   | succ g =>
     cases s with
     | nil=>rfl
     | cons c t =>
       simp only[List.length_cons]at h hg
       rw[piecesL,piecesL]
       by_cases hc:c=60
       · rw[if_pos hc, if_pos hc];cases hd:t.dropWhile zK with
         | nil=>rfl
         | cons x r =>
           have hl:=q6 zK t;rw[hd,List.length_cons]at hl
           simp only;rw[ih g r (by omega) (by omega)]
       · rw[if_neg hc, if_neg hc]
         have hl:((c::t).dropWhile z7).length≤t.length:=by
          rw[(QR t hc).2];exact q6 _ _
         rw[ih g _ (by omega) (by omega)]
def qT (s:List UInt8):Option (List (List UInt8)):=piecesL (s.length+1) s
theorem Qf (st:List Tr)(s:List UInt8):run st s=match qT s with
 | none=>none
 | some ps=>foldD st ps:=runD_pieces _ _ _
theorem piecesX_nil:qT []=some []:=rfl
theorem X8 {t:List UInt8}(h:t.dropWhile zK=[]):qT (60::t)=none:=by
 unfold qT;rw[piecesL,if_pos rfl,h]
theorem X7 {t r:List UInt8}{x:UInt8}(h:t.dropWhile zK=x::r):qT (60::t)=(qT r).map ((60::(t.takeWhile zK++[62]))::·):=by
 have hl:=q6 zK t;rw[h,List.length_cons]at hl
 unfold qT;rw[piecesL,if_pos rfl,h];simp only;rw[pieces_fuel _ (r.length+1) r (by simp only[List.length_cons];omega) (Nat.lt_succ_self _)]
theorem X9 {c:UInt8}{t:List UInt8}(hc:c≠60):qT (c::t)=(qT ((c::t).dropWhile z7)).map ((c::t).takeWhile z7::·):=by
 have hl:((c::t).dropWhile z7).length≤t.length:=by
  rw[(QR t hc).2];exact q6 _ _
 unfold qT;rw[piecesL,if_neg hc,pieces_fuel _ (((c::t).dropWhile z7).length+1) _ (by simp only[List.length_cons];omega) (Nat.lt_succ_self _)]
def qfW (N:Nat)(p:List UInt8):Prop:=p.length≤N∧((∃ m,p=60::(m++[62])∧m.all zK=true)∨∃ c u,p=c::u∧c≠60)
theorem pieces_ok:∀ (f:Nat)(s:List UInt8)(ps:List (List UInt8)),piecesL f s=some ps→(∀ p∈ps,qfW s.length p)∧ps.length≤s.length:=by
 intro f
 induction f with
 | zero=>intro s ps h;cases h
 | succ f ih =>
   intro s ps h;cases s with
   | nil=>injection h with h;subst h;exact ⟨fun p hp=>(by cases hp),nR9 _⟩
   | cons c t =>
     rw[piecesL]at h
     by_cases hc:c=60
     · rw[if_pos hc]at h
       cases hd:t.dropWhile zK with
       | nil=>rw[hd]at h;cases h
       | cons x r =>
         rw[hd]at h
         simp only at h
         cases hq:piecesL f r with
         | none=>rw[hq]at h;cases h
         | some qs =>
           rw[hq]at h
           injection h with h
           obtain ⟨h1,h2⟩:=ih r qs hq
           have hlen:t.length=(t.takeWhile zK).length+(r.length+1):=by
            have:=congrArg List.length (List.takeWhile_append_dropWhile (p:=zK) (l:=t));rw[hd,List.length_append,List.length_cons]at this
            exact this.symm
           subst h;refine ⟨fun p hp=>?_,by simp only[List.length_cons];omega⟩
           rw[List.mem_cons]at hp
           rcases hp with rfl|hp
           · exact ⟨by simp only[List.length_cons,List.length_append,List.length_nil];omega,Or.inl ⟨_,rfl,List.all_takeWhile⟩⟩
           · exact ⟨Nat.le_trans (h1 p hp).1 (by simp only[List.length_cons];omega),(h1 p hp).2⟩
     · rw[if_neg hc]at h
       cases hq:piecesL f ((c::t).dropWhile z7) with
       | none=>rw[hq]at h;cases h
       | some qs =>
         rw[hq]at h
         injection h with h
         obtain ⟨h1,h2⟩:=ih _ qs hq
         have hl:((c::t).dropWhile z7).length≤t.length:=by
          rw[(QR t hc).2];exact q6 _ _
         subst h;refine ⟨fun p hp=>?_,by simp only[List.length_cons];omega⟩
         rw[List.mem_cons]at hp
         rcases hp with rfl|hp
         · refine ⟨(List.takeWhile_prefix _).length_le,Or.inr ⟨c,_,(QR t hc).1,hc⟩⟩
         · exact ⟨Nat.le_trans (h1 p hp).1 (by simp only[List.length_cons];omega),(h1 p hp).2⟩
theorem qdi (c:UInt8)(l:List UInt8):Lib.cut l [c]=match l.dropWhile (fun x=>decide (x≠c)) with
 | []=>(l,[],false)
 | _::r=>(l.takeWhile (fun x=>decide (x≠c)),r,true):=by
 have hi:Lib.index l [c]=_:=(Lib.index_one l c).trans (y8 c l);unfold Lib.cut;rw[hi];cases hd:l.dropWhile (fun x=>decide (x≠c)) with
 | nil=>exact if_neg (show ¬ ((0:Int)≤-1) by decide)
 | cons x r =>
   simp only;have e:=List.takeWhile_append_dropWhile (p:=fun x=>decide (x≠c)) (l:=l)
   rw[hd]at e
   rw[if_pos (by omega),Int.toNat_natCast]
   generalize l.takeWhile (fun x=>decide (x≠c))=u at *
   rw[←e,List.take_left' rfl,show u++x::r=(u++[x])++r by simp,List.drop_left' (by simp)]
theorem qdv {u:List UInt8}(h:u.all qg=true)(r:List UInt8):Lib.index (u++61::34::r) [61,34]=(u.length:Int):=by
 induction u with
 | nil=>rfl
 | cons c u ih =>
   rw[List.all_cons,Bool.and_eq_true]at h
   have hc:c≠61:=by intro e;subst e;exact absurd h.1 (by decide)
   have hp:([61,34]:List UInt8).isPrefixOf (c::(u++61::34::r))=false:=by
    have:((61:UInt8)==c)=false:=by simpa using fun e=>hc e.symm
    simp[List.isPrefixOf,this]
   rw[List.cons_append,Lib.index,hp,ih h.2,if_neg (by decide),if_neg (by simp)]
   simp
theorem qdh {l name after:List UInt8}(h:Lib.cut l [61,34]=(name,after,true)):l=name++61::34::after:=by
 unfold Lib.cut at h
 rcases Lib.index_spec l [61,34] with ⟨h1,_⟩|⟨i,h1,h2,h3,_⟩
 · rw[h1,if_neg (by decide)]at h;cases h
 · rw[h1, if_pos (by omega), Int.toNat_natCast]at h
   injection h with ha h
   injection h with hb _
   unfold Lib.occAt at h3
   obtain ⟨q,hq⟩:=List.isPrefixOf_iff_prefix.1 h3;have e:l=l.take i++l.drop i:=(List.take_append_drop i l).symm;rw[ha]at e
   rw[←hq]at e
   have:q=after:=by
    rw[←hb]
    show q=l.drop (i+2)
    rw[←List.drop_drop,←hq];rfl
   rw[this]at e
   exact e
theorem Vn (l:List UInt8):if ((Lib.cut l [61,34]).2.2&&qI (Lib.cut l [61,34]).1)=true then l.takeWhile qg=(Lib.cut l [61,34]).1∧l.dropWhile qg=61::34::(Lib.cut l [61,34]).2.1
 else qI (l.takeWhile qg)=false∨∀ after,l.dropWhile qg≠61::34::after:=by
 split
 · rename_i h
   rw[Bool.and_eq_true]at h
   generalize hq:Lib.cut l [61,34]=q at *
   obtain ⟨name,after,ok⟩:=q;simp only at h
   rw[h.1]at hq
   have e:=qdh hq
   have hl:name.all qg=true:=by
    have:=h.2;simp only[qI,Bool.and_eq_true]at this
    exact this.2
   have ht:=qH (p:=qg) (l:=name) (c:=61) (x:=34::after) hl (by decide)
   rw[e];exact ht
 · rename_i h
   by_cases hn:qI (l.takeWhile qg)=true
   · right
     intro after hd
     apply h
     have e:=List.takeWhile_append_dropWhile (p:=qg) (l:=l);rw[hd]at e
     have hi:=qdv (u:=l.takeWhile qg) List.all_takeWhile after;rw[e]at hi
     unfold Lib.cut;rw[hi,if_pos (by omega),Int.toNat_natCast]
     simp only[Bool.true_and]
     have:l.take (l.takeWhile qg).length=l.takeWhile qg:=by
      have:(l.takeWhile qg++61::34::after).take (l.takeWhile qg).length=l.takeWhile qg:=List.take_left' rfl
      rwa [e]at this
     rw[this];exact hn
   · left
     simpa using hn
theorem attrs_fuel:∀ (f g:Nat)(m:List UInt8),m.length<f→m.length<g→attrsL f m=attrsL g m:=by
 intro f
 induction f with
 | zero=>intro g m h;omega
 | succ f ih =>
   intro g m h hg;cases g with
   | zero=>omega
   | succ g =>
     rw[attrsL,attrsL]
     split
     · rfl
     · split
       · rfl
       · split
         · rfl
         · split
           · rename_i after hd
             split
             · rfl
             · rename_i x next hq
               have h1:next.length<after.length:=by
                have:=q6 zC after;rw[hq,List.length_cons]at this
                omega
               have h2:after.length<m.length:=by
                have a:=q6 qg (m.dropWhile qo);have b:=q6 qo m;rw[hd]at a
                simp only[List.length_cons]at a
                omega
               rw[ih g next (by omega) (by omega)]
           · rfl
def zW (m:List UInt8):Option (List (List UInt8 × List UInt8)):=attrsL (m.length+1) m
theorem V3 {m:List UInt8}(h:m.all qo=true):zW m=some []:=by
 unfold zW;rw[attrsL,if_pos h]
def nameOf (m:List UInt8):List UInt8:=(Lib.cut (m.dropWhile qo) [61,34]).1
def zP (m:List UInt8):List UInt8:=(Lib.cut (m.dropWhile qo) [61,34]).2.1
def qdt (m:List UInt8):Bool:=(Lib.cut (m.dropWhile qo) [61,34]).2.2
def xB (m:List UInt8):List UInt8:=(Lib.cut (zP m) [34]).1
def Zd (m:List UInt8):List UInt8:=(Lib.cut (zP m) [34]).2.1
def ZQ (m:List UInt8):Bool:=(Lib.cut (zP m) [34]).2.2
def qeB (m:List UInt8):Bool:=decide ((m.dropWhile qo).length=m.length)||!qdt m||!ZQ m||!(zh true (xB m)).2||!qI (nameOf m)
theorem Kv {m:List UInt8}(h:m.all qo=false):zW m=if qeB m then none else (zW (Zd m)).map ((nameOf m,(zh true (xB m)).1)::·):=by
 have hc:=Vn (m.dropWhile qo);have hs:=qdi 34 (zP m);unfold zW;rw[attrsL,if_neg (by rw[h];decide)]
 unfold qeB
 by_cases h1:(m.dropWhile qo).length=m.length
 · rw[if_pos h1];simp[h1]
 rw[if_neg h1]
 by_cases h2:(qdt m&&qI (nameOf m))=true
 · rw[if_pos (show ((Lib.cut (m.dropWhile qo) [61, 34]).2.2 && qI (Lib.cut (m.dropWhile qo) [61, 34]).1) = true from h2)]at hc
   have e1:(m.dropWhile qo).takeWhile qg=nameOf m:=hc.1;have e2:(m.dropWhile qo).dropWhile qg=61::34::zP m:=hc.2;rw[Bool.and_eq_true]at h2
   rw[e1,e2,h2.1,h2.2];simp only[Bool.not_true,Bool.false_eq_true,if_false,Bool.or_false];rw[show (fun x:UInt8=>decide (x≠34))=zC from rfl]at hs
   cases hd:(zP m).dropWhile zC with
   | nil =>
     rw[hd]at hs
     have:ZQ m=false:=by unfold ZQ;rw[hs]
     simp[this]
   | cons x next =>
     rw[hd]at hs
     have t1:ZQ m=true:=by unfold ZQ;rw[hs]
     have t2:xB m=(zP m).takeWhile zC:=by unfold xB;rw[hs]
     have t3:Zd m=next:=by unfold Zd;rw[hs]
     have hlt:((zP m).takeWhile zC).length<(zP m).length+1:=by
      have:=(List.takeWhile_prefix (l:=zP m) zC).length_le;omega
     have hn:next.length<m.length:=by
      have a:=q6 qg (m.dropWhile qo);have b:=q6 qo m;have c:=q6 zC (zP m);rw[e2]at a
      rw[hd]at c
      simp only[List.length_cons]at a c
      omega
     simp only;rw[Zc true _ (((zP m).takeWhile zC).length+1) _ hlt (Nat.lt_succ_self _),←t2,t1,t3,attrs_fuel m.length (next.length+1) next hn (Nat.lt_succ_self _)]
     show (match zu true (xB m) with
      | none=>none
      | some x=>_)=_
     unfold zh;cases zu true (xB m) with
     | none=>simp
     | some x=>simp[h1]
 · rw[if_neg (show ¬ ((Lib.cut (m.dropWhile qo) [61, 34]).2.2 && qI (Lib.cut (m.dropWhile qo) [61, 34]).1) = true from h2)]at hc
   have hb:(decide ((m.dropWhile qo).length=m.length)||!qdt m||!ZQ m||!(zh true (xB m)).2||!qI (nameOf m))=true:=by
    cases a:qdt m
    · simp
    · cases b : qI (nameOf m)
      · simp
      · rw[a,b]at h2;simp at h2
   rw[if_pos hb]
   rcases hc with hc|hc
   · rw[hc];simp
   · split
     · rfl
     · split
       · rename_i after hd
         exact absurd hd (hc after)
       · rfl
theorem qcj {m:List UInt8}(h:qeB m=false):(Zd m).length<m.length:=by
 unfold qeB at h
 simp only[Bool.or_eq_false_iff,Bool.not_eq_false']at h
 obtain ⟨⟨⟨⟨_,h2⟩,_⟩,_⟩,h5⟩:=h;have hc:=Vn (m.dropWhile qo);rw[if_pos (show ((Lib.cut (m.dropWhile qo) [61,34]).2.2&&qI (Lib.cut (m.dropWhile qo) [61,34]).1)=true from by rw[Bool.and_eq_true];exact ⟨h2,h5⟩)]at hc
 have a:=q6 qg (m.dropWhile qo);have b:=q6 qo m;rw[hc.2]at a
 simp only[List.length_cons]at a
 have c:(Zd m).length≤(zP m).length:=by
  unfold Zd Lib.cut
  split
  · simp
  · simp
 unfold zP at c
 omega
end Go.Proofs.YtfplhcicbbhljaaGreatDoor
namespace Go.Proofs.YtfplhcicbbhljaaGreatDoor
open Go.ChangeShapes Go.WideShapes Go.ChangeAt Go.RowKit
set_option maxRecDepth 100000
def Els (P:Nat→Prop)(v:Value)(b:Nat):Prop:=P b∧v.ownBlock≠some b
structure KG (P:Nat→Prop) (n:Nat) (w:World) (v:Value) (us:List Tr) (qs:List (Bool × ByteArray × Value × Value)):Prop where
 len:qs.length=us.length
 own:w.ownsRow 0 79 4 v us.length (quadCells qs)
 at_:∀ g,v.ownBlock=some g→P g
 each:∀ (i:Nat) (q:Bool × ByteArray × Value × Value) (t:Tr),qs[i]?=some q→us[i]?=some t→q.1=t.text∧q.2.1=t.s∧qm (Els P v) w q.2.2.1 t.attrs∧qb (Els P v) w n q.2.2.2 t.kids
theorem KG.nil (P:Nat→Prop)(n:Nat)(w:World):KG P n w (.slice none 0 0) [] [] :=
 ⟨rfl,World.ownsRow_nil _ _ _ _,fun g hg=>(by cases hg),fun i q t h=>by simp at h⟩
theorem KG.carry {P P':Nat→Prop}{n:Nat}{w w':World}{v:Value}{us:List Tr}{qs:List (Bool × ByteArray × Value × Value)}(h:KG P n w v us qs)(hw:∀ b,P b→b<w.heap.size→P' b∧w'.heap[b]?=w.heap[b]?):KG P' n w' v us qs:=by
 have hlt:∀ g,v.ownBlock=some g→g<w.heap.size:=fun g hg=>(h.own.lt g hg).2
 have carry:∀ b,(Els P v b∧b<w.heap.size)→Els P' v b∧w'.heap[b]?=w.heap[b]?:=fun b hb=>⟨⟨(hw b hb.1.1 hb.2).1,hb.1.2⟩,(hw b hb.1.1 hb.2).2⟩
 refine ⟨h.len,qn h.own (fun g hg=>(hw g (h.at_ g hg) (hlt g hg)).2),fun g hg=>(hw g (h.at_ g hg) (hlt g hg)).1,fun i q t hq ht=>?_⟩
 obtain ⟨a,b,c,d⟩:=h.each i q t hq ht;exact ⟨a,b,c.bounded.carry carry,qb.carry carry n (qb.bounded n d)⟩
theorem KG.done {P:Nat→Prop}{n:Nat}{w:World}{v:Value}{us:List Tr}{qs:List (Bool × ByteArray × Value × Value)}(h:KG P n w v us qs):qb P w (n+1) v us:=by
 rcases h.own.2 with ⟨hv,h0⟩|⟨g,cap,cur,hv,hB,hh,hc,hm,_⟩
 · have : us = [] := List.eq_nil_of_length_eq_zero h0;subst this;exact qb.nil _ ⟨_,_,hv,nZ9 _⟩
 · have hP := h.at_;have hown:=h.own;have heach:=h.each;subst hv;refine ⟨_,_,rfl,hc,hm,fun _=>⟨g,0,rfl,hP g rfl,fun i t ht=>?_⟩⟩
   have hi:i<us.length:=by
    rcases Nat.lt_or_ge i us.length with h'|h'
    · exact h'
    · rw[List.getElem?_eq_none h']at ht;cases ht
   obtain ⟨q,hq⟩:∃ q,qs[i]?=some q:=⟨qs[i]'(by rw[h.len];exact hi),by simp[h.len,hi]⟩
   obtain ⟨a,b,c,d⟩:=heach i q t hq ht;obtain ⟨g0,g1,g2,g3⟩:=zY qs i q hq;refine ⟨q.2.2.1,q.2.2.2,?_,?_,?_,?_,c.carry (fun b hb=>⟨hb.1,rfl⟩),qb.carry (fun b hb=>⟨hb.1,rfl⟩) n d⟩
   · rw[Nat.zero_add,World.ownsRow.cellAt hown (i*4) (by omega),g0,a]
   · rw[Nat.zero_add,World.ownsRow.cellAt hown (i*4+1) (by omega),g1,b]
   · rw[Nat.zero_add,World.ownsRow.cellAt hown (i*4+2) (by omega),g2]
   · rw[Nat.zero_add,World.ownsRow.cellAt hown (i*4+3) (by omega),g3]
theorem jS {α:Type}{l:List α}{x y:α}{i:Nat}(h:(l++[x])[i]?=some y):(i<l.length∧l[i]?=some y)∨(i=l.length∧y=x):=by
 rcases Nat.lt_or_ge i l.length with hi|hi
 · rw[List.getElem?_append_left hi]at h
   exact Or.inl ⟨hi,h⟩
 · rw[List.getElem?_append_right hi]at h
   have hz:i-l.length=0:=by
    rcases Nat.eq_zero_or_pos (i-l.length) with h'|h'
    · exact h'
    · rw[List.getElem?_eq_none (by simp;omega)]at h;cases h
   rw[hz]at h
   simp at h
   exact Or.inr ⟨by omega,h.symm⟩
theorem KG.snoc {P P' Q:Nat→Prop}{n:Nat}{w w':World}{v v':Value}{us:List Tr}{qs:List (Bool × ByteArray × Value × Value)}{t:Tr}{q:Bool × ByteArray × Value × Value}
 (h:KG P n w v us qs) (hown:w'.ownsRow 0 79 4 v' (us.length+1) (quadCells qs++[.bool q.1,.string q.2.1,q.2.2.1,q.2.2.2]))
 (hg:w.grownBy w' v.ownBlock) (hat:v'.ownBlock=v.ownBlock∨v'.ownBlock=some w.heap.size) (hP:∀ b,P b→b<w.heap.size→P' b) (hQ:∀ b,Q b→b<w.heap.size→P' b∧v.ownBlock≠some b) (hN:P' w.heap.size)
 (h1:q.1=t.text) (h2:q.2.1=t.s) (ha:qm Q w q.2.2.1 t.attrs) (hk:qb Q w n q.2.2.2 t.kids):KG P' n w' v' (us++[t]) (qs++[q]):=by
 have hlt:∀ g,v.ownBlock=some g→g<w.heap.size:=fun g hg=>(h.own.lt g hg).2
 have out:∀ b,b<w.heap.size→v.ownBlock≠some b→v'.ownBlock≠some b∧w'.heap[b]?=w.heap[b]?:=by
  intro b hb hne;refine ⟨?_,hg.block b hb (fun e=>hne e.symm)⟩
  rcases hat with e|e
  · rw[e];exact hne
  · rw[e];intro e';cases e';exact Nat.lt_irrefl _ hb
 have carry:∀ b,(Els P v b∧b<w.heap.size)→Els P' v' b∧w'.heap[b]?=w.heap[b]?:=fun b hb=>⟨⟨hP b hb.1.1 hb.2,(out b hb.2 hb.1.2).1⟩,(out b hb.2 hb.1.2).2⟩
 have carryQ:∀ b,(Q b∧b<w.heap.size)→Els P' v' b∧w'.heap[b]?=w.heap[b]?:=fun b hb=>⟨⟨(hQ b hb.1 hb.2).1,(out b hb.2 (hQ b hb.1 hb.2).2).1⟩,(out b hb.2 (hQ b hb.1 hb.2).2).2⟩
 refine ⟨by simp[h.len],by rw[zm,List.length_append];exact hown,fun g hg'=>?_,fun i q' t' hq ht=>?_⟩
 · rcases hat with e | e
   · rw[e]at hg';exact hP g (h.at_ g hg') (hlt g hg')
   · rw[e]at hg';cases hg';exact hN
 · rcases jS hq with ⟨hi, hq⟩ | ⟨hi, rfl⟩
   · rcases jS ht with ⟨_, ht⟩ | ⟨hi', _⟩
     · obtain ⟨a, b, c, d⟩ := h.each i q' t' hq ht;exact ⟨a,b,c.bounded.carry carry,qb.carry carry n (qb.bounded n d)⟩
     · exfalso;rw[h.len]at hi;omega
   · rcases jS ht with ⟨hi', _⟩ | ⟨_, rfl⟩
     · exfalso;rw[h.len]at hi;omega
     · exact ⟨h1,h2,ha.bounded.carry carryQ,qb.carry carryQ n (qb.bounded n hk)⟩
def Lv (F:Nat→Nat)(B ob i b:Nat):Prop:=F b=i∧b≠ob∧B≤b
structure Stk (F:Nat→Nat) (B:Nat) (w:World) (v:Value) (ob:Nat) (ss:List Tr) (qs:List (Bool × ByteArray × Value × Value)):Prop where
 len:qs.length=ss.length
 own:w.ownsRow B 79 4 v ss.length (quadCells qs)
 at_:v.ownBlock=some ob
 few:ss.length≤9
 each:∀ (i:Nat) (q:Bool × ByteArray × Value × Value) (t:Tr),qs[i]?=some q→ss[i]?=some t→q.1=t.text∧q.2.1=t.s∧qm (Els (Lv F B ob i) q.2.2.2) w q.2.2.1 t.attrs∧∃ ps,KG (Lv F B ob i) (8-i) w q.2.2.2 t.kids ps
theorem yx {α:Type}{l:List α}{x:α}{i:Nat}(h:l[i]?=some x):i<l.length:=by
 rcases Nat.lt_or_ge i l.length with h'|h'
 · exact h'
 · rw[List.getElem?_eq_none h']at h;cases h
theorem xx {F F':Nat→Nat}{B ob ob' i n:Nat}{w w':World}{va vk:Value}{al:List (ByteArray × ByteArray)}{us:List Tr}
 (h:qm (Els (Lv F B ob i) vk) w va al∧∃ ps,KG (Lv F B ob i) n w vk us ps) (hw:∀ b,F b=i→b≠ob→B≤b→b<w.heap.size→F' b=i∧b≠ob'∧w'.heap[b]?=w.heap[b]?) :
 qm (Els (Lv F' B ob' i) vk) w' va al∧∃ ps,KG (Lv F' B ob' i) n w' vk us ps:=by
 obtain ⟨ha,ps,hk⟩:=h;refine ⟨ha.bounded.carry fun b hb=>?_,ps,hk.carry fun b hb hlt=>?_⟩
 · obtain ⟨⟨⟨h1, h2, h3⟩, h4⟩, h5⟩ := hb;obtain ⟨a,b,c⟩:=hw b h1 h2 h3 h5;exact ⟨⟨⟨a,b,h3⟩,h4⟩,c⟩
 · obtain ⟨h1, h2, h3⟩ := hb;obtain ⟨a,b,c⟩:=hw b h1 h2 h3 hlt;exact ⟨⟨a,b,h3⟩,c⟩
def fresh (F:Nat→Nat)(N:Nat)(b:Nat):Nat:=if b<N then F b else 99
theorem Stk.later {F:Nat→Nat}{B:Nat}{w w':World}{v:Value}{ob:Nat}{ss:List Tr}{qs:List (Bool × ByteArray × Value × Value)}(h:Stk F B w v ob ss qs)(hb:Below w.heap.size w w'):Stk (fresh F w.heap.size) B w' v ob ss qs :=
 ⟨h.len,qq h.own hb,h.at_,h.few,fun i q t hq ht=>by
  obtain ⟨a,b,c⟩:=h.each i q t hq ht;exact ⟨a,b,xx c fun b h1 h2 _ h4=>⟨by unfold fresh;rw[if_pos h4];exact h1,h2,hb.block b h4⟩⟩⟩
def QM (F:Nat→Nat)(N i:Nat)(b:Nat):Nat:=if b<N∧F b≠99 then F b else i
theorem Stk.add {F:Nat→Nat}{B:Nat}{w w':World}{v v':Value}{ob cap:Nat}{ss:List Tr}{T k:Tr}{qs ps:List (Bool × ByteArray × Value × Value)}{q p:Bool × ByteArray × Value × Value}{Q:Nat→Prop}
 (h:Stk F B w v ob (ss++[T]) (qs++[q])) (hv:v=.slice (some ⟨ob,0,none⟩) (ss.length+1) cap) (hK:KG (Lv F B ob ss.length) (8-ss.length) w q.2.2.2 T.kids ps)
 (hown:w'.ownsRow 0 79 4 v' (T.kids.length+1) (quadCells ps++[.bool p.1,.string p.2.1,p.2.2.1,p.2.2.2]))
 (hg:w.grownBy w' q.2.2.2.ownBlock) (hat:v'.ownBlock=q.2.2.2.ownBlock∨v'.ownBlock=some w.heap.size) (hB:B≤w.heap.size) (hQ:∀ b,Q b→b<w.heap.size→F b=99∧b≠ob∧B≤b)
 (h1:p.1=k.text) (h2:p.2.1=k.s) (ha:qm Q w p.2.2.1 k.attrs) (hk:qb Q w (8-ss.length) p.2.2.2 k.kids) :
 Stk (QM F w.heap.size ss.length) B (w'.setCell ⟨ob,ss.length*4+3,none⟩ v') v ob (ss++[{ T with kids:=T.kids++[k] }]) (qs++[(q.1,q.2.1,q.2.2.1,v')]):=by
 have hl:qs.length=ss.length:=by have:=h.len;simp at this;exact this
 have hf:ss.length≤8:=by have:=h.few;simp at this;omega
 have hob:ob<w.heap.size:=(h.own.lt ob h.at_).2;have hkob:q.2.2.2.ownBlock≠some ob:=fun e=>(hK.at_ ob e).2.1 rfl
 have hnb:w.heap.size≠ob:=by omega
 have hv'ob:v'.ownBlock≠some ob:=by
  rcases hat with e|e
  · rw[e];exact hkob
  · rw[e];intro e';cases e';exact hnb rfl
 have hset:∀ b,b≠ob→(w'.setCell ⟨ob,ss.length*4+3,none⟩ v').heap[b]?=w'.heap[b]?:=fun b hb=>heap_setCell_other w' _ b _ hb
 have ho1:w'.ownsRow B 79 4 v (ss++[T]).length (quadCells (qs++[q])):=qn h.own (fun g hg'=>by
  rw[h.at_]at hg';cases hg'
  exact hg.block _ hob (fun e=>hkob e.symm))
 have hK':=KG.snoc (P':=Lv (QM F w.heap.size ss.length) B ob ss.length) (t:=k) (q:=p) hK hown hg hat (fun b hb hlt=>⟨by unfold QM;rw[if_pos ⟨hlt,by rw[hb.1];omega⟩];exact hb.1,hb.2⟩) (fun b hb hlt=>by
  obtain ⟨a1,a2,a3⟩:=hQ b hb hlt;refine ⟨⟨by unfold QM;rw[if_neg (by rw[a1];simp)],a2,a3⟩,fun e=>?_⟩
  have:=(hK.at_ b e).1;omega) ⟨by unfold QM;rw[if_neg (by omega)],hnb,hB⟩ h1 h2 ha hk
 refine ⟨by simp[hl],?_,h.at_,by have:=h.few;simpa using this,fun i q' t' hq ht=>?_⟩
 · subst hv;have:=(World.ownsRow.stored (n:=ss.length+1) (xs:=quadCells (qs++[q])) (by simpa using ho1) (ss.length*4+3) v').1
   rw[List.length_append,List.length_singleton];rw[zm]at this ⊢
   have e:quadCells qs++quadCells [(q.1,q.2.1,q.2.2.1,v')]=(quadCells qs++quadCells [q]).set (ss.length*4+3) v':=by
    rw[List.set_append_right _ _ (by rw[za,hl];omega),za,hl,Nat.add_sub_cancel_left]
    rfl
   rw[e];exact this
 · rcases jS hq with ⟨hi, hq⟩ | ⟨hi, rfl⟩
   · rcases jS ht with ⟨_, ht⟩ | ⟨hi', _⟩
     · obtain ⟨a, b, c⟩ := h.each i q' t' (by rw[List.getElem?_append_left hi];exact hq) (by rw[List.getElem?_append_left (by omega)];exact ht)
       refine ⟨a,b,xx c fun b h1 h2 h3 h4=>⟨by unfold QM;rw[if_pos ⟨h4,by omega⟩];exact h1,h2,?_⟩⟩
       rw[hset b h2];exact hg.block b h4 (fun e=>by have:=(hK.at_ b e.symm).1;omega)
     · exfalso;omega
   · rcases jS ht with ⟨hi', _⟩ | ⟨_, rfl⟩
     · exfalso;omega
     · obtain ⟨a, b, c, _⟩ := h.each i q T (by rw[List.getElem?_append_right (by omega), hi, Nat.sub_self];rfl) (by rw[List.getElem?_append_right (by omega), hi, hl, Nat.sub_self];rfl)
       rw[hl]at hi
       subst hi;refine ⟨a,b,c.bounded.carry fun b hb=>?_,ps++[p],hK'.carry fun b hb _=>⟨hb,hset b hb.2.1⟩⟩
       obtain ⟨⟨⟨h1,h2,h3⟩,h4⟩,h5⟩:=hb;refine ⟨⟨⟨by unfold QM;rw[if_pos ⟨h5,by omega⟩];exact h1,h2,h3⟩,?_⟩,?_⟩
       · show v'.ownBlock ≠ some b
         rcases hat with e|e
         · rw[e];exact h4
         · rw[e];intro e';cases e';omega
       · rw[hset b h2];exact hg.block b h5 (fun e=>h4 e.symm)
theorem Stk.push {F:Nat→Nat}{B:Nat}{w w':World}{v v':Value}{ob:Nat}{ss:List Tr}{qs:List (Bool × ByteArray × Value × Value)}{nm:ByteArray}{va:Value}{al:List (ByteArray × ByteArray)}{Q:Nat→Prop}
 (h:Stk F B w v ob ss qs) (hf:ss.length≤8) (hown:w'.ownsRow B 79 4 v' (ss.length+1) (quadCells qs++[.bool false,.string nm,va,.slice none 0 0]))
 (hg:w.grownBy w' v.ownBlock) (hat:v'.ownBlock=v.ownBlock∨v'.ownBlock=some w.heap.size) (hQ:∀ b,Q b→b<w.heap.size→F b=99∧b≠ob∧B≤b)
 (ha:qm Q w va al):∃ ob',Stk (QM F w.heap.size ss.length) B w' v' ob' (ss++[⟨false,nm,al,[]⟩]) (qs++[(false,nm,va,.slice none 0 0)]):=by
 have hob:ob<w.heap.size:=(h.own.lt ob h.at_).2;have hl:=h.len
 obtain ⟨ob',he⟩:∃ ob',v'.ownBlock=some ob':=by
  rcases hat with e|e
  · exact ⟨ob,by rw[e];exact h.at_⟩
  · exact ⟨_,e⟩
 have hne:∀ b,b<w.heap.size→b≠ob→b≠ob'∧w'.heap[b]?=w.heap[b]?:=by
  intro b hb hbo;refine ⟨?_,hg.block b hb (fun e=>by rw[h.at_]at e;cases e;exact hbo rfl)⟩
  rcases hat with e|e
  · rw[e,h.at_]at he;cases he;exact hbo
  · rw[e]at he;cases he;omega
 refine ⟨ob',by simp[hl],by rw[zm,List.length_append];exact hown,he,by simp;omega,fun i q' t' hq ht=>?_⟩
 rcases jS hq with ⟨hi,hq⟩|⟨hi,rfl⟩
 · rcases jS ht with ⟨_, ht⟩ | ⟨hi', _⟩
   · obtain ⟨a, b, c⟩ := h.each i q' t' hq ht;exact ⟨a,b,xx c fun b h1 h2 h3 h4=>⟨by unfold QM;rw[if_pos ⟨h4,by omega⟩];exact h1,hne b h4 h2⟩⟩
   · exfalso;omega
 · rcases jS ht with ⟨hi', _⟩ | ⟨_, rfl⟩
   · exfalso;omega
   · rw[hl]at hi
     subst hi;refine ⟨rfl,rfl,ha.bounded.carry fun b hb=>?_,[],KG.nil _ _ _⟩
     obtain ⟨a1,a2,a3⟩:=hQ b hb.1 hb.2;exact ⟨⟨⟨by unfold QM;rw[if_neg (by rw[a1];simp)],(hne b hb.2 a2).1,a3⟩,by simp[Value.ownBlock]⟩,(hne b hb.2 a2).2⟩
def Xg (F:Nat→Nat)(i:Nat)(b:Nat):Nat:=if F b=i then 99 else F b
theorem Stk.pop {F:Nat→Nat}{B:Nat}{w:World}{ob cap:Nat}{ss:List Tr}{T:Tr}{qs:List (Bool × ByteArray × Value × Value)}{q:Bool × ByteArray × Value × Value}
 (h:Stk F B w (.slice (some ⟨ob,0,none⟩) (ss.length+1) cap) ob (ss++[T]) (qs++[q])) :
 Stk (Xg F ss.length) B w (.slice (some ⟨ob,0,none⟩) ss.length cap) ob ss qs∧q.1=T.text∧q.2.1=T.s ∧
  qm (fun b=>Xg F ss.length b=99∧b≠ob∧B≤b) w q.2.2.1 T.attrs∧qb (fun b=>Xg F ss.length b=99∧b≠ob∧B≤b) w (8-ss.length+1) q.2.2.2 T.kids:=by
 have hl:qs.length=ss.length:=by have:=h.len;simp at this;exact this
 refine ⟨⟨hl,?_,rfl,by have:=h.few;simp at this;omega,fun i q' t' hq ht=>?_⟩,?_⟩
 · rcases h.own with ⟨h1, ⟨h2, _⟩ | ⟨g, cap', cur, hv, hB, hh, hc, hm, hsz, ht⟩⟩
   · cases h2
   · simp only[List.length_append, List.length_singleton, Value.slice.injEq, Option.some.injEq, Addr.mk.injEq, and_true, true_and]at hv
     obtain ⟨rfl,rfl⟩:=hv;refine ⟨by rw[za,hl],Or.inr ⟨ob,cap,cur,rfl,hB,hh,by simp at hc;omega,hm,hsz,?_⟩⟩
     have e:=congrArg (List.take (ss.length*4)) ht;rw[List.take_take,zm,List.take_append_of_le_length (by rw[za,hl];exact nR9 _),List.take_of_length_le (l:=quadCells qs) (by rw[za,hl];exact nR9 _),Nat.min_eq_left (by simp;omega)]at e
     exact e
 · have hi := yx hq;obtain ⟨a,b,c⟩:=h.each i q' t' (by rw[List.getElem?_append_left hi];exact hq) (by rw[List.getElem?_append_left (by omega)];exact ht)
   exact ⟨a,b,xx c fun b h1 h2 h3 h4=>⟨by unfold Xg;rw[if_neg (by omega)];exact h1,h2,rfl⟩⟩
 · obtain ⟨a, b, c, ps, d⟩ := h.each ss.length q T (by rw[List.getElem?_append_right (by omega), hl, Nat.sub_self];rfl) (by rw[List.getElem?_append_right (by omega), Nat.sub_self];rfl)
   have hs:∀ b,Lv F B ob ss.length b→(Xg F ss.length b=99∧b≠ob∧B≤b):=fun b hb=>⟨by unfold Xg;rw[if_pos hb.1],hb.2⟩
   exact ⟨a,b,c.carry fun b hb=>⟨hs b hb.1,rfl⟩,qb.carry (fun b hb=>⟨hs b hb,rfl⟩) _ d.done⟩
end Go.Proofs.YtfplhcicbbhljaaGreatDoor
