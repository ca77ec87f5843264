/- Bundled: SizeM ContM RefSize CountT Count CountS SizeT. What each says stands ahead of it. -/
import Derived.Test.YtnppmdpmippcoaaGreatDoorBundle07
import Derived.Test.YtnppmdpmippcoaaGreatDoorBundle10
namespace Go.Proofs.YtnppmdpmippcoaaGreatDoor
open Go.ChangeShapes Go.WideShapes Go.ChangeAt Go.RowKit
set_option maxRecDepth 100000
def dep:Nat→List Tr→Nat
 | 0,_=>0
 | n+1,ts=>(ts.map fun t=>1+dep n t.kids).foldr max 0
theorem z8 (n:Nat):dep n []=0:=by cases n<;>rfl
theorem yS (n:Nat)(t:Tr)(r:List Tr):dep (n+1) (t::r)=max (1+dep n t.kids) (dep (n+1) r):=rfl
theorem zO (n:Nat)(a b:List Tr):dep n (a++b)=max (dep n a) (dep n b):=by
 cases n with
 | zero=>rfl
 | succ n =>
   induction a with
   | nil=>simp[z8]
   | cons t r ih=>rw[List.cons_append,yS,yS,ih];omega
theorem ze (n:Nat)(a b:List Tr):cnt n (a++b)=cnt n a+cnt n b:=by
 cases n with
 | zero=>rfl
 | succ n =>
   induction a with
   | nil=>simp[qx]
   | cons t r ih=>rw[List.cons_append,qO,qO,ih];omega
theorem dep_cnt:∀ (n:Nat)(ts:List Tr),dep n ts≤cnt n ts:=by
 intro n
 induction n with
 | zero=>intro ts;exact nR9 _
 | succ n ih =>
   intro ts
   induction ts with
   | nil=>rw[z8];omega
   | cons t r ihr=>rw[yS,qO];have:=ih t.kids;omega
def nx (ts:List Tr):List Tr:=ts.flatMap fun t=>t.kids
theorem nx_nil:nx []=[]:=rfl
theorem ju (t:Tr)(r:List Tr):nx (t::r)=t.kids++nx r:=by simp[nx]
theorem ji (a b:List Tr):nx (a++b)=nx a++nx b:=by simp[nx]
theorem QA (n:Nat)(ts:List Tr):cnt (n+1) ts=ts.length+cnt n (nx ts):=by
 induction ts with
 | nil=>simp[qx,nx_nil]
 | cons t r ih=>rw[qO,ju,ze,ih,List.length_cons];omega
theorem Jg (n:Nat)(ts:List Tr)(h:ts≠[]):dep (n+1) ts=1+dep n (nx ts):=by
 induction ts with
 | nil=>exact absurd rfl h
 | cons t r ih =>
   rw[yS,ju,zO]
   by_cases hr:r=[]
   · subst hr;rw[z8,nx_nil,z8];omega
   · rw[ih hr];omega
theorem Deep.nx {n:Nat}{ts:List Tr}(h:Deep (n+1) ts):Deep n (nx ts):=by
 cases n with
 | zero =>
   show Go.Proofs.YtnppmdpmippcoaaGreatDoor.nx ts=[]
   induction ts with
   | nil=>rfl
   | cons t r ih =>
     rw[ju,ih (fun x hx=>h x (List.mem_cons_of_mem _ hx))]
     have:t.kids=[]:=h t (List.mem_cons_self ..);rw[this];rfl
 | succ n =>
   intro x hx;obtain ⟨t,ht,hxt⟩:=List.mem_flatMap.1 hx;exact h t ht x hxt
theorem Deep.len {n:Nat}{ts:List Tr}(h:Deep n ts):ts.length≤cnt n ts:=by
 cases n with
 | zero =>
   have:ts=[]:=h;rw[this];exact nZ9 _
 | succ n=>rw[QA];omega
theorem Qc {α:Type}{p:Nat→α→Prop}:∀ (n:Nat),(∀ i,i<n→∃ y,p i y)→∃ l:List α,l.length=n∧∀ i y,l[i]?=some y→p i y:=by
 intro n
 induction n with
 | zero=>intro _;exact ⟨[],rfl,fun i y h=>by simp at h⟩
 | succ n ih =>
   intro h;obtain ⟨l,hl,hp⟩:=ih (fun i hi=>h i (by omega))
   obtain ⟨y,hy⟩:=h n (by omega)
   refine ⟨l++[y],by simp[hl],fun i z hz=>?_⟩
   rcases Nat.lt_or_ge i n with hi|hi
   · rw[List.getElem?_append_left (by omega)]at hz;exact hp i z hz
   · rw[List.getElem?_append_right (by omega), hl]at hz
     rcases Nat.eq_zero_or_pos (i-n) with h0|h0
     · rw[h0]at hz;simp at hz;subst hz
       have:i=n:=by omega
       rw[this];exact hy
     · rw[List.getElem?_eq_none (by simp;omega)]at hz;cases hz
theorem xQ {ps:List (Bool × ByteArray × Value × Value)}{j:Nat}{u:Value}(h:(quadCells ps)[j]?=some u) :
 ∃ i q,ps[i]?=some q∧((j=i*4∧u=.bool q.1)∨(j=i*4+1∧u=.string q.2.1)∨(j=i*4+2∧u=q.2.2.1)∨(j=i*4+3∧u=q.2.2.2)):=by
 have hj:j<(quadCells ps).length:=(List.getElem?_eq_some_iff.1 h).1;rw[jl]at hj
 have hi:j / 4<ps.length:=by omega
 have hq:ps[j / 4]?=some ps[j / 4]:=by simp
 obtain ⟨g0,g1,g2,g3⟩:=zZ ps (j / 4) _ hq;refine ⟨j / 4,ps[j / 4],hq,?_⟩;have hm:j % 4=0∨j % 4=1∨j % 4=2∨j % 4=3:=by omega
 rcases hm with e|e|e|e
 · have hj' : j = j / 4 * 4 := by omega
   rw[←hj',h]at g0;exact Or.inl ⟨hj',by simpa using g0⟩
 · have hj' : j = j / 4 * 4 + 1 := by omega
   rw[←hj',h]at g1;exact Or.inr (Or.inl ⟨hj',by simpa using g1⟩)
 · have hj' : j = j / 4 * 4 + 2 := by omega
   rw[←hj',h]at g2;exact Or.inr (Or.inr (Or.inl ⟨hj',by simpa using g2⟩))
 · have hj' : j = j / 4 * 4 + 3 := by omega
   rw[←hj',h]at g3;exact Or.inr (Or.inr (Or.inr ⟨hj',by simpa using g3⟩))
theorem qd.quads {S:Nat→Prop}{w:World}{n:Nat}{ad:Addr}{len cap:Nat}{ts:List Tr}(h:qd S w (n+1) (.slice (some ad) len cap) ts) :
    ∃ ps : List (Bool × ByteArray × Value × Value), ps.length = ts.length ∧ (∀ j u, (quadCells ps)[j]? = some u → w.cell? (ad.add j) = some u) ∧ (∀ u ∈ quadCells ps, u.oneCell' = true) ∧
      ∀ (i:Nat) (q:Bool × ByteArray × Value × Value) (t:Tr),ps[i]?=some q→ts[i]?=some t→q.1=t.text∧q.2.1=t.s∧qj S w q.2.2.1 t.attrs∧qd S w n q.2.2.2 t.kids:=by
  obtain ⟨a,c,hv,h2,h3,h4⟩:=h
  by_cases hne:ts=[]
  · subst hne;exact ⟨[],rfl,fun j u hj=>by simp[quadCells]at hj,fun u hu=>by simp[quadCells]at hu,fun i q t hq=>by simp at hq⟩
  obtain ⟨b,o,ha,hs,hc⟩:=h4 hne
  have had:ad=⟨b,o,none⟩:=by
    rw[ha]at hv
    injection hv with h5
    injection h5
  obtain ⟨ps,hl,hp⟩:=Qc (α:=Bool × ByteArray × Value × Value) (p:=fun i q=>∀ t,ts[i]?=some t →
      w.cell? ⟨b,o+i*4,none⟩=some (.bool q.1)∧w.cell? ⟨b,o+i*4+1,none⟩=some (.string q.2.1)∧w.cell? ⟨b,o+i*4+2,none⟩=some q.2.2.1∧w.cell? ⟨b,o+i*4+3,none⟩=some q.2.2.2 ∧
      q.1=t.text∧q.2.1=t.s∧qj S w q.2.2.1 t.attrs∧qd S w n q.2.2.2 t.kids) ts.length (by
    intro i hi;have ht:ts[i]?=some ts[i]:=by simp
    obtain ⟨va,vk,c0,c1,c2,c3,hat,hkt⟩:=hc i _ ht;refine ⟨(ts[i].text,ts[i].s,va,vk),fun t ht'=>?_⟩
    rw[ht]at ht';cases ht'
    exact ⟨c0,c1,c2,c3,rfl,rfl,hat,hkt⟩)
  have find:∀ (i:Nat) (q:Bool × ByteArray × Value × Value),ps[i]?=some q→∃ t,ts[i]?=some t:=by
    intro i q hq;have:i<ps.length:=(List.getElem?_eq_some_iff.1 hq).1;exact ⟨ts[i]'(by omega),by simp⟩
  refine ⟨ps,hl,?_,?_,?_⟩
  · intro j u hj;obtain ⟨i,q,hq,hu⟩:=xQ hj;obtain ⟨t,ht⟩:=find i q hq;obtain ⟨c0,c1,c2,c3,_⟩:=hp i q hq t ht;subst had;rw[Addr.add_lit]
    rcases hu with ⟨rfl,rfl⟩|⟨rfl,rfl⟩|⟨rfl,rfl⟩|⟨rfl,rfl⟩
    · exact c0
    · exact c1
    · exact c2
    · exact c3
  · intro u hu;obtain ⟨j,hj⟩:=List.mem_iff_getElem?.1 hu;obtain ⟨i,q,hq,hu⟩:=xQ hj;obtain ⟨t,ht⟩:=find i q hq;obtain ⟨_,_,_,_,_,_,hA,hT⟩:=hp i q hq t ht
    rcases hu with ⟨_,rfl⟩|⟨_,rfl⟩|⟨_,rfl⟩|⟨_,rfl⟩
    · rfl
    · rfl
    · obtain ⟨x,y,e⟩:=hA.shape;rw[e];rfl
    · obtain ⟨x,y,e,_⟩:=qd.shape n hT;rw[e];rfl
  · intro i q t hq ht;obtain ⟨_,_,_,_,r⟩:=hp i q hq t ht;exact r
theorem zz.many {S:Nat→Prop}{n B:Nat}{w w':World}{v v':Value}{us ts:List Tr}{qs ps:List (Bool × ByteArray × Value × Value)}
 (h:zz S n B w v us qs) (hl:ps.length=ts.length) (hown:w'.ownsRow B 56 4 v' (us.length+ts.length) (quadCells qs++quadCells ps))
 (hg:w.grownBy w' v.ownBlock) (hat:v'.ownBlock=v.ownBlock∨v'.ownBlock=some w.heap.size)
 (he:∀ (i:Nat) (q:Bool × ByteArray × Value × Value) (t:Tr),ps[i]?=some q→ts[i]?=some t→q.1=t.text∧q.2.1=t.s∧qj (Oth S B w v) w q.2.2.1 t.attrs∧qd (Oth S B w v) w n q.2.2.2 t.kids):zz S n B w' v' (us++ts) (qs++ps):=by
 have carry:∀ b,Oth S B w v b→Oth S B w' v' b∧w'.heap[b]?=w.heap[b]?:=by
  intro b hb;refine ⟨⟨hb.1,Nat.lt_of_lt_of_le hb.2.1 hg.size,?_⟩,hg.block b hb.2.1 (fun e=>hb.2.2 e.symm)⟩
  rcases hat with e|e
  · rw[e];exact hb.2.2
  · rw[e];intro e';cases e';exact Nat.lt_irrefl _ hb.2.1
 refine ⟨by simp[h.len,hl],?_,?_⟩
 · rw[yv,List.length_append];exact hown
 · intro i q' t' hq ht
   rcases Nat.lt_or_ge i us.length with hi|hi
   · rw[List.getElem?_append_left (by rw[h.len];exact hi)]at hq
     rw[List.getElem?_append_left hi]at ht
     obtain ⟨a,b,c,d⟩:=h.each i q' t' hq ht;exact ⟨a,b,c.carry carry,qd.carry carry n d⟩
   · rw[List.getElem?_append_right (by rw[h.len];exact hi)]at hq
     rw[List.getElem?_append_right hi]at ht
     rw[h.len]at hq
     obtain ⟨a,b,c,d⟩:=he _ q' t' hq ht;exact ⟨a,b,c.carry carry,qd.carry carry n d⟩
theorem j7 {ops:Array Oper}{rest:List Oper}{o:Oper}{a:Act}{w:World}{Q:Exit→Act→World→Prop}(hgd:o.guard=none)(s x:Operand)
 (ho:o.op=.call { callee:=.builtin .append,args:=#[s,x],argTypes:=#[28,28] })
 (S S1:Nat→Prop) (n B:Nat) (v vk:Value) (us ts:List Tr) (qs:List (Bool × ByteArray × Value × Value)) (hs:a.eval s=v) (hG:zz S n B w v us qs) (hx:a.eval x=vk) (hk:qd S1 w (n+1) vk ts)
 (hS:∀ b,S1 b→Oth S B w v b) (hl:us.length+ts.length≤1048576) (hB:B≤w.heap.size)
 (h:∀ v' w' qs',zz S n B w' v' (us++ts) qs'→Below B w w'→wpList Tryz.prog ops Q rest (a.put o.dst v') w') :
 wpList Tryz.prog ops Q (o::rest) a w:=by
 obtain ⟨i0,hi,hz0,hz1,hz2⟩:=info_parts treeInfo;obtain ⟨ka,kc,rfl,hkc,hkm⟩:=qd.shape (n+1) hk;cases ka with
 | none =>
   have hn:ts=[]:=by
    apply Classical.byContradiction;intro hne
    obtain ⟨a,c,hv,_,_,h4⟩:=hk;obtain ⟨b,o,ha,_⟩:=h4 hne;rw[ha]at hv;cases hv
   subst hn;refine wpList_plain hgd fun K hK=>?_
   have hrun:(Builtin.append_ #[28,28] o.type #[v,.slice none 0 kc]).run Tryz.prog w=.ok v w:=by
    rcases hG.own.2 with ⟨rfl,e⟩|⟨g,cap,cur,rfl,_,_,hnc,_⟩
    · simp[Builtin.append_,run_underlying Tryz.underlying28,sizeOf,typeInfo,hi,Builtin.lenOf,Builtin.firstCells]
    · simp[Builtin.append_,run_underlying Tryz.underlying28,sizeOf,typeInfo,hi,Builtin.lenOf,Builtin.firstCells,hnc,storeCells]
   simp only[List.length_nil]at hx
   unfold Oper.wp;simp[execOp,ho,resolve,invoke,builtin,hs,hx,hrun,Result.andThen];exact hK _ _ (h v w qs (by rw[List.append_nil];exact hG) (Below.refl _ _))
 | some ad =>
   obtain ⟨ps,hpl,hpc,hp1,hpe⟩:=qd.quads hk;refine wpList_append_own_at w hgd s x 28 ho B 56 i0 _ 4 72 Tryz.underlying28 hi hz0 hz1 hz2 rfl (by decide) v us.length (quadCells qs) hs hG.own ad ts.length kc (quadCells ps) hx ?_ hpc hp1 ?_ ?_ hB ?_
   · rw[jl,hpl]
   · unfold maxLen;omega
   · omega
   · intro v' w' hown hgr _ hat
     exact h v' w' _ (hG.many hpl hown hgr hat (fun i q t hq ht=>by
      obtain ⟨a,b,c,d⟩:=hpe i q t hq ht;exact ⟨a,b,c.carry (fun b hb=>⟨hS b hb,rfl⟩),qd.carry (fun b hb=>⟨hS b hb,rfl⟩) n d⟩)) ((Below.refl _ w).grown hgr hB (fun k hk'=>(hG.own.lt k hk').1))
theorem xR (n:Nat):rgt n []=true:=by cases n<;>rfl
theorem JF {n:Nat}{t:Tr}(h:qD t=true):(t.text||rgt n t.kids)=rgt n t.kids:=by
 cases htt:t.text with
 | false=>rfl
 | true =>
   have:t.kids=[]:=by
    simp[qD,htt]at h
    exact h.2
   rw[this,xR];rfl
theorem qar (d n:Nat)(f:Int→List Tr→Int)
    (hf:∀ room k,0≤room→Deep n k→f room k=if dep n k≤d∧(cnt n k:Int)≤room∧rgt n k=true then room-cnt n k else -1) :
    ∀ (l : List Tr) (p : Bool) (room : Int), 0 ≤ room → Deep (n + 1) l →
      rl f p room l=if dep n (nx l)≤d∧(cnt n (nx l):Int)≤room∧rgL (rgt n) p l=true then room-cnt n (nx l) else -1:=by
  intro l
  induction l with
  | nil =>
    intro p room h0 _;rw[nx_nil,z8,qx,if_pos ⟨nZ9 _,by simpa using h0,rfl⟩]
    simp[rl]
  | cons t r ih =>
    intro p room h0 hd;have hk:Deep n t.kids:=hd t (List.mem_cons_self ..);have hr:Deep (n+1) r:=fun x hx=>hd x (List.mem_cons_of_mem _ hx)
    rw[ju,zO,ze];unfold rl;have hfk:=hf room t.kids h0 hk
    by_cases hA:(!qD t||(p&&t.text))=true
    · rw[if_pos hA, if_neg];rintro ⟨_,_,h3⟩;unfold rgL at h3
      cases h1:qD t<;>cases h2:(p&&t.text)<;>simp[h1,h2]at hA h3
    · rw[if_neg hA];have h1:qD t=true:=by cases h:qD t<;>simp[h]at hA ⊢
      have h2:(p&&t.text)=false:=by cases h:(p&&t.text)<;>simp[h]at hA ⊢
      have hg:rgL (rgt n) p (t::r)=(rgt n t.kids&&rgL (rgt n) t.text r):=by
        show (qD t&&!(p&&t.text)&&(t.text||rgt n t.kids)&&rgL (rgt n) t.text r)=_
        rw[h1,h2,JF h1];rfl
      rw[hg]
      by_cases hK:dep n t.kids≤d∧(cnt n t.kids:Int)≤room∧rgt n t.kids=true
      · rw[if_pos hK]at hfk
        rw[hfk,if_neg (by omega),ih t.text (room-cnt n t.kids) (by omega) hr]
        by_cases hR:dep n (nx r)≤d∧(cnt n (nx r):Int)≤room-cnt n t.kids∧rgL (rgt n) t.text r=true
        · rw[if_pos hR, if_pos ⟨by omega, by push_cast;omega, by rw[hK.2.2, hR.2.2];rfl⟩]
          push_cast;omega
        · rw[if_neg hR, if_neg];rintro ⟨a,b,c⟩;rw[hK.2.2]at c
          exact hR ⟨by omega,by push_cast at b;omega,by simpa using c⟩
      · rw[if_neg hK]at hfk
        rw[hfk,if_pos (by decide),if_neg]
        rintro ⟨a,b,c⟩;simp only[Bool.and_eq_true]at c
        exact hK ⟨by omega,by push_cast at b;omega,c.1⟩
theorem rb_eq:∀ (d n:Nat)(l:List Tr)(room:Int),0≤room→Deep n l →
 rb d room l=if dep n l≤d∧(cnt n l:Int)≤room∧rgt n l=true then room-cnt n l else -1:=by
 intro d
 induction d with
 | zero =>
   intro n l room h0 hd;unfold rb;cases l with
   | nil=>simp[z8,qx,xR];omega
   | cons t r =>
     cases n with
     | zero=>cases (show t::r=[] from hd)
     | succ n =>
       rw[if_neg (by simp),if_neg]
       rintro ⟨a,_⟩;rw[yS]at a;omega
 | succ d ih =>
   intro n l room h0 hd;unfold rb;cases l with
   | nil=>simp[z8,qx,xR];omega
   | cons t r =>
     cases n with
     | zero=>cases (show t::r=[] from hd)
     | succ n =>
       rw[if_neg (by simp)]
       generalize hl:t::r=l at *
       have hne:l≠[]:=by rw[←hl];simp
       rw[Jg n l hne,QA n l]
       by_cases hrm:room<(l.length:Int)
       · rw[if_pos hrm, if_neg];rintro ⟨_,b,_⟩
         push_cast at b;omega
       · rw[if_neg hrm, qar d n (rb d) (fun room k h hk => ih n k room h hk) l false (room - l.length) (by omega) hd]
         by_cases hR:dep n (nx l)≤d∧(cnt n (nx l):Int)≤room-l.length∧rgL (rgt n) false l=true
         · rw[if_pos hR,if_pos ⟨by omega,by push_cast;omega,hR.2.2⟩];push_cast;omega
         · rw[if_neg hR, if_neg];rintro ⟨a,b,c⟩;exact hR ⟨by omega,by push_cast at b;omega,c⟩
theorem jF {n:Nat}{l:List Tr}(hd:Deep n l):qI l=(decide (dep n l≤8)&&decide (cnt n l≤80)&&rgt n l):=by
 unfold qI;rw[rb_eq 8 n l 80 (by decide) hd]
 by_cases h:dep n l≤8∧(cnt n l:Int)≤80∧rgt n l=true
 · rw[if_pos h];have h2:cnt n l≤80:=by omega
   simp[h.1,h2,h.2.2];omega
 · rw[if_neg h];cases hr:rgt n l with
   | false=>simp
   | true =>
     have:¬ (dep n l≤8∧cnt n l≤80):=fun ⟨a,b⟩=>h ⟨a,by omega,hr⟩
     by_cases h1:dep n l≤8
     · have h2 : ¬ cnt n l ≤ 80 := fun b => this ⟨h1, b⟩
       simp[h2]
     · simp[h1]
theorem jh {n:Nat}{t:Tr}(hd:Deep n t.kids):qR t=(!t.text&&decide (dep (n+1) [t]<9)&&decide (cnt (n+1) [t]<81)&&rgt (n+1) [t]):=by
 have h:Deep (n+1) [t]:=by intro x hx;simp at hx;subst hx;exact hd
 unfold qR;rw[jF h];have e1:decide (dep (n+1) [t]≤8)=decide (dep (n+1) [t]<9):=by congr 1;apply propext;omega
 have e2:decide (cnt (n+1) [t]≤80)=decide (cnt (n+1) [t]<81):=by congr 1;apply propext;omega
 rw[e1,e2,Bool.and_assoc,Bool.and_assoc,Bool.and_assoc]
theorem qd.pred {S:Nat→Prop}{w:World}{m:Nat}{v:Value}{ts:List Tr}(h:qd S w m v ts):qd S w (m.pred+1) v ts:=by
 cases m with
 | zero=>exact qd.deeper 0 h
 | succ m=>exact h
theorem qd.back {S:Nat→Prop}{w:World}{m:Nat}{v:Value}{ts:List Tr}(h:qd S w (m.pred+1) v ts)(hd:Deep m ts):qd S w m v ts:=by
 cases m with
 | zero =>
   have:ts=[]:=hd;subst this;obtain ⟨a,c,e,_,hc⟩:=qd.shape 1 h;exact ⟨rfl,a,c,e,hc⟩
 | succ m=>exact h
theorem QT (S:Nat→Prop)(n:Nat)(va vk:Value)(t:Tr)(w:World)(h:qj S w va t.attrs)(hk:qd S w n vk t.kids)(hc:cnt (n+1) [t]≤1048576) :
 Calls Tryz.prog 50 #[.agg #[.bool t.text,.string t.s,va,vk]] w fun e w'=>e=.returned (.tuple #[.int .i64 (dep (n+1) [t]:Int),.int .i64 (cnt (n+1) [t]:Int)])∧Below w.heap.size w w':=by
 obtain ⟨aa,ac,rfl⟩:=h.shape;obtain ⟨ka,kc,rfl,_,_⟩:=qd.shape n hk;have hb:∀ X Y,Below w.heap.size w ((w.alloc X).alloc Y):=fun X Y=>(Below.alloc1 w X).alloc (by simp) Y
 have hT:qd (fun _=>True) ((w.alloc (.cells #[.bool t.text,.string t.s,.slice aa t.attrs.length ac,.slice ka t.kids.length kc] 56)).alloc (.cells #[.bool t.text,.string t.s,.slice aa t.attrs.length ac,.slice ka t.kids.length kc] 56)) (n+1) (.slice (some ⟨w.heap.size+1,0,none⟩) 1 1) [t]:=by
  refine qd.carry (fun b _=>⟨trivial,rfl⟩) (n+1) (qd.of_block (S:=S) (e:=56) (fz:=(0,0)) (qs:=[(t.text,t.s,.slice aa t.attrs.length ac,.slice ka t.kids.length kc)]) ?_ rfl rfl rfl (nR9 _) (by unfold maxLen;simp) ?_)
  · have := heap_alloc_new (w.alloc (.cells #[.bool t.text, .string t.s, .slice aa t.attrs.length ac, .slice ka t.kids.length kc] 56)) (.cells #[.bool t.text, .string t.s, .slice aa t.attrs.length ac, .slice ka t.kids.length kc] 56);rw[World.size_alloc]at this
    exact this
  · intro i q t' hq ht';cases i with
    | zero =>
      simp at hq ht'
      subst hq ht';exact ⟨rfl,rfl,h.later (hb _ _),qd.later (hb _ _) n hk⟩
    | succ i=>simp at ht'
 have HT:Hid _:=hT;have HB:Hid (∀ X Y,Below w.heap.size w ((w.alloc X).alloc Y)):=hb;clear hT hb h hk;obtain ⟨D,hD⟩:∃ D,dep (n+1) [t]=D:=⟨_,rfl⟩;obtain ⟨C,hC⟩:∃ C,cnt (n+1) [t]=C:=⟨_,rfl⟩;rw[hD,hC];rw[hC]at hc
 have HD:Hid (dep (n+1) [t]=D):=hD;have HC:Hid (cnt (n+1) [t]=C):=hC;clear hD hC;have hDC:D≤1048576:=by have:=dep_cnt (n+1) [t];rw[HD.out,HC.out]at this;omega
 go_enter Tryz.func50,Tryz.ntmps50
 go_wp2_with fail
 go_loopg [4,5,6] (n+1) (fun g d c v wr=>∃ (dd cc:Nat) (lv:List Tr),d=.int .i64 (dd:Int)∧c=.int .i64 (cc:Int)∧qd (fun _=>True) wr g v lv∧dd+dep g lv=D∧cc+cnt g lv=C∧Below w.heap.size w wr)
 case atStart => exact ⟨0,0,[t],rfl,rfl,HT,by rw[HD.out];omega,by rw[HC.out];omega,HB _ _⟩
 case round =>
  obtain ⟨dd,cc,lv,rfl,rfl,hlv,hd,hcn,hB⟩:=hrel;have hsz:=hB.size
  by_cases hne:lv=[]
  · subst hne;rw[z8]at hd
    rw[qx]at hcn
    obtain ⟨la,lc,rfl,_,_⟩:=qd.shape _ hlv;have hd':dd=D:=by omega
    have hc':cc=C:=by omega
    subst hd' hc';clear hlv HT HD HC;simp only[List.length_nil];go_wp2_with fail
    go_ret2
    exact ⟨rfl,hB⟩
  · cases gk with
    | zero=>exact absurd hlv.1 hne
    | succ m =>
      obtain ⟨wo,hwo⟩:∃ x,x=wr:=⟨_,rfl⟩;subst hwo;rw[Jg m lv hne]at hd
      rw[QA m lv]at hcn
      have hdeep:Deep m (nx lv):=(qd.deep (m+1) hlv).nx;have hlen:=hdeep.len;have HDp:Hid (Deep m (nx lv)):=hdeep;have hlv':=qd.bounded (m+1) hlv;obtain ⟨la,lc,rfl,hlc,hlm⟩:=qd.shape _ hlv;obtain ⟨_,_,hve,_,_,h4⟩:=hlv';have hl0:0<lv.length:=List.length_pos_iff.2 hne;obtain ⟨b,o,hao,hs,hcc⟩:=h4 hne
      injection hve with e1 e2 e3
      subst e1;subst hao;have Hd:Hid (dd+(1+dep m (nx lv))=D):=hd;have Hc:Hid (cc+(lv.length+cnt m (nx lv))=C):=hcn;have HCC:Hid _:=hcc;have hcb:cc+lv.length≤1048576:=by omega
      have hdb:dd≤1048576:=by omega
      have hnb:(nx lv).length≤1048576:=by omega
      clear hdeep h4 e2 hd hcn hcc hlen hs e3 HT HD HC hlv;unfold maxLen at hlm
      go_wp2_with fail
      go_loopg [7,23] lv.length (fun g v i wr=>∃ (k:Nat) (qs:List (Bool × ByteArray × Value × Value)),k+g=lv.length∧i=.int .i64 k∧zz (fun b=>b<wo.heap.size) m.pred wo.heap.size wr v (nx (lv.take k)) qs∧Below wo.heap.size wo wr)
      case atStart => exact ⟨0,[],by omega,rfl,zz.nil _ _ _ _,Below.refl _ _⟩
      case round =>
       obtain ⟨k,qs,hk,rfl,hG,hBq⟩:=hrel;have hszq:=hBq.size
       by_cases hlt:k<lv.length
       · obtain ⟨x, hx⟩ : ∃ x, lv[k]? = some x := ⟨lv[k], by simp[hlt]⟩
         obtain ⟨va,vk,c0,c1,c2,c3,hat,hkt⟩:=HCC.out k x hx;obtain ⟨xa,xc,rfl⟩:=hat.shape;obtain ⟨ya,yc,rfl,_,_⟩:=qd.shape m hkt;have hbl:b<wo.heap.size:=World.block_lt_of_cell? wo _ c0;rw[←hBq.cell (p:=⟨b,o+k*4,none⟩) hbl]at c0
         rw[←hBq.cell (p:=⟨b,o+k*4+1,none⟩) hbl]at c1
         rw[←hBq.cell (p:=⟨b,o+k*4+2,none⟩) hbl]at c2
         rw[←hBq.cell (p:=⟨b,o+k*4+3,none⟩) hbl]at c3
         have hsn:nx (lv.take (k+1))=nx (lv.take k)++x.kids:=by
          have e:lv.take (k+1)=lv.take k++[x]:=by
           rw[List.take_succ_eq_append_getElem hlt];congr 2;simpa[hlt] using hx
          rw[e,ji,ju,nx_nil,List.append_nil]
         have HS:Hid (nx (lv.take (k+1))=nx (lv.take k)++x.kids):=hsn
         have hle:(nx (lv.take k)++x.kids).length≤1048576:=by
          rw[←hsn];have e:nx lv=nx (lv.take (k+1))++nx (lv.drop (k+1)):=by rw[←ji,List.take_append_drop]
          rw[e,List.length_append]at hnb
          omega
         rw[List.length_append]at hle
         have hblq:b<wr.heap.size:=by omega
         have hG1:=hG.later (Below.alloc1 wr (.cells #[.bool x.text,.string x.s,.slice xa x.attrs.length xc,.slice ya x.kids.length yc] 56));have hB1:Below wo.heap.size wo (wr.alloc (.cells #[.bool x.text,.string x.s,.slice xa x.attrs.length xc,.slice ya x.kids.length yc] 56)):=hBq.alloc hszq _;have hK1:=(qd.later hB1 m hkt).pred;obtain ⟨us,hus⟩:∃ us,nx (lv.take k)=us:=⟨_,rfl⟩;rw[hus]at hG1 hle HS hG
         obtain ⟨ja,jc,rfl⟩:=hG1.shape;clear hx hsn hus hG hat hkt;go_wp2_with (at_builtin;refine j7 rfl _ _ rfl (fun b=>b<wo.heap.size) _ m.pred wo.heap.size _ _ us x.kids qs rfl hG1 rfl hK1 ?qc1 hle ?qc2 ?_)
         case qc1 =>
          intro b hb;refine ⟨Or.inl hb.2,Nat.lt_of_lt_of_le hb.2 (by simp;omega),fun e=>?_⟩
          have:=(hG1.own.lt b e).1;have:=hb.2;omega
         case qc2 => simp;omega
         intro v' w2 qs' hG2 hb2;have hB2:Below wo.heap.size wo w2:=hB1.trans hb2;go_wp2_with fail
         go_roundg (lv.length-(k+1))
         case measure => omega
         case rel => exact ⟨k+1,qs',by omega,by go_num,by rw[HS.out];exact hG2,hB2⟩
       · have hkk : k = lv.length := by omega
         subst hkk;rw[List.take_length]at hG
         have hT2:qd (fun _=>True) wr m _ (nx lv):=qd.carry (fun b _=>⟨trivial,rfl⟩) m (hG.done.back HDp.out)
         have hBw:Below w.heap.size w wr:=hB.trans (hBq.mono hsz);go_wp2_with fail
         go_roundg m
         case measure => omega
         case rel => exact ⟨dd+1,cc+lv.length,nx lv,by go_num,by go_num,hT2,by have:=Hd.out;omega,by have:=Hc.out;omega,hBw⟩
def groupCells:List (Value × Nat)→List Value
 | []=>[]
 | x::r=>x.1::.int .i64 (x.2:Int)::groupCells r
theorem yY (l:List (Value × Nat)):(groupCells l).length=l.length*2:=by
 induction l with
 | nil=>rfl
 | cons x r ih=>simp[groupCells,ih];omega
theorem zM (l m:List (Value × Nat)):groupCells (l++m)=groupCells l++groupCells m:=by
 induction l with
 | nil=>rfl
 | cons x r ih=>simp[groupCells,ih]
theorem Q9 {w:World}{B:Nat}{e:TypeId}{size g cap n:Nat}{xs ys:List Value}(h:w.ownsRow B e size (.slice (some ⟨g,0,none⟩) (n+1) cap) (n+1) (xs++ys))(hx:xs.length=n*size) :
 w.ownsRow B e size (.slice (some ⟨g,0,none⟩) n cap) n xs:=by
 obtain ⟨h1,h2⟩:=h
 rcases h2 with ⟨h0,_⟩|⟨g',cap',cur,hv,hg,hh,hn,hcap,hsz,htake⟩
 · cases h0
 · cases hv;refine ⟨hx,Or.inr ⟨g,cap,cur,rfl,hg,hh,by omega,hcap,hsz,?_⟩⟩
   have e1:cur.toList.take (n*size)=(cur.toList.take ((n+1)*size)).take (n*size):=by
    rw[List.take_take,Nat.min_eq_left (Nat.mul_le_mul_right _ (by omega))]
   rw[e1,htake,←hx,List.take_left]
structure Cst (B cb:Nat) (w:World) (dd cc:Nat) (v:Value) (G:List (Value × Nat)):Prop where
 base:B≤cb
 held:w.heap[cb]?=some (.cells #[.int .i64 (dd:Int),.int .i64 (cc:Int),v] 120 (0,0))
 own:w.ownsRow B 141 2 v G.length (groupCells G)
 slices:∀ x∈G,∃ a l c,x.1=.slice a l c
theorem Cst.lt {B cb:Nat}{w:World}{dd cc:Nat}{v:Value}{G:List (Value × Nat)}(h:Cst B cb w dd cc v G):cb<w.heap.size:=by
 rcases Nat.lt_or_ge cb w.heap.size with h'|h'
 · exact h'
 · have:=h.held;simp[Array.getElem?_eq_none h']at this
theorem Cst.apart {B cb:Nat}{w:World}{dd cc:Nat}{v:Value}{G:List (Value × Nat)}(h:Cst B cb w dd cc v G):v.ownBlock≠some cb:=by
 intro e;obtain ⟨_,c,fz,hc⟩:=qe h.own e;rw[h.held]at hc
 simp at hc
theorem Cst.shape {B cb:Nat}{w:World}{dd cc:Nat}{v:Value}{G:List (Value × Nat)}(h:Cst B cb w dd cc v G):∃ a c,v=.slice a G.length c:=by
 rcases h.own.2 with ⟨hv,h0⟩|⟨g,cap,cur,hv,_⟩
 · exact ⟨none,0,by rw[hv,h0]⟩
 · exact ⟨_,_,hv⟩
theorem XW (B cb:Nat)(w:World)(dd cc:Nat)(v:Value)(G:List (Value × Nat))(x:Value)(d:Nat)(h:Cst B cb w dd cc v (G++[(x,d)]))(hBw:B≤w.heap.size) :
 Calls Tryz.prog 121 #[.pointer (some ⟨cb,2,none⟩)] w fun e w'=>e=.returned (.agg #[x,.int .i64 (d:Int)])∧∃ v',Cst B cb w' dd cc v' G∧v'.ownBlock=v.ownBlock∧(∀ b,b<w.heap.size→b≠cb→w'.heap[b]?=w.heap[b]?)∧Below B w w':=by
 have hap:=h.apart;have hlt:=h.lt;obtain ⟨hB,hj,hown,hsl⟩:=h;obtain ⟨xa,xl,xc,hx⟩:=hsl (x,d) (by simp)
 simp only at hx
 subst hx
 rcases hown.2 with ⟨_,h0⟩|⟨g,cap,cur,rfl,hg,hh,hc,hm,hs,ht⟩
 · simp at h0
 have hlen:(G++[(Value.slice xa xl xc,d)]).length=G.length+1:=by simp
 rw[hlen]at hown hj hc ht
 have c2:w.cell? ⟨cb,2,none⟩=some (.slice (some ⟨g,0,none⟩) (G.length+1) cap):=by rw[cH9 hj];rfl
 have f2:w.frozen? ⟨cb,2,none⟩=false:=fH9 hj 2;have hgl:=yY G
 have k0:w.cell? ⟨g,G.length*2,none⟩=some (.slice xa xl xc):=by
  rw[World.ownsRow.cellAt hown _ (by omega),zM,List.getElem?_append_right (by omega),hgl];simp[groupCells]
 have k1:w.cell? ⟨g,G.length*2+1,none⟩=some (.int .i64 (d:Int)):=by
  rw[World.ownsRow.cellAt hown _ (by omega),zM,List.getElem?_append_right (by omega),hgl];simp[groupCells]
 have hgs:g<w.heap.size:=World.block_lt_of_cell? w _ k0;unfold maxLen at hm
 have HJ:Hid (w.heap[cb]?=some (.cells #[.int .i64 (dd:Int),.int .i64 (cc:Int),.slice (some ⟨g,0,none⟩) (G.length+1) cap] 120 (0,0))):=hj;clear hj hgl
 go_enter Tryz.func121,Tryz.ntmps121
 go_wp2_with fail
 have hk:∀ b,b<w.heap.size→b≠cb→(((w.setCell ⟨cb,2,none⟩ (.slice (some ⟨g,0,none⟩) G.length cap)).alloc (.cells #[.slice xa xl xc,.int .i64 (d:Int)] 141)).alloc (.cells #[.slice xa xl xc,.int .i64 (d:Int)] 141)).heap[b]?=w.heap[b]?:=by
  intro b hb hbc;rw[Lib.alloc_old _ _ _ (by simp;omega),Lib.alloc_old _ _ _ (by simp;omega),Below.heap_setCell _ _ _ _ hbc]
 have hgc:g≠cb:=fun e=>hap (by rw[e];rfl)
 refine bodyPost_ret (v:=.agg #[.slice xa xl xc,.int .i64 (d:Int)]) (by simp[results,Tryz.results121,go_sem]) rfl ⟨rfl,.slice (some ⟨g,0,none⟩) G.length cap,⟨hB,?_,?_,fun y hy=>hsl y (by simp[hy])⟩,?_,hk,?_⟩
 · rw[Lib.alloc_old _ _ _ (by simp;omega), Lib.alloc_old _ _ _ (by simp;omega)]
   simp[World.setCell,Array.getElem?_modify,HJ.out]
 · rw[zM]at hown
   exact qo (Q9 hown (yY G)) fun b hb=>by cases hb;exact hk g hgs hgc
 · rfl
 · exact ((((Below.refl B w).setCell hB _).alloc (by simp;omega) _).alloc (by simp;omega) _)
theorem groupInfo:(Tryz.prog.info? 141).map (fun i=>(i.zero,i.size,i.bytes))=some (some (.agg #[.slice none 0 0,.int .i64 0]),2,32):=by kernel_rfl
theorem JO {ops:Array Oper}{o:Oper}{a:Act}{w:World}{K:Act→World→Prop}{Q:Exit→Act→World→Prop}{E:Prop}
 (hg:o.guard=none) (s x:Operand) (hop:o.op=Op.call { callee:=Callee.builtin Builtin.append,args:=#[s,x],argTypes:=#[118,118] })
 (B:Nat) (v:Value) (n:Nat) (xs:List Value) (hs:a.eval s=v) (hown:w.ownsRow B 141 2 v n xs) (ad:Addr) (sa:Option Addr) (sl sc:Nat) (d:Int) (hx:a.eval x=.slice (some ad) 1 1)
 (hnews:∀ j u,[Value.slice sa sl sc,Value.int .i64 d][j]?=some u→w.cell? (ad.add j)=some u) (hn:n≤1048576) (hB:B≤w.heap.size)
 (hK:∀ v' w',w'.ownsRow B 141 2 v' (n+1) (xs++[.slice sa sl sc,.int .i64 d])→w.grownBy w' v.ownBlock→(v'.ownBlock=v.ownBlock∨v'.ownBlock=some w.heap.size)→K (a.put o.dst v') w') :
 if Region.wanted o (yielded ops a.tmps)=true then Oper.wp Tryz.prog o a w K Q else E:=by
 have hw:Region.wanted o (yielded ops a.tmps)=true:=by simp[Region.wanted,hg]
 rw[if_pos hw];obtain ⟨i0,hi,hz0,hz1,hz2⟩:=info_parts groupInfo;obtain ⟨v',w',hr,h2,h3,_,h5⟩:=run_append_own_at (P:=Tryz.prog) w B 118 o.type 141 i0 _ 2 32 Tryz.underlying118 hi hz0 hz1 hz2 rfl (by decide) v n xs hown ad 1 1 [.slice sa sl sc,.int .i64 d] rfl hnews (by intro u hu;simp at hu;rcases hu with rfl|rfl<;>rfl) (by unfold maxLen;omega) (by omega) hB
 unfold Oper.wp;simp[execOp,hop,resolve,invoke,builtin,hs,hx,hr,Result.andThen];exact hK v' w' h2 h3 h5
structure CE where
 v:Value
 n:Nat
 ts:List Tr
 o:Nat
def csum (P:List CE):Nat:=(P.map fun e=>cnt e.n e.ts).sum
def jf (P:List CE):Nat:=(P.map fun e=>e.o+dep e.n e.ts).foldr max 0
def grp (e:CE):Value × Nat:=(e.v,e.o+1)
theorem yX (P Q:List CE):csum (P++Q)=csum P+csum Q:=by simp[csum]
theorem jE (P Q:List CE):jf (P++Q)=max (jf P) (jf Q):=by
 induction P with
 | nil=>simp[jf]
 | cons e r ih =>
   have h1:jf (e::r++Q)=max (e.o+dep e.n e.ts) (jf (r++Q)):=rfl;have h2:jf (e::r)=max (e.o+dep e.n e.ts) (jf r):=rfl;rw[h1,h2,ih];omega
def J0 (S:Nat→Prop)(w:World)(e:CE):Prop:=e.ts≠[]∧qd S w e.n e.v e.ts∧e.o+dep e.n e.ts≤1048577
structure ZA (S:Nat→Prop) (B cb:Nat) (w:World) (ds cs L:Nat) (o:Nat) (ts:List Tr) (dd cc:Nat) (wv:Value) (G:List (Value × Nat)) (w':World) (P:List CE) (dd' cc':Nat) (wv':Value):Prop where
 below:Below B w w'
 cst:Cst B cb w' dd' cc' wv' (G++P.map grp)
 row:wv'.ownBlock=wv.ownBlock∨∃ b,wv'.ownBlock=some b∧w.heap.size≤b
 frame:∀ b,b<w.heap.size→b≠cb→wv.ownBlock≠some b→w'.heap[b]?=w.heap[b]?
 pend:∀ e∈P,J0 S w e
 dmax:max dd' (jf P)=max dd ds
 csum:cc'+csum P=cc+cs
 more:cc≤cc'∧(0<L→cc+ts.length≤cc')
def Z2 (S:Nat→Prop)(B cb L:Nat):Prop:=∀ (n:Nat)(v:Value)(ts:List Tr)(o d dd cc:Nat)(wv:Value)(G:List (Value × Nat))(w:World),
 d=o+1→(∀ b,S b→b<w.heap.size∧b≠cb∧wv.ownBlock≠some b)→qd S w n v ts→Cst B cb w dd cc wv G→B≤w.heap.size→o+dep n ts≤1048577→dd≤1048577→cc+cnt n ts≤1048576→G.length+cnt n ts≤1048576 →
 Calls Tryz.prog 120 #[.pointer (some ⟨cb,0,none⟩),.agg #[v,.int .i64 (d:Int)],.int .i64 (L:Int)] w fun e w'=>e=.returned (.tuple #[]) ∧
  ∃ P dd' cc' wv',ZA S B cb w (if ts=[] then 0 else o+dep n ts) (cnt n ts) L o ts dd cc wv G w' P dd' cc' wv'
theorem Cst.later {B cb:Nat}{w w':World}{dd cc:Nat}{v:Value}{G:List (Value × Nat)}(h:Cst B cb w dd cc v G)(hb:Below w.heap.size w w'):Cst B cb w' dd cc v G :=
 ⟨h.base,by rw[hb.block cb h.lt];exact h.held,qq h.own hb,h.slices⟩
theorem J1 (S:Nat→Prop)(B cb L n:Nat)(v:Value)(o d dd cc:Nat)(wv:Value)(G:List (Value × Nat))(w:World)(h:qd S w n v [])(hc:Cst B cb w dd cc wv G)(hB:B≤w.heap.size) :
 Calls Tryz.prog 120 #[.pointer (some ⟨cb,0,none⟩),.agg #[v,.int .i64 (d:Int)],.int .i64 (L:Int)] w fun e w'=>e=.returned (.tuple #[]) ∧
  ∃ P dd' cc' wv',ZA S B cb w 0 (cnt n []) L o [] dd cc wv G w' P dd' cc' wv':=by
 obtain ⟨a,c,rfl,_,_⟩:=qd.shape n h;simp only[List.length_nil]
 go_enter Tryz.func120,Tryz.ntmps120
 go_wp2_with fail
 go_returns
 refine ⟨rfl,[],dd,cc,wv,?_⟩;refine ⟨(Below.refl B w).alloc hB _,by simpa using hc.later (Below.alloc1 w _),Or.inl rfl,fun b hb _ _=>Below.heap_alloc _ _ _ hb,by simp,by simp[jf],by simp[Go.Proofs.YtnppmdpmippcoaaGreatDoor.csum,qx],nR9 _,fun _=>by simp⟩
theorem Yw {W:World}{ad:Nat}{x y:Value}(h0:W.cell? ⟨ad,0,none⟩=some x)(h1:W.cell? ⟨ad,1,none⟩=some y):∀ j u,[x,y][j]?=some u→W.cell? ((⟨ad,0,none⟩:Addr).add j)=some u:=by
 intro j u hj
 match j,hj with
 | 0,hj=>simp at hj;subst hj;exact h0
 | 1,hj=>simp at hj;subst hj;exact h1
theorem XR {w:World}{B n:Nat}{e:TypeId}{size:Nat}{v:Value}{xs:List Value}(h:w.ownsRow B e size v n xs):∃ a l c,v=.slice a l c:=by
 rcases h.2 with ⟨hv,_⟩|⟨g,cap,cur,hv,_⟩
 · exact ⟨_,_,_,hv⟩
 · exact ⟨_,_,_,hv⟩
theorem QF {B cb:Nat}{W X w1:World}{dd cc:Nat}{wv:Value}{G:List (Value × Nat)}(h:Cst B cb W dd cc wv G)(hX:Below W.heap.size W X)(hg:X.grownBy w1 wv.ownBlock) :
 w1.heap[cb]?=some (.cells #[.int .i64 (dd:Int),.int .i64 (cc:Int),wv] 120 (0,0)):=by
 rw[hg.block cb (Nat.lt_of_lt_of_le h.lt hX.size) (fun e=>h.apart e.symm),hX.block cb h.lt]
 exact h.held
theorem K2 {S:Nat→Prop}{B cb:Nat}{w W0 w1:World}{n o d dd cc:Nat}{ts:List Tr}{va wa a1:Option Addr}{vc wc l1 c1:Nat}{G:List (Value × Nat)}{c:Obj}(hd:d=o+1)(hne:ts≠[])
 (hT:qd S w n (.slice va ts.length vc) ts) (hod:o+dep n ts≤1048577) (hBw:B≤w.heap.size) (hbx:Below w.heap.size w W0) (hX:Cst B cb W0 dd cc (.slice wa G.length wc) G)
 (hown1:w1.ownsRow B 141 2 (.slice a1 l1 c1) (G.length+1) (groupCells G++[.slice va ts.length vc,.int .i64 (d:Int)]))
 (hgr1:(W0.alloc c).drew.grownBy w1 (Value.slice wa G.length wc).ownBlock)
 (hat1:(Value.slice a1 l1 c1).ownBlock=(Value.slice wa G.length wc).ownBlock∨(Value.slice a1 l1 c1).ownBlock=some (W0.alloc c).drew.heap.size) :
 ZA S B cb w (o+dep n ts) (cnt n ts) 0 o ts dd cc (.slice wa G.length wc) G (w1.setCell ⟨cb,2,none⟩ (.slice a1 l1 c1)) [⟨.slice va ts.length vc,n,ts,o⟩] dd cc (.slice a1 l1 c1):=by
 have hH:=QF hX (Below.alloc1 W0 c).drew hgr1;have hsz:=hbx.size;have hsX:(W0.alloc c).drew.heap.size=W0.heap.size+1:=by simp[World.drew]
 have hap:(Value.slice a1 l1 c1).ownBlock≠some cb:=by
  intro e;obtain ⟨_,cs,fz,hc⟩:=qe hown1 e;rw[hH]at hc
  simp at hc
 subst hd;refine ⟨?_,⟨hX.base,?_,?_,?_⟩,?_,?_,?_,?_,?_,nR9 _,fun h=>by omega⟩
 · exact (((((hbx.mono hBw).alloc (by omega) c).drew).grown hgr1 (by omega) (fun k hk=>(hX.own.lt k hk).1))).setCell hX.base _
 · simp[World.setCell,Array.getElem?_modify,hH]
 · have e1 : (G ++ List.map grp [(⟨.slice va ts.length vc, n, ts, o⟩ : CE)]).length = G.length + 1 := by simp
   rw[e1,zM];exact qo hown1 fun b hb=>Below.heap_setCell _ _ _ _ (fun e=>hap (by rw[hb,e]))
 · intro x hx
   rcases List.mem_append.1 hx with hx|hx
   · exact hX.slices x hx
   · simp[grp]at hx;subst hx;exact ⟨_,_,_,rfl⟩
 · rcases hat1 with h | h
   · exact Or.inl h
   · exact Or.inr ⟨_,h,by omega⟩
 · intro b hb h1 h2;rw[Below.heap_setCell _ _ _ _ h1,hgr1.block b (by omega) (fun e=>h2 e.symm)]
   show (W0.alloc c).heap[b]?=_
   rw[Lib.alloc_old _ _ _ (by omega),hbx.block b hb]
 · intro e he;simp at he
   subst he;exact ⟨hne,hT,hod⟩
 · simp[jf]
 · simp[Go.Proofs.YtnppmdpmippcoaaGreatDoor.csum]
theorem add_zero (S:Nat→Prop)(B cb:Nat):Z2 S B cb 0:=by
 intro n v ts o d dd cc wv G w hd _ hT hC hBw hod hdd hcc hG;have HD:Hid (d=o+1):=hd
 by_cases hne:ts=[]
 · subst hne
   simpa using J1 S B cb 0 n v o d dd cc wv G w hT hC hBw
 · have hTo : Hid (qd S w n v ts) := hT;obtain ⟨va,vc,rfl,_,hvm⟩:=qd.shape n hT;have hl0:0<ts.length:=List.length_pos_iff.2 hne
   have hcn:1≤cnt n ts:=by
    have:=(qd.deep n hT).len;omega
   have hlt:=hC.lt;have hap:=hC.apart
   have hne1:((ts.length:Int)==0)=false:=by
    have:(ts.length:Int)≠0:=by omega
    simpa using this
   have hbx:=Below.alloc1 w (.cells #[.slice va ts.length vc,.int .i64 (d:Int)] 141);have hX:=hC.later hbx;have b0:(w.alloc (.cells #[.slice va ts.length vc,.int .i64 (d:Int)] 141)).cell? ⟨w.heap.size,0,none⟩=some (.slice va ts.length vc):=by simp
   have b1:(w.alloc (.cells #[.slice va ts.length vc,.int .i64 (d:Int)] 141)).cell? ⟨w.heap.size,1,none⟩=some (.int .i64 (d:Int)):=by simp
   have hsz:(w.alloc (.cells #[.slice va ts.length vc,.int .i64 (d:Int)] 141)).heap.size=w.heap.size+1:=by simp
   have HO:Hid (o+dep n ts≤1048577):=hod;clear hT hd hod hcc hdd;unfold maxLen at hvm
   go_enter Tryz.func120,Tryz.ntmps120
   go_wp2_with fail
   generalize w.alloc (.cells #[.slice va ts.length vc,.int .i64 (d:Int)] 141)=W0 at hbx hX b0 b1 hsz ⊢
   obtain ⟨wa,wc,rfl⟩:=hC.shape;have HS:Hid (W0.heap.size=w.heap.size+1):=hsz;have hB0:B≤W0.heap.size:=by omega
   have hszl:w.heap.size<W0.heap.size:=by omega
   clear hsz;have k2:W0.cell? ⟨cb,2,none⟩=some (.slice wa G.length wc):=by rw[cH9 hX.held];rfl
   have kf:W0.frozen? ⟨cb,2,none⟩=false:=fH9 hX.held 2;have hcb0:cb<W0.heap.size:=hX.lt;have HX:Hid (Cst B cb W0 dd cc (.slice wa G.length wc) G):=hX;clear hX hC;have hrow:(W0.alloc (.cells #[.slice va ts.length vc,.int .i64 (d:Int)] 141)).drew.ownsRow B 141 2 (.slice wa G.length wc) G.length (groupCells G):=HX.out.own.alloc _;have hgc:∀ j u,[Value.slice va ts.length vc,Value.int .i64 (d:Int)][j]?=some u→(W0.alloc (.cells #[.slice va ts.length vc,.int .i64 (d:Int)] 141)).drew.cell? ((⟨W0.heap.size,0,none⟩:Addr).add j)=some u:=Yw (W:=(W0.alloc (.cells #[.slice va ts.length vc,.int .i64 (d:Int)] 141)).drew) (by simp) (by simp)
   have HR:Hid _:=hrow;have HGC:Hid _:=hgc;clear hrow hgc;have hGl:G.length≤1048576:=by omega
   have HH:Hid (∀ w1,(W0.alloc (.cells #[.slice va ts.length vc,.int .i64 (d:Int)] 141)).drew.grownBy w1 (Value.slice wa G.length wc).ownBlock→w1.heap[cb]?=some (.cells #[.int .i64 (dd:Int),.int .i64 (cc:Int),.slice wa G.length wc] 120 (0,0))):=fun w1 hg=>QF HX.out (Below.alloc1 W0 _).drew hg
   go_region_law (first
    | (refine JO (by rfl) (.tmp 17) (.tmp 19) (by rfl) B (.slice wa G.length wc) G.length (groupCells G) (by simp[Act.eval]) HR.out ⟨W0.heap.size,0,none⟩ va ts.length vc (d:Int) (by simp[Act.eval]) HGC.out hGl (by simp;omega) ?_;intro v1 w1 hown1 hgr1 hat1;obtain ⟨a1,l1,c1,rfl⟩:=XR hown1;have hj1:=cH9 (HH.out w1 hgr1) 2;have hf1:=fH9 (HH.out w1 hgr1) 2;simp at hj1))
   all_goals
    go_wp2_with fail
    go_returns
    exact ⟨rfl,_,_,_,_,K2 HD.out hne hTo.out HO.out hBw hbx HX.out hown1 hgr1 hat1⟩
section
attribute [local go_sem] qk
structure Zf (S:Nat→Prop) (B cb:Nat) (w:World) (m o k:Nat) (ts:List Tr) (bx by_:Value) (dd cc:Nat) (wv:Value) (G:List (Value × Nat)) (w':World) (P:List CE) (dd' cc':Nat) (wv':Value):Prop where
 below:Below B w w'
 cst:Cst B cb w' dd' cc' wv' (G++P.map grp)
 row:wv'.ownBlock=wv.ownBlock∨∃ b,wv'.ownBlock=some b∧w.heap.size+1≤b
 frame:∀ b,b<w.heap.size→b≠cb→wv.ownBlock≠some b→w'.heap[b]?=w.heap[b]?
 box0:w'.cell? ⟨w.heap.size,0,none⟩=some bx
 box1:w'.cell? ⟨w.heap.size,1,none⟩=some by_
 size:w.heap.size+1≤w'.heap.size
 pend:∀ e∈P,J0 S w e
 dmax:max dd' (jf P)=max dd (max (o+1) (o+dep (m+1) (ts.take k)))
 csum:cc'+csum P=cc+ts.length+cnt m (nx (ts.take k))
 more:cc+ts.length≤cc'
theorem Yl {S:Nat→Prop}{w:World}{P:List CE}(h:∀ e∈P,J0 S w e):P.length≤csum P:=by
 induction P with
 | nil=>simp
 | cons e r ih =>
   have h1:=ih (fun x hx=>h x (List.mem_cons_of_mem _ hx))
   obtain ⟨h2,h3,_⟩:=h e List.mem_cons_self;have h4:=(qd.deep e.n h3).len;have h5:=List.length_pos_iff.2 h2;have h6:csum (e::r)=cnt e.n e.ts+csum r:=by simp[csum]
   simp only[List.length_cons];omega
theorem Ju {S:Nat→Prop}{B cb:Nat}{w:World}{m o k L:Nat}{ts:List Tr}{bx by_:Value}{dd cc:Nat}{wv:Value}{G:List (Value × Nat)}{wr w3:World}{P P1:List CE}{dd' cc' dd3 cc3:Nat}{wv' wv3:Value}{t:Tr}
 (hS:∀ b,S b→wr.heap[b]?=w.heap[b]?) (I:Zf S B cb w m o k ts bx by_ dd cc wv G wr P dd' cc' wv') (hwv:∀ b,wv.ownBlock=some b→b<w.heap.size) (hcb:cb<w.heap.size) (hsn:ts.take (k+1)=ts.take k++[t])
 (J:ZA S B cb wr (if t.kids=[] then 0 else o+1+dep m t.kids) (cnt m t.kids) L (o+1) t.kids dd' cc' wv' (G++P.map grp) w3 P1 dd3 cc3 wv3) :
 Zf S B cb w m o (k+1) ts bx by_ dd cc wv G w3 (P++P1) dd3 cc3 wv3:=by
 have hsz3:=J.below.size;have hszr:=I.size
 have hrow:∀ b,b<w.heap.size+1→wv.ownBlock≠some b→wv'.ownBlock≠some b:=by
  intro b hb h1 h2
  rcases I.row with h|⟨b',h,h3⟩
  · exact h1 (h.symm.trans h2)
  · rw[h]at h2;cases h2;omega
 have hbox:w3.heap[w.heap.size]?=wr.heap[w.heap.size]?:=J.frame _ (by omega) (by omega) (hrow _ (by omega) (fun e=>by have:=hwv _ e;omega))
 refine ⟨I.below.trans J.below,?_,?_,?_,?_,?_,by omega,?_,?_,?_,?_⟩
 · have:=J.cst;simpa using this
 · rcases J.row with h | ⟨b, h, h1⟩
   · rw[h];exact I.row
   · exact Or.inr ⟨b,h,by omega⟩
 · intro b hb h1 h2;rw[J.frame b (by omega) h1 (hrow b (by omega) h2),I.frame b hb h1 h2]
 · rw[World.cell?_of_block (a:=⟨w.heap.size,0,none⟩) hbox];exact I.box0
 · rw[World.cell?_of_block (a:=⟨w.heap.size,1,none⟩) hbox];exact I.box1
 · intro e he
   rcases List.mem_append.1 he with he|he
   · exact I.pend e he
   · obtain ⟨h1, h2, h3⟩ := J.pend e he;exact ⟨h1,qd.carry (fun b hb=>⟨hb,(hS b hb).symm⟩) e.n h2,h3⟩
 · rw[jE, hsn, zO, yS, z8];have h1:=J.dmax;have h2:=I.dmax
   by_cases hk:t.kids=[]
   · rw[if_pos hk]at h1
     rw[hk,z8];omega
   · rw[if_neg hk]at h1
     omega
 · rw[yX, hsn, ji, ju, nx_nil, List.append_nil, ze];have h1:=J.csum;have h2:=I.csum;omega
 · have:=J.more.1;have:=I.more;omega
theorem YK {S:Nat→Prop}{B cb:Nat}{w W0:World}{m o d:Nat}{ts:List Tr}{bx by_:Value}{dd cc:Nat}{wv:Value}{G:List (Value × Nat)}(hd:d=o+1)(hBw:B≤w.heap.size)(hcb:cb<w.heap.size)(hsz:W0.heap.size=w.heap.size+1)(hbx:Below w.heap.size w W0)(hX:Cst B cb W0 dd cc wv G)
 (b0:W0.cell? ⟨w.heap.size,0,none⟩=some bx) (b1:W0.cell? ⟨w.heap.size,1,none⟩=some by_) :
 Zf S B cb w m o 0 ts bx by_ dd cc wv G ((W0.setCell ⟨cb,0,none⟩ (.int .i64 (max (dd:Int) (d:Int)))).setCell ⟨cb,1,none⟩ (.int .i64 ((cc:Int)+(ts.length:Int)))).drew.drew [] (max dd d) (cc+ts.length) wv:=by
 have hk:∀ b,b≠cb→((W0.setCell ⟨cb,0,none⟩ (.int .i64 (max (dd:Int) (d:Int)))).setCell ⟨cb,1,none⟩ (.int .i64 ((cc:Int)+(ts.length:Int)))).drew.drew.heap[b]?=W0.heap[b]?:=by
  intro b hb
  show ((W0.setCell ⟨cb,0,none⟩ (.int .i64 (max (dd:Int) (d:Int)))).setCell ⟨cb,1,none⟩ (.int .i64 ((cc:Int)+(ts.length:Int)))).heap[b]?=_
  rw[Below.heap_setCell _ _ _ _ hb,Below.heap_setCell _ _ _ _ hb]
 subst hd;refine ⟨((((hbx.mono hBw).setCell hX.base _).setCell hX.base _).drew).drew,⟨hX.base,?_,?_,?_⟩,Or.inl rfl,?_,?_,?_,?_,by simp,?_,?_,nR9 _⟩
 · show ((W0.setCell ⟨cb, 0, none⟩ _).setCell ⟨cb, 1, none⟩ _).heap[cb]? = _
   have e1:(((max dd (o+1):Nat)):Int)=max (dd:Int) ((o+1:Nat):Int):=by omega
   have e2:(((cc+ts.length:Nat)):Int)=(cc:Int)+(ts.length:Int):=by omega
   rw[e1,e2];simp[World.setCell,Array.getElem?_modify,hX.held]
 · simp only[List.map_nil, List.append_nil];exact qo hX.own fun b hb=>hk b (fun e=>hX.apart (by rw[hb,e]))
 · simp only[List.map_nil, List.append_nil];exact hX.slices
 · intro b hb h1 _;rw[hk b h1,hbx.block b hb]
 · rw[World.cell?_of_block (a:=⟨w.heap.size,0,none⟩) (hk w.heap.size (by omega))];exact b0
 · rw[World.cell?_of_block (a:=⟨w.heap.size,1,none⟩) (hk w.heap.size (by omega))];exact b1
 · show w.heap.size + 1 ≤ ((W0.setCell ⟨cb, 0, none⟩ _).setCell ⟨cb, 1, none⟩ _).heap.size
   simp;omega
 · simp[jf,z8]
 · simp[Go.Proofs.YtnppmdpmippcoaaGreatDoor.csum,nx_nil,qx]
theorem Jv {S:Nat→Prop}{B cb:Nat}{w:World}{m o L:Nat}{ts:List Tr}{bx by_:Value}{dd cc:Nat}{wv:Value}{G:List (Value × Nat)}{wr:World}{P:List CE}{dd' cc':Nat}{wv':Value}
 (hne:ts≠[]) (I:Zf S B cb w m o ts.length ts bx by_ dd cc wv G wr P dd' cc' wv'):ZA S B cb w (o+dep (m+1) ts) (cnt (m+1) ts) L o ts dd cc wv G wr P dd' cc' wv':=by
 refine ⟨I.below,I.cst,?_,I.frame,I.pend,?_,?_,?_,fun _=>I.more⟩
 · rcases I.row with h | ⟨b, h, h1⟩
   · exact Or.inl h
   · exact Or.inr ⟨b,h,by omega⟩
 · have h := I.dmax;rw[List.take_length]at h
   rw[h,Jg m ts hne];omega
 · have h := I.csum;rw[List.take_length]at h
   rw[h,QA m ts];omega
 · have:=I.more;omega
theorem ZA.undrew {S:Nat→Prop}{B cb:Nat}{w:World}{ds cs L o:Nat}{ts:List Tr}{dd cc:Nat}{wv:Value}{G:List (Value × Nat)}{w':World}{P:List CE}{dd' cc':Nat}{wv':Value}
    (h:ZA S B cb w.drew ds cs L o ts dd cc wv G w' P dd' cc' wv'):ZA S B cb w ds cs L o ts dd cc wv G w' P dd' cc' wv' :=
  ⟨(Below.refl B w).drew.trans h.below, h.cst, h.row, h.frame, fun e he => by
    obtain ⟨h1,h2,h3⟩:=h.pend e he;exact ⟨h1,qd.carry (w:=w.drew) (w':=w) (fun b hb=>⟨hb,rfl⟩) e.n h2,h3⟩,h.dmax,h.csum,h.more⟩
theorem X7 (S:Nat→Prop)(B cb:Nat)(L:Nat)(hL:L<1000)(ih:Z2 S B cb L):Z2 S B cb (L+1):=by
 intro n v ts o d dd cc wv G w hd hS0 hT hC hBw hod hdd hcc hG;have HS0:Hid (∀ b,S b→b<w.heap.size∧b≠cb∧wv.ownBlock≠some b):=hS0;clear hS0;have HD:Hid (d=o+1):=hd
 by_cases hne:ts=[]
 · subst hne
   simpa using J1 S B cb (L+1) n v o d dd cc wv G w hT hC hBw
 · have hTo : Hid (qd S w n v ts) := hT;obtain ⟨va,vc,rfl,_,hvm⟩:=qd.shape n hT;have hl0:0<ts.length:=List.length_pos_iff.2 hne;have hcn:=(qd.deep n hT).len;have hlt:=hC.lt;have hap:=hC.apart
   have hne1:((ts.length:Int)==0)=false:=by
    have:(ts.length:Int)≠0:=by omega
    simpa using this
   have hne2:((((L+1:Nat):Int))==0)=false:=by
    have:(((L+1:Nat):Int))≠0:=by omega
    simpa using this
   obtain ⟨M,hM⟩:∃ M,L+1=M:=⟨_,rfl⟩;rw[hM]at hne2 ⊢
   have hbx:=Below.alloc1 w (.cells #[.slice va ts.length vc,.int .i64 (d:Int)] 141);have hX:=hC.later hbx;have b0:(w.alloc (.cells #[.slice va ts.length vc,.int .i64 (d:Int)] 141)).cell? ⟨w.heap.size,0,none⟩=some (.slice va ts.length vc):=by simp
   have b1:(w.alloc (.cells #[.slice va ts.length vc,.int .i64 (d:Int)] 141)).cell? ⟨w.heap.size,1,none⟩=some (.int .i64 (d:Int)):=by simp
   have hsz:(w.alloc (.cells #[.slice va ts.length vc,.int .i64 (d:Int)] 141)).heap.size=w.heap.size+1:=by simp
   have HO:Hid (o+dep n ts≤1048577):=hod;have HIH:Hid (Z2 S B cb L):=ih;have HM:Hid (L+1=M):=hM;clear hT hd ih hM;unfold maxLen at hvm
   go_enter Tryz.func120,Tryz.ntmps120
   go_wp2_with fail
   generalize w.alloc (.cells #[.slice va ts.length vc,.int .i64 (d:Int)] 141)=W0 at hbx hX b0 b1 hsz ⊢
   have HS:Hid (W0.heap.size=w.heap.size+1):=hsz;have hB0:B≤W0.heap.size:=by omega
   have hszl:w.heap.size<W0.heap.size:=by omega
   have hcw:cb≠w.heap.size:=by omega
   clear hsz;have k0:W0.cell? ⟨cb,0,none⟩=some (.int .i64 (dd:Int)):=by rw[cH9 hX.held];rfl
   have k1:W0.cell? ⟨cb,1,none⟩=some (.int .i64 (cc:Int)):=by rw[cH9 hX.held];rfl
   have kf0:W0.frozen? ⟨cb,0,none⟩=false:=fH9 hX.held 0;have kf1:W0.frozen? ⟨cb,1,none⟩=false:=fH9 hX.held 1;have HX:Hid (Cst B cb W0 dd cc wv G):=hX;have HWV:Hid (∀ b,wv.ownBlock=some b→b<w.heap.size):=fun b hb=>(hC.own.lt b hb).2
   clear hX hC
   go_region
   go_wp2_with fail
   go_region
   go_wp2_with fail;cases n with
   | zero=>exact absurd hTo.out.1 hne
   | succ m =>
   have hwv:∀ b,wv.ownBlock=some b→b<w.heap.size:=fun b hb=>HWV.out b hb
   have HW:Hid (∀ b,wv.ownBlock=some b→b<w.heap.size):=hwv;clear hwv
   go_loopg [46] ts.length (fun g i wr=>∃ (k:Nat) (P:List CE) (dd' cc':Nat) (wv':Value),k+g=ts.length∧i=.int .i64 k∧Zf S B cb w m o k ts (.slice va ts.length vc) (.int .i64 (d:Int)) dd cc wv G wr P dd' cc' wv')
   case atStart => exact ⟨0,[],_,_,_,by omega,rfl,YK HD.out hBw hlt HS.out hbx HX.out b0 b1⟩
   case round =>
    obtain ⟨k,P,dd',cc',wv',hk,rfl,I⟩:=hrel;have HI:Hid (Zf S B cb w m o k ts (.slice va ts.length vc) (.int .i64 (d:Int)) dd cc wv G wr P dd' cc' wv'):=I;have x0:=I.box0;have x1:=I.box1;have hBr:=I.below;have hsr:=I.size;clear I b0 b1 k0 k1 kf0 kf1 HX hbx hcw hB0 hszl HS
    by_cases hlt':k<ts.length
    · obtain ⟨_, _, hve, _, _, h4⟩ := hTo.out;obtain ⟨b,o',hao,hs,hcc'⟩:=h4 hne
      injection hve with e1 e2 e3
      subst e1;subst hao;obtain ⟨t,ht⟩:∃ t,ts[k]?=some t:=⟨ts[k],by simp[hlt']⟩
      obtain ⟨xa,xk,c0,c1,c2,c3,hat,hkt⟩:=hcc' k t ht;obtain ⟨ka,kc,rfl,_,hkm⟩:=qd.shape m hkt;have hkeep:∀ b,S b→wr.heap[b]?=w.heap[b]?:=fun b hb=>HI.out.frame b (HS0.out b hb).1 (HS0.out b hb).2.1 (HS0.out b hb).2.2
      have HKEEP:Hid (∀ b,S b→wr.heap[b]?=w.heap[b]?):=hkeep;rw[←World.cell?_of_block (a:=⟨b,o'+k*4+3,none⟩) (hkeep b hs)]at c3
      have hsn:ts.take (k+1)=ts.take k++[t]:=by
       rw[List.take_succ_eq_append_getElem hlt'];congr 2;simpa[hlt'] using ht
      have HSN:Hid (ts.take (k+1)=ts.take k++[t]):=hsn;have hkT:qd S wr m (.slice ka t.kids.length kc) t.kids:=qd.carry (fun b hb=>⟨hb,hkeep b hb⟩) m hkt
      have HKT:Hid (qd S wr m (.slice ka t.kids.length kc) t.kids):=hkT
      have hkids:dep m t.kids+1≤dep (m+1) ts∧cnt m (nx (ts.take (k+1)))≤cnt m (nx ts)∧dep (m+1) (ts.take k)≤dep (m+1) ts:=by
       refine ⟨?_,?_,?_⟩
       · obtain ⟨a, b, e⟩ := List.append_of_mem (List.mem_of_getElem? ht);rw[e,zO,yS];omega
       · have e : nx ts = nx (ts.take (k + 1)) ++ nx (ts.drop (k + 1)) := by rw[←ji, List.take_append_drop]
         rw[e,ze];omega
       · have e : dep (m + 1) ts = max (dep (m + 1) (ts.take k)) (dep (m + 1) (ts.drop k)) := by rw[←zO, List.take_append_drop]
         omega
      have HCALL:Hid (Calls Tryz.prog 120 #[.pointer (some ⟨cb,0,none⟩),.agg #[.slice ka t.kids.length kc,.int .i64 ((d:Int)+1)],.int .i64 ((M:Int)-1)] wr.drew fun e w'=>∃ r,e=.returned r∧(r=.tuple #[]∧∃ P1 dd3 cc3 wv3,ZA S B cb wr (if t.kids=[] then 0 else o+1+dep m t.kids) (cnt m t.kids) L (o+1) t.kids dd' cc' wv' (G++P.map grp) w' P1 dd3 cc3 wv3)):=by
       have I:=HI.out;have h1:=I.dmax;have h2:=I.csum;have h3:=Yl I.pend;have h4:=I.more;have h5:=QA m ts;obtain ⟨h6,h7,h8⟩:=hkids;rw[hsn,ji,ju,nx_nil,List.append_nil,ze]at h7
       have hd:=HD.out
       have hfree:∀ b,S b→b<wr.drew.heap.size∧b≠cb∧wv'.ownBlock≠some b:=by
        intro b hb;obtain ⟨q1,q2,q3⟩:=HS0.out b hb;refine ⟨Nat.lt_of_lt_of_le q1 (Nat.le_trans (Nat.le_succ _) I.size),q2,fun h=>?_⟩
        rcases I.row with h'|⟨b',h',h''⟩
        · exact q3 (h'.symm.trans h)
        · rw[h']at h;cases h;omega
       have hcst:Cst B cb wr.drew dd' cc' wv' (G++P.map grp):=⟨I.cst.base,I.cst.held,I.cst.own,I.cst.slices⟩;have hTd:qd S wr.drew m (.slice ka t.kids.length kc) t.kids:=qd.carry (w:=wr) (w':=wr.drew) (fun b hb=>⟨hb,rfl⟩) m HKT.out
       have:=HIH.out m (.slice ka t.kids.length kc) t.kids (o+1) (d+1) dd' cc' wv' (G++P.map grp) wr.drew (by omega) hfree hTd hcst (by show B≤wr.heap.size;omega) (by omega) (by omega) (by omega) (by rw[List.length_append,List.length_map];omega)
       have e1:((d+1:Nat):Int)=(d:Int)+1:=by omega
       have e2:(L:Int)=(M:Int)-1:=by have:=HM.out;omega
       rw[e1,e2]at this
       refine this.mono ?_;rintro e w' ⟨rfl,P1,dd3,cc3,wv3,J⟩;exact ⟨_,rfl,rfl,P1,dd3,cc3,wv3,J.undrew⟩
      have hkb:(k:Int)<(ts.length:Int):=by omega
      have hdb:d≤1048578:=by have:=HD.out;omega
      have hMb:1≤M∧M≤1000:=by have:=HM.out;omega
      clear c0 c1 c2 hat hkt hkT hcc' h4 e2 e3 ht hsn hs hkids hkeep;go_wp2_with fail
      go_region_law (first
       | (refine qM (by rfl) 120 #[.pointer (some ⟨cb,0,none⟩),.agg #[.slice ka t.kids.length kc,.int .i64 ((d:Int)+1)],.int .i64 ((M:Int)-1)] (by go_simp;exact ⟨IntWalk.i64_in _ (by omega),IntWalk.i64_in _ (by omega)⟩) _ HCALL.out ?_;intro r w3 hR;obtain ⟨hr,P1,dd3,cc3,wv3,J⟩:=hR))
      all_goals
       go_wp2_with fail
       go_roundg (ts.length-(k+1))
       case measure => omega
       case rel => exact ⟨k+1,_,_,_,_,by omega,by go_num,Ju HKEEP.out HI.out HW.out hlt HSN.out J⟩
    · have hkk : k = ts.length := by omega
      subst hkk;go_wp2_with fail
      go_returns
      exact ⟨rfl,_,_,_,_,Jv hne HI.out⟩
end
section
attribute [local go_sem] qk
theorem K1 (S:Nat→Prop)(B cb:Nat):∀ L,L≤1000→Z2 S B cb L:=by
 intro L
 induction L with
 | zero=>intro _;exact add_zero S B cb
 | succ L ih=>intro h;exact X7 S B cb L (by omega) (ih (by omega))
structure VR (S:Nat→Prop) (B cb:Nat) (w:World) (D C:Nat) (w':World) (P:List CE) (dd cc:Nat) (wv:Value):Prop where
 below:Below B w w'
 cst:Cst B cb w' dd cc wv (P.map grp)
 keep:∀ b,S b→w'.heap[b]?=w.heap[b]?
 free:∀ b,S b→wv.ownBlock≠some b
 pend:∀ e∈P,J0 S w e
 dmax:max dd (jf P)=D
 csum:cc+csum P=C
theorem Xp {S:Nat→Prop}{B cb n:Nat}{va:Option Addr}{vc:Nat}{ts:List Tr}{w:World}(hS:∀ b,S b→b<w.heap.size∧b≠cb)(hne:ts≠[])(hT:qd S w n (.slice va ts.length vc) ts)(hD:dep n ts≤1048577)(hC:Cst B cb w 0 0 (.slice none 0 0) [])(hBw:B≤w.heap.size) :
 VR S B cb w (dep n ts) (cnt n ts) ((w.setCell ⟨cb,2,none⟩ (.slice (some ⟨w.heap.size,0,none⟩) 1 1)).alloc (.cells #[.slice va ts.length vc,.int .i64 1] 141)) [⟨.slice va ts.length vc,n,ts,0⟩] 0 0 (.slice (some ⟨w.heap.size,0,none⟩) 1 1):=by
 have hlt:=hC.lt;refine ⟨((Below.refl B w).setCell hC.base _).alloc (by simp;omega) _,⟨hC.base,?_,?_,?_⟩,?_,?_,?_,?_,?_⟩
 · rw[Lib.alloc_old _ _ _ (by simp;omega)]
   simp[World.setCell,Array.getElem?_modify,hC.held]
 · have := World.ownsRow_lit (base := B) (e := 141) (size := 2) (w.setCell ⟨cb, 2, none⟩ (.slice (some ⟨w.heap.size, 0, none⟩) 1 1)) #[.slice va ts.length vc, .int .i64 1] 1 (by simp;omega) (by unfold maxLen;omega) rfl
   simpa[grp,groupCells] using this
 · intro x hx;simp[grp]at hx
   subst hx;exact ⟨_,_,_,rfl⟩
 · intro b hb;rw[Lib.alloc_old _ _ _ (by simp;exact (hS b hb).1),Below.heap_setCell _ _ _ _ (hS b hb).2]
 · intro b hb h;cases h;exact Nat.lt_irrefl _ (hS _ hb).1
 · intro e he;simp at he
   subst he;exact ⟨hne,hT,by simpa using hD⟩
 · simp[jf]
 · simp[Go.Proofs.YtnppmdpmippcoaaGreatDoor.csum]
theorem ZJ (S:Nat→Prop)(B cb n:Nat)(v:Value)(ts:List Tr)(w:World)(hS:∀ b,S b→b<w.heap.size∧b≠cb)(hne:ts≠[])(hT:qd S w n v ts)(hC:Cst B cb w 0 0 (.slice none 0 0) [])(hBw:B≤w.heap.size)(hcnt:cnt n ts≤1048576) :
 Calls Tryz.prog 98 #[.pointer (some ⟨cb,0,none⟩),v] w fun e w'=>e=.returned (.tuple #[])∧∃ wv,Cst B cb w' (dep n ts) (cnt n ts) wv []∧Below B w w':=by
 obtain ⟨va,vc,rfl,_,hvm⟩:=qd.shape n hT;have hDC:=dep_cnt n ts;have hlt:=hC.lt;have c2:w.cell? ⟨cb,2,none⟩=some (.slice none 0 0):=by rw[cH9 hC.held];rfl
 have f2:w.frozen? ⟨cb,2,none⟩=false:=fH9 hC.held 2;have HC:Hid (Cst B cb w 0 0 (.slice none 0 0) []):=hC;have HT:Hid (qd S w n (.slice va ts.length vc) ts):=hT;clear hC hT
 go_enter Tryz.func98,Tryz.ntmps98
 go_wp2_with fail
 go_loopg [] (cnt n ts) (fun g wr=>∃ P dd cc wv,csum P=g∧VR S B cb w (dep n ts) (cnt n ts) wr P dd cc wv)
 case atStart => exact ⟨_,_,_,_,by simp[csum],Xp hS hne HT.out (by omega) HC.out hBw⟩
 case round =>
  obtain ⟨P,dd,cc,wv,hm,I⟩:=hrel;subst hm;obtain ⟨wa,wc,rfl⟩:=I.cst.shape;rw[List.length_map]at I
  have d2:wr.cell? ⟨cb,2,none⟩=some (.slice wa P.length wc):=by rw[cH9 I.cst.held];rfl
  have HI:Hid (VR S B cb w (dep n ts) (cnt n ts) wr P dd cc (.slice wa P.length wc)):=I;clear I
  rcases List.eq_nil_or_concat P with rfl|⟨P0,e,hPe⟩
  · simp only[List.length_nil]at d2
    go_wp2_with fail
    go_returns
    have I:=HI.out;have h1:=I.dmax;have h2:=I.csum;have h3:jf []=0:=rfl;have h4:csum []=0:=rfl;rw[h3]at h1
    rw[h4]at h2
    have e1:dd=dep n ts:=by omega
    have e2:cc=cnt n ts:=by omega
    have hc:=I.cst;rw[e1,e2]at hc
    exact ⟨rfl,_,hc,I.below⟩
  · rw[List.concat_eq_append]at hPe
    subst hPe;have hl:(P0++[e]).length=P0.length+1:=by simp
    rw[hl]at d2
    have hcs:Cst B cb wr dd cc (.slice wa (P0++[e]).length wc) (P0.map grp++[(e.v,e.o+1)]):=by
     have:=HI.out.cst;rw[List.map_append,List.map_cons,List.map_nil]at this
     exact this
    have hszr:B≤wr.heap.size:=Nat.le_trans hBw HI.out.below.size;have HCS:Hid _:=hcs;clear hcs;go_wp2_with fail;refine (XW B cb wr dd cc _ (P0.map grp) e.v (e.o+1) HCS.out hszr).mono ?_;rintro e' w1 ⟨rfl,v1,hc1,hv1,hk1,hb1⟩;have hB1:Below B w w1:=HI.out.below.trans hb1;obtain ⟨hp1,hp2,hp3⟩:=HI.out.pend e (by simp)
    have hwr:=HI.out.below.size;have hw1:=hb1.size;have hkp:∀ b,S b→w1.heap[b]?=w.heap[b]?:=fun b hb=>(hk1 b (by have:=(hS b hb).1;omega) (hS b hb).2).trans (HI.out.keep b hb)
    have HKP:Hid (∀ b,S b→w1.heap[b]?=w.heap[b]?):=hkp;have hfr:∀ b,S b→b<w1.heap.size∧b≠cb∧v1.ownBlock≠some b:=fun b hb=>⟨by have:=(hS b hb).1;omega,(hS b hb).2,by rw[hv1];exact HI.out.free b hb⟩
    have HFR:Hid (∀ b,S b→b<w1.heap.size∧b≠cb∧v1.ownBlock≠some b):=hfr;have hTe:qd S w1 e.n e.v e.ts:=qd.carry (fun b hb=>⟨hb,hkp b hb⟩) e.n hp2
    have h1:=HI.out.dmax;have h2:=HI.out.csum;have h3:csum (P0++[e])=csum P0+cnt e.n e.ts:=by rw[yX];simp[csum]
    have h4:jf (P0++[e])=max (jf P0) (e.o+dep e.n e.ts):=by rw[jE];simp[jf]
    have h5:=Yl (P:=P0) (fun x hx=>HI.out.pend x (by simp[hx]))
    rw[h3]at h2
    rw[h4]at h1
    have hcall:=K1 S B cb 1000 (nR9 _) e.n e.v e.ts e.o (e.o+1) dd cc v1 (P0.map grp) w1 rfl hfr hTe hc1 (by have:=hb1.size;omega) hp3 (by omega) (by omega) (by rw[List.length_map];omega)
    have e1:((e.o+1:Nat):Int)=(e.o:Int)+1:=by omega
    rw[e1,show ((1000:Nat):Int)=1000 from rfl]at hcall
    have HCALL:Hid _:=hcall;clear hcall e1 hkp hfr hk1;have H1:Hid (max dd (max (jf P0) (e.o+dep e.n e.ts))=dep n ts):=h1;have H2:Hid (cc+(csum P0+cnt e.n e.ts)=cnt n ts):=h2;have H3:Hid (csum (P0++[e])=csum P0+cnt e.n e.ts):=h3;clear d2 h1 h2 h3 h4 h5 hp3 hTe hc1 hv1 hl hszr;go_wp2_with fail;refine (Calls.mono HCALL.out ?_);rintro e' w2 ⟨rfl,P1,dd3,cc3,wv3,J⟩;go_wp2_with fail
    go_roundg (csum (P0++P1))
    case measure =>
     have h6:=J.csum;have h7:=J.more.2 (by omega)
     have h8:=List.length_pos_iff.2 hp1;rw[H3.out,yX];omega
    case rel =>
     refine ⟨P0++P1,dd3,cc3,wv3,rfl,hB1.trans J.below,by rw[List.map_append];exact J.cst,fun b hb=>(J.frame b (HFR.out b hb).1 (HFR.out b hb).2.1 (HFR.out b hb).2.2).trans (HKP.out b hb),?_,?_,?_,?_⟩
     · intro b hb h
       rcases J.row with h'|⟨b',h',h''⟩
       · exact (HFR.out b hb).2.2 (h'.symm.trans h)
       · rw[h']at h;cases h;have:=(HFR.out _ hb).1;omega
     · intro x hx
       rcases List.mem_append.1 hx with hx|hx
       · exact HI.out.pend x (by simp[hx])
       · obtain ⟨q1, q2, q3⟩ := J.pend x hx;exact ⟨q1,qd.carry (fun b hb=>⟨hb,(HKP.out b hb).symm⟩) x.n q2,q3⟩
     · have h6 := J.dmax;rw[if_neg hp1]at h6
       have h1:=H1.out;rw[jE];omega
     · have h6 := J.csum;have h2:=H2.out;rw[yX];omega
theorem KS (S:Nat→Prop)(n:Nat)(va vk:Value)(t:Tr)(w:World)(h:qj S w va t.attrs)(hk:qd S w n vk t.kids)(hc:cnt (n+1) [t]≤1048576) :
 Calls Tryz.prog 71 #[.agg #[.bool t.text,.string t.s,va,vk]] w fun e w'=>e=.returned (.tuple #[.int .i64 (dep (n+1) [t]:Int),.int .i64 (cnt (n+1) [t]:Int)])∧Below w.heap.size w w':=by
 obtain ⟨aa,ac,rfl⟩:=h.shape;obtain ⟨ka,kc,rfl,_,_⟩:=qd.shape n hk;have hb:∀ X Y Z,Below w.heap.size w (((w.alloc X).alloc Y).alloc Z):=fun X Y Z=>((Below.alloc1 w X).alloc (by simp) Y).alloc (by simp;omega) Z
 have HB:Hid (∀ X Y Z,Below w.heap.size w (((w.alloc X).alloc Y).alloc Z)):=hb;have HA:Hid (qj (fun b=>S b∧b<w.heap.size) w (.slice aa t.attrs.length ac) t.attrs):=h.bounded
 have HK:Hid (qd (fun b=>S b∧b<w.heap.size) w n (.slice ka t.kids.length kc) t.kids):=qd.bounded n hk
 clear h hk hb
 go_enter Tryz.func71,Tryz.ntmps71
 go_wp2_with fail
 have hT:=qd.of_block (S:=fun b=>S b∧b<w.heap.size) (n:=n) (len:=1) (cap:=1) (ts:=[t]) (e:=56) (fz:=(0,0)) (qs:=[(t.text,t.s,.slice aa t.attrs.length ac,.slice ka t.kids.length kc)]) (heap_alloc_new ((w.alloc (.cells #[.bool t.text,.string t.s,.slice aa t.attrs.length ac,.slice ka t.kids.length kc] 56)).alloc (.cells #[.int .i64 0,.int .i64 0,.slice none 0 0] 120)) (.cells #[.bool t.text,.string t.s,.slice aa t.attrs.length ac,.slice ka t.kids.length kc] 56)) rfl rfl rfl (nR9 _) (by unfold maxLen;simp) (by
  intro i q t' hq ht';cases i with
  | zero =>
    simp at hq ht'
    subst hq ht';exact ⟨rfl,rfl,HA.out.later (HB.out _ _ _),qd.later (HB.out _ _ _) n HK.out⟩
  | succ i=>simp at ht')
 have hCst:Cst w.heap.size (w.heap.size+1) (((w.alloc (.cells #[.bool t.text,.string t.s,.slice aa t.attrs.length ac,.slice ka t.kids.length kc] 56)).alloc (.cells #[.int .i64 0,.int .i64 0,.slice none 0 0] 120)).alloc (.cells #[.bool t.text,.string t.s,.slice aa t.attrs.length ac,.slice ka t.kids.length kc] 56)) 0 0 (.slice none 0 0) []:=by
  refine ⟨by omega,?_,World.ownsRow_nil _ _ _ _,by simp⟩
  have e:=heap_alloc_new (w.alloc (.cells #[.bool t.text,.string t.s,.slice aa t.attrs.length ac,.slice ka t.kids.length kc] 56)) (.cells #[.int .i64 0,.int .i64 0,.slice none 0 0] 120);rw[World.size_alloc]at e
  rw[Lib.alloc_old _ _ _ (by simp)]
  exact e
 have hB3:=HB.out (.cells #[.bool t.text,.string t.s,.slice aa t.attrs.length ac,.slice ka t.kids.length kc] 56) (.cells #[.int .i64 0,.int .i64 0,.slice none 0 0] 120) (.cells #[.bool t.text,.string t.s,.slice aa t.attrs.length ac,.slice ka t.kids.length kc] 56);have hs2:((w.alloc (.cells #[.bool t.text,.string t.s,.slice aa t.attrs.length ac,.slice ka t.kids.length kc] 56)).alloc (.cells #[.int .i64 0,.int .i64 0,.slice none 0 0] 120)).heap.size=w.heap.size+1+1:=by simp
 rw[hs2]at hT
 refine (ZJ _ w.heap.size (w.heap.size+1) (n+1) _ [t] _ ?_ (by simp) hT hCst hB3.size hc).mono ?_
 · intro b hb;simp only[World.size_alloc]
   rcases hb with hb|hb
   · have:=hb.2;omega
   · omega
 rintro e w2 ⟨rfl,wv,hC2,hb2⟩;have k0:w2.cell? ⟨w.heap.size+1,0,none⟩=some (.int .i64 (dep (n+1) [t]:Int)):=by rw[cH9 hC2.held];rfl
 have k1:w2.cell? ⟨w.heap.size+1,1,none⟩=some (.int .i64 (cnt (n+1) [t]:Int)):=by rw[cH9 hC2.held];rfl
 have hB4:Below w.heap.size w w2:=hB3.trans hb2;obtain ⟨D,hD⟩:∃ D,dep (n+1) [t]=D:=⟨_,rfl⟩;obtain ⟨C,hC⟩:∃ C,cnt (n+1) [t]=C:=⟨_,rfl⟩;rw[hD]at k0
 rw[hC]at k1
 have HD:Hid (dep (n+1) [t]=D):=hD;have HC:Hid (cnt (n+1) [t]=C):=hC;clear hD hC hc;clear hC2 hT hCst hB3 hb2 hs2;go_wp2_with fail
 go_region
 all_goals
  go_wp2_with fail
  go_ret2
  exact ⟨by rw[HD.out,HC.out];rfl,hB4.drew⟩
end
end Go.Proofs.YtnppmdpmippcoaaGreatDoor
