/- Bundled: AimW StoM StrsL ChW DocCp StoG StoW StoX StoD AliveM AliveW PlayW PlayO SpoilM TopS StoP TRefN TMemK. What each says stands ahead of it. -/
import Derived.Test.YtchkbffgancidaaGreatDoorBundle38
namespace Go.Proofs.YtchkbffgancidaaGreatDoor
open Go.ChangeShapes Go.WideShapes Go.ChangeAt Go.RowKit
set_option maxRecDepth 100000
section
attribute [local go_sem] qd
def Ye (o:Opn)(l:List Int):List Opn:=l.map fun n=>{ o with target:=n }
def xx (o:Opn)(ca:Option Addr)(cc:Nat)(l:List Int):List Orw:=l.map fun n=>⟨o.kind,n,ca,o.content.length,cc,o.name,o.s⟩
theorem XF {w w':World}{B:Nat}{e:TypeId}{k n:Nat}{v:Value}{xs:List Value}(h:w.ownsRow B e k v n xs)(hk:∀ g,v.ownBlock=some g→w'.heap[g]?=w.heap[g]?):w'.ownsRow B e k v n xs:=by
 refine ⟨h.1,?_⟩
 rcases h.2 with ⟨rfl,hz⟩|⟨g,cap,cur,rfl,hB,hh,hc,hm,hs,ht⟩
 · exact Or.inl ⟨rfl,hz⟩
 · exact Or.inr ⟨g,cap,cur,rfl,hB,(hk g rfl).trans hh,hc,hm,hs,ht⟩
theorem QD {w:World}{B B':Nat}{e:TypeId}{k n:Nat}{v:Value}{xs:List Value}(h:w.ownsRow B e k v n xs)(hB:B'≤B):w.ownsRow B' e k v n xs:=by
 refine ⟨h.1,?_⟩
 rcases h.2 with ⟨rfl,hz⟩|⟨g,cap,cur,rfl,hB1,hh,hc,hm,hs,ht⟩
 · exact Or.inl ⟨rfl,hz⟩
 · exact Or.inr ⟨g,cap,cur,rfl,Nat.le_trans hB hB1,hh,hc,hm,hs,ht⟩
theorem qaE (o:Opn)(ca:Option Addr)(cc:Nat){l:List Int}{k:Nat}{t:Int}(h:l[k]?=some t):qB (xx o ca cc (l.take (k+1)))=qB (xx o ca cc (l.take k))++[.int .i64 o.kind,.int .i64 t,.slice ca o.content.length cc,.string o.name,.string o.s]:=by
 have hk:=qh h;have e:l[k]=t:=by simpa[hk] using h
 rw[List.take_succ_eq_append_getElem hk,e];unfold xx qB;rw[List.map_append,List.flatMap_append];rfl
structure qeb (w:World) (o:Opn) (ca:Option Addr) (cc:Nat) (l:List Int) (k:Nat) (v:Value) (wr:World):Prop where
 below:Below w.heap.size w wr
 box:∃ t:Int,wr.heap[w.heap.size]?=some (.cells #[.int .i64 o.kind,.int .i64 t,.slice ca o.content.length cc,.string o.name,.string o.s] 94 (0,0))
 row:wr.ownsRow (w.heap.size+1) 94 5 v k (qB (xx o ca cc (l.take k)))
set_option maxHeartbeats 1000000 in
theorem qaF (T:Nat→Prop)(o:Opn)(ca:Option Addr)(cc:Nat)(vi:Value)(l:List Int)(w:World)(hI:qW T w vi l)(hl:l.length≤1048576) :
 Calls Tryz.prog 38 #[.agg #[.int .i64 o.kind,.int .i64 o.target,.slice ca o.content.length cc,.string o.name,.string o.s],vi] w fun e w'=>∃ v,e=.returned v∧w'.ownsRow w.heap.size 94 5 v l.length (qB (xx o ca cc l))∧Below w.heap.size w w':=by
 obtain ⟨ia,ic,rfl,hil,hic⟩:=hI.shape;obtain ⟨i0,hi,hz0,hz1,hz2⟩:=info_parts opInfo;have HI:Hid _:=hI;have HI0:Hid (qeb w o ca cc l 0 (.slice none 0 0) (w.alloc (.cells #[.int .i64 o.kind,.int .i64 o.target,.slice ca o.content.length cc,.string o.name,.string o.s] 94))):=⟨Below.alloc1 w _,⟨_,heap_alloc_new w _⟩,World.ownsRow_nil _ _ _ _⟩;unfold maxLen at hic
 clear hI
 go_enter Tryz.func38,Tryz.ntmps38
 go_wp2_with fail
 go_loopg [10,5] l.length (fun g i u wr=>∃ (k:Nat) (v:Value),k+g=l.length∧i=.int .i64 k∧v=u∧qeb w o ca cc l k v wr)
 case atStart => exact ⟨0,_,by omega,rfl,rfl,HI0.out⟩
 case round =>
  clear HI0;obtain ⟨k,v,hk,rfl,hvu,hA⟩:=hrel;subst hvu;obtain ⟨t0,hbx⟩:=hA.box;have HB:Hid _:=hA.below;have HRW:Hid _:=hA.row
  by_cases hlt:k<l.length
  · have hlti : (k : Int) < (l.length : Int) := by omega
    obtain ⟨t,ht⟩:∃ t,l[k]?=some t:=⟨l[k],by simp[hlt]⟩
    obtain ⟨b1,o1,c1,hv1,_,_,e1⟩:=(qW.later HI.out HB.out).at ht
    injection hv1 with hv1 hv1l hv1c
    subst hv1 hv1c;clear hv1l;have HSN:Hid _:=qaE o ca cc ht;have q0:wr.cell? ⟨w.heap.size,0,none⟩=some (.int .i64 o.kind):=by rw[cH9 hbx];rfl
    have q1:wr.cell? ⟨w.heap.size,1,none⟩=some (.int .i64 t0):=by rw[cH9 hbx];rfl
    have q2:wr.cell? ⟨w.heap.size,2,none⟩=some (.slice ca o.content.length cc):=by rw[cH9 hbx];rfl
    have q3:wr.cell? ⟨w.heap.size,3,none⟩=some (.string o.name):=by rw[cH9 hbx];rfl
    have q4:wr.cell? ⟨w.heap.size,4,none⟩=some (.string o.s):=by rw[cH9 hbx];rfl
    have qf:wr.frozen? ⟨w.heap.size,1,none⟩=false:=fH9 hbx _
    have hbx1:(wr.setCell ⟨w.heap.size,1,none⟩ (.int .i64 t)).heap[w.heap.size]?=some (.cells #[.int .i64 o.kind,.int .i64 t,.slice ca o.content.length cc,.string o.name,.string o.s] 94 (0,0)):=by
     simp[World.setCell,Array.getElem?_modify,hbx]
    have hrow1:(wr.setCell ⟨w.heap.size,1,none⟩ (.int .i64 t)).ownsRow (w.heap.size+1) 94 5 v k (qB (xx o ca cc (l.take k))):=XF HRW.out (fun g hg=>qb (by have:=(World.ownsRow.lt HRW.out g hg).1;omega))
    have hB1:Below w.heap.size w (wr.setCell ⟨w.heap.size,1,none⟩ (.int .i64 t)):=HB.out.setCell (p:=⟨w.heap.size,1,none⟩) (nR9 _) _;have p0:(wr.setCell ⟨w.heap.size,1,none⟩ (.int .i64 t)).cell? ⟨w.heap.size,0,none⟩=some (.int .i64 o.kind):=by rw[cH9 hbx1];rfl
    have p1:(wr.setCell ⟨w.heap.size,1,none⟩ (.int .i64 t)).cell? ⟨w.heap.size,1,none⟩=some (.int .i64 t):=by rw[cH9 hbx1];rfl
    have p2:(wr.setCell ⟨w.heap.size,1,none⟩ (.int .i64 t)).cell? ⟨w.heap.size,2,none⟩=some (.slice ca o.content.length cc):=by rw[cH9 hbx1];rfl
    have p3:(wr.setCell ⟨w.heap.size,1,none⟩ (.int .i64 t)).cell? ⟨w.heap.size,3,none⟩=some (.string o.name):=by rw[cH9 hbx1];rfl
    have p4:(wr.setCell ⟨w.heap.size,1,none⟩ (.int .i64 t)).cell? ⟨w.heap.size,4,none⟩=some (.string o.s):=by rw[cH9 hbx1];rfl
    have HX1:Hid _:=hbx1;have HW1:Hid _:=hrow1;have HB1:Hid _:=hB1;have hszw:w.heap.size<wr.heap.size:=qe hbx;clear hbx hbx1 hrow1 hB1 ht hA HRW;go_wp2_with (at_builtin;refine wpList_append_own_at _ rfl _ _ 70 rfl (w.heap.size+1) 94 i0 _ 5 72 Tryz.underlying70 hi hz0 hz1 hz2 rfl (by decide) v k (qB (xx o ca cc (l.take k))) rfl ?qc0 ⟨wr.heap.size,0,none⟩ 1 1 [.int .i64 o.kind,.int .i64 t,.slice ca o.content.length cc,.string o.name,.string o.s] rfl ?qc1 ?qc2 ?qc3 ?qc4 ?qc5 ?qc6 ?_)
    case qc0 => exact World.ownsRow.alloc HW1.out _
    case qc1 => rfl
    case qc2 =>
     intro j u hj;have hnew:=heap_alloc_new (wr.setCell ⟨w.heap.size,1,none⟩ (.int .i64 t)) (.cells #[.int .i64 o.kind,.int .i64 t,.slice ca o.content.length cc,.string o.name,.string o.s] 94);rw[World.size_setCell]at hnew
     rw[Addr.add_lit,Nat.zero_add,cH9 hnew]
     simpa using hj
    case qc3 =>
     intro u hu;simp only[List.mem_cons,List.not_mem_nil,or_false]at hu
     rcases hu with rfl|rfl|rfl|rfl|rfl<;>rfl
    case qc4 => unfold maxLen;omega
    case qc5 => omega
    case qc6 => simp;omega
    intro v2 W2 hown hgr _ _;have hbA:=Below.alloc1 (wr.setCell ⟨w.heap.size,1,none⟩ (.int .i64 t)) (.cells #[.int .i64 o.kind,.int .i64 t,.slice ca o.content.length cc,.string o.name,.string o.s] 94)
    have HI2:Hid (qeb w o ca cc l (k+1) v2 W2):=by
     have hB2:Below (w.heap.size+1) ((wr.setCell ⟨w.heap.size,1,none⟩ (.int .i64 t)).alloc (.cells #[.int .i64 o.kind,.int .i64 t,.slice ca o.content.length cc,.string o.name,.string o.s] 94)) W2:=(Below.refl _ _).grown hgr (by simp;omega) (fun z hz=>(World.ownsRow.lt HW1.out z hz).1)
     have hBA:Below w.heap.size w ((wr.setCell ⟨w.heap.size,1,none⟩ (.int .i64 t)).alloc (.cells #[.int .i64 o.kind,.int .i64 t,.slice ca o.content.length cc,.string o.name,.string o.s] 94)):=HB1.out.alloc HB1.out.size _;refine ⟨hBA.trans (hB2.mono (by omega)),⟨t,?_⟩,?_⟩
     · exact (hB2.block _ (by omega)).trans ((hbA.block _ (qe HX1.out)).trans HX1.out)
     · rw[HSN.out];exact hown
    clear hown hgr hbA HX1 HW1 HB1 HSN p0 p1 p2 p3 p4 q0 q1 q2 q3 q4 qf;go_wp2_with fail
    go_roundg (l.length-(k+1))
    case measure => omega
    case rel => exact ⟨k+1,v2,by omega,by go_num,rfl,HI2.out⟩
  · have hlti : ¬ ((k : Int) < (l.length : Int)) := by omega
    have hkk:k=l.length:=by omega
    subst hkk;clear hA;go_wp2_with fail;go_ret;refine ⟨v,rfl,?_,HB.out⟩;have:=HRW.out;rw[List.take_length]at this
    exact QD this (by omega)
end
end Go.Proofs.YtchkbffgancidaaGreatDoor
namespace Go.Proofs.YtchkbffgancidaaGreatDoor
open Go.RowKit
set_option maxRecDepth 100000
abbrev Rep:=Int × Int × ByteArray
def q5 (c:Int):Rep:=(c,0,⟨#[]⟩)
def qL (ns:List Nd):List ByteArray→List Opn × Int
 | []=>([],0)
 | s :: r =>
   if (qT s.data.toList).2.2≠0 then ([],(qT s.data.toList).2.2)
   else if Zn ns (qT s.data.toList).2.1≠0 then ([],Zn ns (qT s.data.toList).2.1)
   else if Qh ns (qT s.data.toList).2.1=[] then ([],3)
   else if (qL ns r).2≠0 then ([],(qL ns r).2)
   else (Ye (qT s.data.toList).1 (Qh ns (qT s.data.toList).2.1)++(qL ns r).1,0)
def QP (l:List ByteArray)(ns:List Nd):Rep × List Nd :=
 match l with
 | [s]=>if (qA s.data.toList).2≠0 then (q5 (qA s.data.toList).2,ns) else ((0,((ym s.data.toList.length (qA s.data.toList).1).length:Int),⟨#[]⟩),ym s.data.toList.length (qA s.data.toList).1)
 | _=>(q5 1,ns)
def ZJ (ns:List Nd):Rep :=
 if (jh ns 0).2≠0 then q5 (jh ns 0).2
 else if (yP ns.length (jh ns 0).1).2≠0 then q5 (yP ns.length (jh ns 0).1).2
 else (0,(ns.length:Int),(yP ns.length (jh ns 0).1).1)
def jz (l:List ByteArray)(ns:List Nd):Rep × List Nd :=
 if 6<l.length then (q5 2,ns)
 else if (qL ns l).2≠0 then (q5 (qL ns l).2,ns)
 else if yp ns (qL ns l).1≠0 then (q5 (yp ns (qL ns l).1),ns)
 else ((0,((qL ns l).1.length:Int),⟨#[]⟩),yo ns (qL ns l).1)
structure Ac where
 kind:Int
 lines:List ByteArray
def jq (a:Ac)(ns:List Nd):Rep × List Nd :=
 if a.kind=1 then QP a.lines ns else if a.kind=2 then jz a.lines ns else if a.kind=3 then (ZJ ns,ns) else (q5 4,ns)
def xR (a:Ac)(ns:List Nd)(n:Nat):Rep × List Nd × Nat :=
 if 100≤n then (q5 7,ns,n) else ((jq a ns).1,(jq a ns).2,n+1)
def newD:List Nd:=[⟨false,⟨#[100,111,99]⟩,[],-1,[]⟩]
theorem KC (s:ByteArray):Qm (yb s):=by
 intro x hx;unfold yb at hx
 cases hp:xJ s.data.toList with
 | none=>rw[hp]at hx;simp[asS]at hx
 | some l =>
   rw[hp]at hx
   simp only[Option.getD_some]at hx
   have hl:YS l=true:=by
    unfold xJ at hp
    split at hp
    · split at hp
      · cases hp
      · split at hp
        · rename_i h;cases hp;exact h
        · cases hp
    · cases hp
   rw[←qau]at hl
   simp only[yS,Bool.and_eq_true,List.all_eq_true]at hl
   have h1:=hl.2 x hx;simp only[zT,Bool.and_eq_true,Bool.or_eq_true,decide_eq_true_eq]at h1
   rcases h1.2 with (h|h)|h
   · rw[h];exact nZ9 _
   · rw[h];show 1≤maxLen;unfold maxLen;omega
   · have:=Zi h;unfold maxLen;omega
theorem VE (s:List UInt8):Qm (qT s).2.1:=by
 have h0:Qm []:=by intro x hx;cases hx
 unfold qT
 split
 · exact h0
 · split
   · exact h0
   · split
     · exact h0
     · split
       · exact h0
       · exact KC _
theorem qdV {ns:List Nd}{l:List St}:(Qh ns l).length≤80:=by
 unfold Qh
 split
 · rename_i h
   simp only[Bool.and_eq_true]at h
   have hne:l≠[]:=by
    intro e;have:=h.2;rw[e]at this
    simp[yS]at this
   exact Nat.le_trans (Z6 h.1 (qcO h.1 hne)) (Qb h.1)
 · exact nZ9 _
end Go.Proofs.YtchkbffgancidaaGreatDoor
namespace Go.Proofs.YtchkbffgancidaaGreatDoor
open Go.ChangeShapes Go.WideShapes Go.ChangeAt Go.RowKit
set_option maxRecDepth 100000
def Strs (S:Nat→Prop)(w:World)(v:Value)(l:List ByteArray):Prop :=
  ∃ a cap, v = .slice a l.length cap ∧ l.length ≤ cap ∧ cap ≤ maxLen ∧
    (l≠[]→∃ b o,a=some ⟨b,o,none⟩∧S b∧∀ (i:Nat) (x:ByteArray),l[i]?=some x→w.cell? ⟨b,o+i,none⟩=some (.string x))
theorem Strs.carry {S S':Nat→Prop}{w w':World}{v:Value}{l:List ByteArray}(h:Strs S w v l)(hw:∀ b,S b→S' b∧w'.heap[b]?=w.heap[b]?):Strs S' w' v l:=by
 obtain ⟨a,cap,h1,h2,h3,h4⟩:=h;refine ⟨a,cap,h1,h2,h3,fun hne=>?_⟩
 obtain ⟨b,o,ha,hs,hc⟩:=h4 hne;refine ⟨b,o,ha,(hw b hs).1,fun i x hx=>?_⟩
 rw[World.cell?_of_block (a:=⟨b,o+i,none⟩) (hw b hs).2];exact hc i x hx
theorem Strs.bounded {S:Nat→Prop}{w:World}{v:Value}{l:List ByteArray}(h:Strs S w v l):Strs (fun b=>S b∧b<w.heap.size) w v l:=by
 obtain ⟨a,cap,h1,h2,h3,h4⟩:=h;refine ⟨a,cap,h1,h2,h3,fun hne=>?_⟩
 obtain ⟨b,o,ha,hs,hc⟩:=h4 hne;refine ⟨b,o,ha,⟨hs,?_⟩,hc⟩;cases l with
 | nil=>exact absurd rfl hne
 | cons x r=>exact World.block_lt_of_cell? w _ (hc 0 x rfl)
theorem Strs.later {S:Nat→Prop}{w w':World}{v:Value}{l:List ByteArray}(h:Strs S w v l)(hb:Below w.heap.size w w'):Strs S w' v l :=
 h.bounded.carry fun b hb'=>⟨hb'.1,hb.block b hb'.2⟩
theorem Strs.shape {S:Nat→Prop}{w:World}{v:Value}{l:List ByteArray}(h:Strs S w v l):∃ a c,v=.slice a l.length c∧l.length≤c∧c≤maxLen:=by
 obtain ⟨a,cap,h1,h2,h3,_⟩:=h;exact ⟨a,cap,h1,h2,h3⟩
theorem Strs.at {S:Nat→Prop}{w:World}{v:Value}{l:List ByteArray}(h:Strs S w v l){i:Nat}{x:ByteArray}(hx:l[i]?=some x):∃ b o cap,v=.slice (some ⟨b,o,none⟩) l.length cap∧S b∧b<w.heap.size∧w.cell? ⟨b,o+i,none⟩=some (.string x):=by
 obtain ⟨a,cap,h1,h2,h3,h4⟩:=h;have hne:l≠[]:=by intro e;subst e;simp at hx
 obtain ⟨b,o,rfl,hs,hc⟩:=h4 hne;exact ⟨b,o,cap,h1,hs,World.block_lt_of_cell? w _ (hc i x hx),hc i x hx⟩
theorem Strs.nil {S:Nat→Prop}{w:World}:Strs S w (.slice none 0 0) []:=⟨none,0,rfl,nR9 _,nZ9 _,fun h=>absurd rfl h⟩
section
attribute [local go_sem] qd
def xj (acc:List Opn)(p:List Opn × Int):List Opn × Int:=if p.2≠0 then ([],p.2) else (acc++p.1,0)
theorem qdk (ns:List Nd):∀ l:List ByteArray,(qL ns l).2≠0→(qL ns l).1=[]:=by
 intro l h;cases l with
 | nil=>rfl
 | cons s r =>
   unfold qL at h ⊢
   split
   · rfl
   · split
     · rfl
     · split
       · rfl
       · split
         · rfl
         · rename_i h1 h2 h3 h4
           rw[if_neg h1,if_neg h2,if_neg h3,if_neg h4]at h
           exact absurd rfl h
theorem qck (ns:List Nd)(l:List ByteArray):xj [] (qL ns l)=qL ns l:=by
 unfold xj
 split
 · rename_i h
   exact Prod.ext (qdk ns l h).symm rfl
 · rename_i h
   exact Prod.ext (by simp) (by simpa using (Classical.not_not.1 h).symm)
theorem qa4 (a b:List Opn)(p:List Opn × Int):xj a (xj b p)=xj (a++b) p:=by
 unfold xj
 by_cases h:p.2≠0
 · rw[if_pos h,if_pos h,if_pos h]
 · rw[if_neg h,if_neg h,if_neg (by simp),List.append_assoc]
theorem qb3 {ns:List Nd}{s:ByteArray}{r:List ByteArray}(h1:(qT s.data.toList).2.2=0)(h2:Zn ns (qT s.data.toList).2.1=0)(h3:Qh ns (qT s.data.toList).2.1≠[]):qL ns (s::r)=xj (Ye (qT s.data.toList).1 (Qh ns (qT s.data.toList).2.1)) (qL ns r):=by
 rw[qL,if_neg (by simpa using h1),if_neg (by simpa using h2),if_neg h3]
 rfl
structure ChI (w:World) (ns:List Nd) (vd:Value) (ls:List ByteArray) (k:Nat) (v:Value) (wr:World):Prop where
 below:Below w.heap.size w wr
 box:wr.heap[w.heap.size]?=some (.cells #[vd] 29 (0,0))
 rest:∃ (acc:List Opn) (rs:List Orw),wr.ownsRow (w.heap.size+1) 94 5 v acc.length (qB rs)∧rs.length=acc.length ∧
  (∀ (i:Nat) r x,rs[i]?=some r→acc[i]?=some x→Y7 (fun b=>w.heap.size+1≤b∧b<wr.heap.size∧v.ownBlock≠some b) wr 2501 r x)∧acc.length≤80*k∧qL ns ls=xj acc (qL ns (ls.drop k))
theorem qdc {T:Nat→Prop}{w:World}{n:Nat}{o:Opn}{ca:Option Addr}{cc:Nat}(l:List Int)(hT:qa T w n (.slice ca o.content.length cc) o.content):∀ (i:Nat) r x,(xx o ca cc l)[i]?=some r→(Ye o l)[i]?=some x→Y7 T w n r x:=by
 intro i r x hr hx;unfold xx at hr
 unfold Ye at hx
 rw[List.getElem?_map]at hr hx
 cases hl:l[i]? with
 | none=>rw[hl]at hr;simp at hr
 | some t =>
   rw[hl]at hr hx
   simp only[Option.map_some,Option.some.injEq]at hr hx
   subst hr hx;exact ⟨rfl,rfl,rfl,rfl,ca,cc,rfl,hT⟩
theorem Y7.carry {T T':Nat→Prop}{w w':World}{n:Nat}{r:Orw}{x:Opn}(h:Y7 T w n r x)(hw:∀ b,T b→T' b∧w'.heap[b]?=w.heap[b]?):Y7 T' w' n r x:=by
 obtain ⟨e1,e2,e3,e4,ca,cc,e5,hT⟩:=h;exact ⟨e1,e2,e3,e4,ca,cc,e5,qa.carry hw n hT⟩
set_option maxHeartbeats 2000000 in
theorem Kc (S:Nat→Prop)(vd vl:Value)(ns:List Nd)(ls:List ByteArray)(w:World)(hD:QG S w vd ns)(hL:Strs S w vl ls)(hE:yU w)(h6:ls.length≤6)(hT:∀ s∈ls,s.size≤maxLen) :
 Calls Tryz.prog 25 #[.agg #[vd],vl] w fun e w'=>∃ v,e=.returned (.tuple #[v,.int .i64 (qL ns ls).2])∧Ops (fun b=>w.heap.size≤b) w' 2501 v (qL ns ls).1∧Below w.heap.size w w':=by
 obtain ⟨la,lc,rfl,hll,hlc⟩:=hL.shape;obtain ⟨na,nc,rfl,hnl,hnc⟩:=hD.nodes.shape;obtain ⟨i0,hi,hz0,hz1,hz2⟩:=info_parts opInfo;have HD:Hid _:=hD;have HL:Hid (Strs S w (.slice la ls.length lc) ls):=hL;have HT:Hid _:=hT;have HEV:Hid (∀ W,Below w.heap.size w W→yU W):=fun W hW=>hE.later hW
 have HI0:Hid (ChI w ns (.slice na ns.length nc) ls 0 (.slice none 0 0) (w.alloc (.cells #[.slice na ns.length nc] 29))):=⟨Below.alloc1 w _,heap_alloc_new w _,[],[],World.ownsRow_nil _ _ _ _,rfl,by intro i r x hr;simp at hr,nR9 _,by rw[List.drop_zero,qck]⟩
 unfold maxLen at hlc hnc
 clear hD hL hE hT;have noOps:∀ W:World,Ops (fun b=>w.heap.size≤b) W 2501 (.slice none 0 0) []:=fun W=>⟨none,0,rfl,nR9 _,nZ9 _,fun h=>absurd rfl h⟩
 have HNO:Hid _:=noOps;clear noOps
 go_enter Tryz.func25,Tryz.ntmps25
 go_wp2_with fail
 go_loopg [15,6] ls.length (fun g i u wr=>∃ (k:Nat) (v:Value),k+g=ls.length∧i=.int .i64 k∧v=u∧ChI w ns (.slice na ns.length nc) ls k v wr)
 case atStart => exact ⟨0,_,by omega,rfl,rfl,HI0.out⟩
 case round =>
  clear HI0;obtain ⟨k,v,hk,rfl,hvu,hA⟩:=hrel;subst hvu;have HB:Hid _:=hA.below;have HBX:Hid _:=hA.box;obtain ⟨acc,rs,hrow,hrl,hraw,hal,hst⟩:=hA.rest;have HRW:Hid _:=hrow;have HRR:Hid _:=hraw;have HST:Hid _:=hst;clear hrow hraw hst hA
  by_cases hlt:k<ls.length
  · have hlti : (k : Int) < (ls.length : Int) := by omega
    obtain ⟨s,hs⟩:∃ s,ls[k]?=some s:=⟨ls[k],by simp[hlt]⟩
    have hdr:ls.drop k=s::ls.drop (k+1):=by
     rw[List.drop_eq_getElem_cons hlt];congr 1;simpa[hlt] using hs
    rw[hdr]at HST
    obtain ⟨b1,o1,c1,hv1,_,_,e1⟩:=(Strs.later HL.out HB.out).at hs
    injection hv1 with hv1 hv1l hv1c
    subst hv1 hv1c;clear hv1l;have hsz:=HT.out s (List.mem_of_getElem? hs)
    have HLN:Hid (Calls Tryz.prog 36 #[.string s] wr fun e w'=>xU s.data.toList wr e w'):=by
     have:=qcs s.data.toList wr (HEV.out wr HB.out) (by rw[yI];unfold maxLen at hsz;omega)
     rw[Ym]at this
     exact this
    clear hs hdr hsz;go_wp2_with fail;refine Calls.mono HLN.out ?_;rintro e w1 ⟨a1,cc1,vs1,rfl,htg,hT1,hS1,hb1⟩;obtain ⟨sa,sc,rfl,_,_⟩:=hS1.shape;have HNM:Hid _:=VE s.data.toList;obtain ⟨Q,hQ⟩:∃ Q,qT s.data.toList=Q:=⟨_,rfl⟩
    have HCC:Hid (Q.2.2=0→Zn ns Q.2.1=0→Qh ns Q.2.1≠[]→qL ns (s::ls.drop (k+1))=xj (Ye Q.1 (Qh ns Q.2.1)) (qL ns (ls.drop (k+1)))):=by
     rw[←hQ];exact qb3
    have HC1:Hid (Q.2.2≠0→qL ns ls=([],Q.2.2)):=by
     intro h;rw[HST.out,qL,hQ,if_pos h];unfold xj;rw[if_pos h]
    have HC2:Hid (Q.2.2=0→Zn ns Q.2.1≠0→qL ns ls=([],Zn ns Q.2.1)):=by
     intro h h2;rw[HST.out,qL,hQ,if_neg (by simpa using h),if_pos h2];unfold xj;rw[if_pos h2]
    have HC3:Hid (Q.2.2=0→Zn ns Q.2.1=0→Qh ns Q.2.1=[]→qL ns ls=([],3)):=by
     intro h h2 h3;rw[HST.out,qL,hQ,if_neg (by simpa using h),if_neg (by simpa using h2),if_pos h3];unfold xj;rw[if_pos (by decide)]
    rw[hQ]at htg hT1 hS1 HNM ⊢
    clear hQ HLN;obtain ⟨o,st,le⟩:=Q;simp only at htg hT1 hS1 HNM HCC HC1 HC2 HC3 ⊢
    have hb2:=Below.alloc1 w1 (.cells #[.int .i64 o.kind,.int .i64 0,.slice a1 o.content.length cc1,.string o.name,.string o.s] 94);have hb12:=hb1.trans (hb2.mono hb1.size);have HO2:Hid _:=heap_alloc_new w1 (.cells #[.int .i64 o.kind,.int .i64 0,.slice a1 o.content.length cc1,.string o.name,.string o.s] 94);have HT1:Hid (qa (fun b=>wr.heap.size≤b∧b<w1.heap.size) (w1.alloc (.cells #[.int .i64 o.kind,.int .i64 0,.slice a1 o.content.length cc1,.string o.name,.string o.s] 94)) 2501 (.slice a1 o.content.length cc1) o.content):=qa.carry (fun b hb=>⟨hb,hb2.block b hb.2⟩) _ (qa.bounded _ hT1)
    have HT2:Hid True:=trivial;have HOV:Hid (∀ z,v.ownBlock=some z→w.heap.size+1≤z∧z<wr.heap.size):=fun z hz=>World.ownsRow.lt HRW.out z hz
    have HS2:Hid _:=zJ.later hS1 hb2;have hB2:=HB.out.trans (hb12.mono HB.out.size);have HBX2:Hid _:=(hb12.block _ (qe HBX.out)).trans HBX.out;have HRW2:Hid _:=qm HRW.out hb12;have x2:(w1.alloc (.cells #[.int .i64 o.kind,.int .i64 0,.slice a1 o.content.length cc1,.string o.name,.string o.s] 94)).cell? ⟨w.heap.size,0,none⟩=some (.slice na ns.length nc):=by rw[cH9 HBX2.out];rfl
    have hs12:wr.heap.size≤(w1.alloc (.cells #[.int .i64 o.kind,.int .i64 0,.slice a1 o.content.length cc1,.string o.name,.string o.s] 94)).heap.size:=hb12.size;have HB12:Hid _:=hb12;have hw1:wr.heap.size≤w1.heap.size:=hb1.size;have hw12:w1.heap.size≤(w1.alloc (.cells #[.int .i64 o.kind,.int .i64 0,.slice a1 o.content.length cc1,.string o.name,.string o.s] 94)).heap.size:=hb2.size;have hwr0:w.heap.size<wr.heap.size:=qe HBX.out;clear hT1 hS1 hb1 hb2 HBX HRW e1 hb12
    by_cases hle:le=0
    case neg =>
     have hleb:(le==0)=false:=by simpa using hle
     have HE:Hid _:=HC1.out hle;clear HC1 HC2 HC3 HCC hle;go_wp2_with fail
     go_ret2
     exact ⟨.slice none 0 0,by rw[HE.out];rfl,by rw[HE.out];exact HNO.out _,hB2⟩
    case pos =>
     subst hle;have HSL:Hid _:=VT (fun b=>b<(w1.alloc (.cells #[.int .i64 o.kind,.int .i64 0,.slice a1 o.content.length cc1,.string o.name,.string o.s] 94)).heap.size) _ _ ns st _ ⟨(HD.out.later hB2).nodes.carry fun b hb=>⟨(HD.out.later hB2).here b hb,rfl⟩,fun b hb=>hb,HD.out.few,HD.out.short⟩ ((zJ.bounded HS2.out).carry fun b hb=>⟨hb.2,rfl⟩) HNM.out
     go_wp2_with fail
     generalize w1.alloc (.cells #[.int .i64 o.kind,.int .i64 0,.slice a1 o.content.length cc1,.string o.name,.string o.s] 94)=W2 at *
     refine Calls.mono HSL.out ?_;rintro e w3 ⟨v3,rfl,hI3,hb3⟩;obtain ⟨ia,ic,rfl,_,hic⟩:=hI3.shape;have HI3:Hid _:=hI3;have hB3:=hB2.trans (hb3.mono hB2.size);have HO3:Hid _:=(hb3.block _ (qe HO2.out)).trans HO2.out;have hsl:(Qh ns st).length≤80:=qdV;obtain ⟨E,hE⟩:∃ E,Zn ns st=E:=⟨_,rfl⟩;obtain ⟨D,hD⟩:∃ D,Qh ns st=D:=⟨_,rfl⟩;rw[hE]at HCC HC2 HC3 ⊢
     rw[hD]at HCC HC3 HI3 hsl ⊢
     clear hE hD HSL hI3
     by_cases hE0:E=0
     case neg =>
      have hEb:(E==0)=false:=by simpa using hE0
      have HE:Hid _:=HC2.out (by trivial) hE0
      clear HC1 HC2 HC3 HCC hE0;go_wp2_with fail
      go_ret2
      exact ⟨.slice none 0 0,by rw[HE.out];rfl,by rw[HE.out];exact HNO.out _,hB3⟩
     case pos =>
      subst hE0
      by_cases hD0:D=[]
      · have HE : Hid _ := HC3.out (by trivial) (by trivial) hD0
        subst hD0;clear HC1 HC2 HC3 HCC;go_wp2_with fail
        go_ret2
        exact ⟨.slice none 0 0,by rw[HE.out];rfl,by rw[HE.out];exact HNO.out _,hB3⟩
      · have hDl : 0 < D.length := List.length_pos_iff.2 hD0;have hDb:((D.length:Int)==0)=false:=beq_eq_false_iff_ne.2 (by omega)
        have HE:Hid _:=HCC.out (by trivial) (by trivial) hD0
        have z0:w3.cell? ⟨w1.heap.size,0,none⟩=some (.int .i64 o.kind):=by rw[cH9 HO3.out];rfl
        have z1:w3.cell? ⟨w1.heap.size,1,none⟩=some (.int .i64 0):=by rw[cH9 HO3.out];rfl
        have z2:w3.cell? ⟨w1.heap.size,2,none⟩=some (.slice a1 o.content.length cc1):=by rw[cH9 HO3.out];rfl
        have z3:w3.cell? ⟨w1.heap.size,3,none⟩=some (.string o.name):=by rw[cH9 HO3.out];rfl
        have z4:w3.cell? ⟨w1.heap.size,4,none⟩=some (.string o.s):=by rw[cH9 HO3.out];rfl
        have HAM:Hid (Calls Tryz.prog 38 #[.agg #[.int .i64 o.kind,.int .i64 0,.slice a1 o.content.length cc1,.string o.name,.string o.s],.slice ia D.length ic] w3 fun e w'=>∃ v,e=.returned v∧w'.ownsRow w3.heap.size 94 5 v D.length (qB (xx o a1 cc1 D))∧Below w3.heap.size w3 w'):=by
         have:=qaF _ o a1 cc1 _ D w3 HI3.out (by omega)
         rw[htg]at this
         exact this
        clear HC1 HC2 HC3 HCC;go_wp2_with fail;refine Calls.mono HAM.out ?_;rintro e w4 ⟨v4,rfl,hw4,hb4⟩;have hB4:=hB3.trans (hb4.mono hB3.size)
        obtain ⟨g4,cap4,rfl,hg4a,hg4b⟩:∃ g cap,v4=.slice (some ⟨g,0,none⟩) D.length cap∧w3.heap.size≤g∧g<w4.heap.size:=by
         rcases hw4.2 with ⟨_,h0⟩|⟨g,cap,cur,rfl,hg,hh,hc,hm,hs,ht⟩
         · omega
         · exact ⟨g,cap,rfl,hg,qe hh⟩
        have hb24:=hb3.trans (hb4.mono hb3.size);have HRW4:Hid _:=qm HRW2.out hb24;have HBX4:Hid _:=(hb24.block _ (qe HBX2.out)).trans HBX2.out;have hcl:=zE (xx o a1 cc1 D);have hal2:(xx o a1 cc1 D).length=D.length:=List.length_map _
        have HCE:Hid (∀ j u,(qB (xx o a1 cc1 D))[j]?=some u→w4.cell? ((⟨g4,0,none⟩:Addr).add j)=some u):=by
         intro j u hj;have hjl:=qh hj;rw[Addr.add_lit,Nat.zero_add,World.ownsRow.cellAt hw4 j (by omega)]
         exact hj
        have H1C:Hid (∀ u∈qB (xx o a1 cc1 D),u.oneCell'=true):=by
         intro u hu;obtain ⟨r,hr,hu⟩:=List.mem_flatMap.1 hu;exact Yv r u hu
        have HRAW:Hid (∀ (i:Nat) r x,(rs++xx o a1 cc1 D)[i]?=some r→(acc++Ye o D)[i]?=some x→Y7 (fun b=>(w.heap.size+1≤b∧b<wr.heap.size∧v.ownBlock≠some b)∨(wr.heap.size≤b∧b<w1.heap.size)) w4 2501 r x):=by
         have hbr4:Below wr.heap.size wr w4:=HB12.out.trans (hb24.mono hs12);intro i r x hr hx
         by_cases hil:i<rs.length
         · rw[List.getElem?_append_left hil]at hr
           rw[List.getElem?_append_left (by omega)]at hx
           exact (HRR.out i r x hr hx).carry fun b hb=>⟨Or.inl hb,hbr4.block b hb.2.1⟩
         · rw[List.getElem?_append_right (by omega)]at hr
           rw[List.getElem?_append_right (by omega),←hrl]at hx
           refine (qdc (T:=fun b=>wr.heap.size≤b∧b<w1.heap.size) D ?_ _ r x hr hx).carry (fun b hb=>⟨Or.inr hb,rfl⟩)
           exact qa.carry (fun b hb=>⟨hb,hb24.block b (by have:=hb.2;omega)⟩) _ HT1.out
        have hszA:w.heap.size+1≤w4.heap.size:=by have:=qe HBX4.out;omega
        have hov:∀ z,v.ownBlock=some z→w.heap.size+1≤z∧z<wr.heap.size:=fun z hz=>HOV.out z hz
        have HOV4:Hid _:=hov;have hsz14:w1.heap.size≤w4.heap.size:=Nat.le_trans hw12 hb24.size;have hszr4:wr.heap.size≤w4.heap.size:=by omega
        clear hw4 hb4 hb3 hb24 HRW2 HBX2 HO2 HO3 HT2 HS2 HI3 HAM z0 z1 z2 z3 z4 hov HNM x2;go_wp2_with (at_builtin;refine wpList_append_own_at _ rfl _ _ 70 rfl (w.heap.size+1) 94 i0 _ 5 72 Tryz.underlying70 hi hz0 hz1 hz2 rfl (by decide) v acc.length (qB rs) rfl ?qc0 ⟨g4,0,none⟩ D.length cap4 (qB (xx o a1 cc1 D)) rfl ?qc1 ?qc2 ?qc3 ?qc4 ?qc5 ?qc6 ?_)
        case qc0 => exact HRW4.out
        case qc1 => omega
        case qc2 => exact HCE.out
        case qc3 => exact H1C.out
        case qc4 => unfold maxLen;omega
        case qc5 => omega
        case qc6 => exact hszA
        intro v5 W5 hown hgr _ hob
        have HI5:Hid (ChI w ns (.slice na ns.length nc) ls (k+1) v5 W5):=by
         have hB5:Below (w.heap.size+1) w4 W5:=(Below.refl _ _).grown hgr hszA (fun z hz=>(HOV4.out z hz).1)
         refine ⟨hB4.trans (hB5.mono (by omega)),(hB5.block _ (by omega)).trans HBX4.out,acc++Ye o D,rs++xx o a1 cc1 D,?_,?_,?_,?_,?_⟩
         · have : qB (rs ++ xx o a1 cc1 D) = qB rs ++ qB (xx o a1 cc1 D) := List.flatMap_append;rw[this,List.length_append,show (Ye o D).length=D.length from List.length_map _]
           exact hown
         · rw[List.length_append,List.length_append,hrl,hal2,show (Ye o D).length=D.length from List.length_map _]
         · intro i r x hr hx;refine (HRAW.out i r x hr hx).carry fun b hb=>?_
           have hbl:b<w4.heap.size:=by rcases hb with hb|hb<;>omega
           have hne:v.ownBlock≠some b:=by
            rcases hb with hb|hb
            · exact hb.2.2
            · intro he;have:=(HOV4.out b he).2;omega
           refine ⟨⟨by rcases hb with hb|hb;exact hb.1;have:=hB2.size;omega,Nat.lt_of_lt_of_le hbl hgr.size,?_⟩,hgr.block b hbl (fun e=>hne e.symm)⟩
           rcases hob with h|h
           · rw[h];exact hne
           · rw[h];intro e;injection e with e;omega
         · rw[List.length_append,show (Ye o D).length=D.length from List.length_map _];omega
         · rw[HST.out,HE.out,qa4]
        clear hown hgr hob HRAW HCE H1C HRW4 HBX4 HE HST HOV4;go_wp2_with fail
        go_roundg (ls.length-(k+1))
        case measure => omega
        case rel => exact ⟨k+1,v5,by omega,by go_num,rfl,HI5.out⟩
  · have hlti : ¬ ((k : Int) < (ls.length : Int)) := by omega
    have hkk:k=ls.length:=by omega
    subst hkk
    have HE:Hid (qL ns ls=(acc,0)):=by
     show _=_
     rw[HST.out,List.drop_length];unfold xj qL;simp
    go_wp2_with fail
    go_ret2
    refine ⟨v,by rw[HE.out];rfl,?_,HB.out⟩
    rw[HE.out];obtain ⟨a',c',h1,h2,h3,h4⟩:=KI HRW.out hrl HRR.out;refine ⟨a',c',h1,h2,h3,fun hne=>?_⟩
    obtain ⟨b',o',q1,q2,q3⟩:=h4 hne;refine ⟨b',o',q1,?_,fun i x hx=>?_⟩
    · have := (World.ownsRow.lt HRW.out b' q2).1;omega
    · obtain ⟨ca', cc', d0, d1, d2, d3, d4, dT⟩ := q3 i x hx;exact ⟨ca',cc',d0,d1,d2,d3,d4,qa.carry (fun b hb=>⟨by have:=hb.1;omega,rfl⟩) _ dT⟩
end
section
attribute [local go_sem] qd
structure Sto (S:Nat→Prop) (w:World) (sb:Nat) (ns:List Nd) (n:Nat):Prop where
 here:∀ b,S b→b<w.heap.size∧b≠sb
 good:qr ns=true
 box:∃ a c,w.heap[sb]?=some (.cells #[.slice a ns.length c,.int .i64 (n:Int)] 53 (0,0))∧qu S w (.slice a ns.length c) ns∧c≤maxLen
theorem Q8 {ns:List Nd}(hg:qr ns=true):(∀ x∈ns,x.attrs.length≤4398046511104)∧j7 ns:=by
 refine ⟨fun x hx=>Nat.le_trans ((jA hg).2 x hx).2 (by omega),fun x hx=>⟨Nat.le_trans (YC hg x hx) (by unfold maxLen;omega),fun y hy=>?_⟩⟩
 obtain ⟨n,hn⟩:=List.mem_iff_getElem?.1 hx;obtain ⟨d,T,u,fs,hz⟩:=Ya hg (qh hn);obtain ⟨x',hx',e1,_,e3⟩:=hz.get;rw[hn]at hx'
 obtain rfl:=Option.some.inj hx';rw[e3]at hy
 have hr:=hz.right;cases ht:u.text with
 | true =>
   unfold qw at hr
   rw[ht]at hr
   simp at hr
   rw[hr.1.2]at hy
   cases hy
 | false =>
   have hA:=(jg hr ht).2;have key:=(QK hA).2 y hy;exact ⟨Nat.le_trans (Zi key.1) (by unfold maxLen;omega),Nat.le_trans (Zm key.2) (by unfold maxLen;omega)⟩
theorem Sto.doc {S:Nat→Prop}{w:World}{sb n:Nat}{ns:List Nd}(h:Sto S w sb ns n){a:Option Addr}{c:Nat}(hN:qu S w (.slice a ns.length c) ns):QG S w (.slice a ns.length c) ns :=
 ⟨hN,fun b hb=>(h.here b hb).1,(Q8 h.good).1,(Q8 h.good).2⟩
theorem Sto.keep {S:Nat→Prop}{w w':World}{sb n:Nat}{ns:List Nd}(h:Sto S w sb ns n)(hs:w.heap.size≤w'.heap.size)(hb:∀ b,S b∨b=sb→w'.heap[b]?=w.heap[b]?):Sto S w' sb ns n:=by
 obtain ⟨a,c,h1,h2,h3⟩:=h.box;exact ⟨fun b hb=>⟨Nat.lt_of_lt_of_le (h.here b hb).1 hs,(h.here b hb).2⟩,h.good,a,c,(hb sb (Or.inr rfl)).trans h1,h2.carry fun b hb'=>⟨hb',hb b (Or.inl hb')⟩,h3⟩
theorem Sto.later {S:Nat→Prop}{w w':World}{sb n:Nat}{ns:List Nd}(h:Sto S w sb ns n)(hb:Below w.heap.size w w'):Sto S w' sb ns n:=by
 obtain ⟨a,c,h1,_⟩:=h.box;refine h.keep hb.size fun b hb'=>hb.block b ?_
 rcases hb' with hb'|rfl
 · exact (h.here b hb').1
 · exact qe h1
def Qv (B g:Nat)(W:World)(k:Nat)(v:Value):Prop :=
 ∃ a n c,v=.slice a n c∧n≤c∧c≤maxLen∧(0<n→∃ b cur T,a=some ⟨b,0,none⟩∧B≤b∧b≠g∧W.heap[b]?=some (.cells cur T (0,0))∧n*k≤cur.size)
theorem ZS {W:World}{b:Nat}{cur:Array Value}{T:TypeId}(h:W.heap[b]?=some (.cells cur T (0,0)))(p:Addr)(v:Value):∃ cur',(W.setCell p v).heap[b]?=some (.cells cur' T (0,0))∧cur'.size=cur.size:=by
 by_cases hp:p.block=b
 · subst hp;exact ⟨if p.spot.isSome then cur else cur.setIfInBounds p.off v,by simp[World.setCell,Array.getElem?_modify,h],by split<;>simp⟩
 · exact ⟨cur,by simp[World.setCell,Array.getElem?_modify,hp,h],rfl⟩
theorem Qv.set {B g:Nat}{W:World}{k:Nat}{v:Value}(h:Qv B g W k v)(p:Addr)(x:Value):Qv B g (W.setCell p x) k v:=by
 obtain ⟨a,n,c,h1,h2,h3,h4⟩:=h;refine ⟨a,n,c,h1,h2,h3,fun hn=>?_⟩
 obtain ⟨b,cur,T,e1,e2,e3,e4,e5⟩:=h4 hn;obtain ⟨cur',f1,f2⟩:=ZS e4 p x;exact ⟨b,cur',T,e1,e2,e3,f1,by rw[f2];exact e5⟩
theorem Qv.later {B g:Nat}{W W':World}{k:Nat}{v:Value}(h:Qv B g W k v)(hb:Below W.heap.size W W'):Qv B g W' k v:=by
 obtain ⟨a,n,c,h1,h2,h3,h4⟩:=h;refine ⟨a,n,c,h1,h2,h3,fun hn=>?_⟩
 obtain ⟨b,cur,T,e1,e2,e3,e4,e5⟩:=h4 hn;exact ⟨b,cur,T,e1,e2,e3,(hb.block b (qe e4)).trans e4,e5⟩
theorem Qv.of_row {B B' g:Nat}{W:World}{t:TypeId}{k n:Nat}{v:Value}{xs:List Value}(h:W.ownsRow B' t k v n xs)(hB:B≤B')(hg:g<B'):Qv B g W k v:=by
 rcases h.2 with ⟨rfl,_⟩|⟨b,cap,cur,rfl,h1,h2,h3,h4,h5,_⟩
 · exact ⟨none,0,0,rfl,nR9 _,nZ9 _,fun h=>by omega⟩
 · exact ⟨_,n,cap,rfl,h3,h4,fun _=>⟨b,cur,t,rfl,Nat.le_trans hB h1,by omega,h2,by rw[h5];exact Nat.mul_le_mul_right k h3⟩⟩
structure DcI (w:World) (v:Value) (ns:List Nd) (i:Nat) (ms:List Rw) (wr:World):Prop where
 below:Below w.heap.size w wr
 res:wr.heap[w.heap.size]?=some (.cells #[.slice none 0 0] 29 (0,0))
 len:ms.length=ns.length
 row:wr.ownsRow (w.heap.size+1) 42 5 v ns.length (rawCells ms)
 each:∀ (j:Nat) r x,ms[j]?=some r→ns[j]?=some x→(j<i→jU (fun b=>w.heap.size+1≤b∧b<wr.heap.size∧v.ownBlock≠some b) wr r x)∧(i≤j→jU (fun b=>b<w.heap.size) wr r x)
 own:∀ (g:Nat) (j:Nat) r,v.ownBlock=some g→ms[j]?=some r→j<i→Qv (w.heap.size+1) g wr 2 r.va∧Qv (w.heap.size+1) g wr 1 r.vk
theorem qbh {B:Nat}{T:Nat→Prop}{w:World}{v:Value}{ns:List Nd}{ms:List Rw}(h:w.ownsRow B 42 5 v ns.length (rawCells ms))(hl:ms.length=ns.length)(hr:∀ (j:Nat) r x,ms[j]?=some r→ns[j]?=some x→jU T w r x)(hT:∀ b,T b→B≤b):qu (fun b=>B≤b) w v ns:=by
 have h0:=h
 rcases h.2 with ⟨rfl,hz⟩|⟨g,cap,cur,rfl,hB,hg,hc,hm,hs,ht⟩
 · have : ns = [] := List.eq_nil_of_length_eq_zero hz;subst this;exact ⟨none,0,rfl,nR9 _,nZ9 _,fun hne=>absurd rfl hne⟩
 · refine ⟨_, cap, rfl, hc, hm, fun _ => ⟨g, 0, rfl, hB, fun i x hx => ?_⟩⟩
   have hi:=qh hx;obtain ⟨r,hri⟩:∃ r,ms[i]?=some r:=⟨ms[i]'(by omega),List.getElem?_eq_getElem (by omega)⟩
   obtain ⟨e1,e2,e3,hA,hK⟩:=hr i r x hri hx;obtain ⟨g0,g1,g2,g3,g4⟩:=zf ms i r hri
   have cell:∀ c,c<5→w.cell? ⟨g,0+i*5+c,none⟩=(rawCells ms)[i*5+c]?:=fun c hc=>by
    rw[Nat.zero_add];exact World.ownsRow.cellAt h0 (i*5+c) (by omega)
   refine ⟨r.va,r.vk,?_,?_,?_,?_,?_,hA.carry fun b hb=>⟨hT b hb,rfl⟩,hK.carry fun b hb=>⟨hT b hb,rfl⟩⟩
   · rw[←e1,←g0];exact cell 0 (by omega)
   · rw[←e2,←g1];exact cell 1 (by omega)
   · rw[←g2];exact cell 2 (by omega)
   · rw[←e3,←g3];exact cell 3 (by omega)
   · rw[←g4];exact cell 4 (by omega)
theorem yu.attrsIn {B:Nat}{w:World}{v:Value}{l:List (ByteArray × ByteArray)}(h:yu B w v l):qj (fun b=>B≤b∧b<w.heap.size) w v l:=by
 rcases id h.2 with ⟨hv,h0⟩|⟨g,cap,cur,hv,hB,hh,hc,hm,_⟩
 · have : l = [] := List.eq_nil_of_length_eq_zero h0;subst this;exact ⟨none,0,hv,nR9 _,nZ9 _,fun hne=>absurd rfl hne⟩
 · have hrow := h;unfold yu at hrow
   subst hv;refine ⟨_,cap,rfl,hc,hm,fun _=>⟨g,0,rfl,⟨hB,qe hh⟩,fun i x hx=>?_⟩⟩
   have hi:=qh hx;obtain ⟨g0,g1⟩:=zU l i x hx;exact ⟨by rw[Nat.zero_add,World.ownsRow.cellAt hrow (i*2) (by omega),g0],by rw[Nat.zero_add,World.ownsRow.cellAt hrow (i*2+1) (by omega),g1]⟩
theorem DcI.step {w:World}{g cap:Nat}{ns:List Nd}{i:Nat}{ms:List Rw}{W Wa Wc:World}{va vk:Value}{r:Rw}{x:Nd}(h:DcI w (.slice (some ⟨g,0,none⟩) ns.length cap) ns i ms W)(hr:ms[i]?=some r)(hx:ns[i]?=some x)
 (hA:yu W.heap.size Wa va x.attrs) (ha:Below W.heap.size W Wa) (hK:qE Wa.heap.size Wc vk x.kids) (hc:Below Wa.heap.size (Wa.setCell ⟨g,i*5+2,none⟩ va) Wc) (he:r.text=x.text∧r.s=x.s∧r.par=x.parent) :
 DcI w (.slice (some ⟨g,0,none⟩) ns.length cap) ns (i+1) (ms.set i { r with va:=va,vk:=vk }) (Wc.setCell ⟨g,i*5+4,none⟩ vk):=by
 obtain ⟨hgB,hgl⟩:=h.row.lt g rfl;have hwl:=qe h.res;have hsa:=ha.size;have hsc:=hc.size;have hss:(Wa.setCell ⟨g,i*5+2,none⟩ va).heap.size=Wa.heap.size:=by simp
 have hsd:(Wc.setCell ⟨g,i*5+4,none⟩ vk).heap.size=Wc.heap.size:=by simp
 have him:i<ms.length:=qh hr
 have old:∀ b,b<W.heap.size→b≠g→(Wc.setCell ⟨g,i*5+4,none⟩ vk).heap[b]?=W.heap[b]?:=fun b hb hne=>by
  rw[qb hne,hc.block b (by omega),qb hne,ha.block b hb]
 have rowa:Wa.ownsRow (w.heap.size+1) 42 5 (.slice (some ⟨g,0,none⟩) ns.length cap) ns.length (rawCells ms):=qm h.row ha;have rowb:=(rowa.stored (i*5+2) va).1
 have rowc:Wc.ownsRow (w.heap.size+1) 42 5 (.slice (some ⟨g,0,none⟩) ns.length cap) ns.length ((rawCells ms).set (i*5+2) va):=qk rowb (fun b hb=>by
  have:g=b:=by injection hb
  subst this;exact hc.block g (by omega))
 have rowd:=(rowc.stored (i*5+4) vk).1
 have ecell:((rawCells ms).set (i*5+2) va).set (i*5+4) vk=rawCells (ms.set i { r with va:=va,vk:=vk }):=by
  have e1:=xe ms i r va hr;have hr2:(ms.set i { r with va:=va })[i]?=some { r with va:=va }:=List.getElem?_set_self him
  have e2:=yA (ms.set i { r with va:=va }) i { r with va:=va } vk hr2
  rw[←e1,←e2,List.set_set]
 rw[ecell]at rowd
 have hBd:Below w.heap.size w (Wc.setCell ⟨g,i*5+4,none⟩ vk):=by
  have s1:Below w.heap.size w Wa:=h.below.trans (ha.mono h.below.size);have s2:=s1.setCell (p:=⟨g,i*5+2,none⟩) (by show w.heap.size≤g;omega) va
  have s3:=s2.trans (hc.mono (Nat.le_trans h.below.size hsa));exact s3.setCell (p:=⟨g,i*5+4,none⟩) (by show w.heap.size≤g;omega) vk
 have hob:∀ b,(Value.slice (some ⟨g,0,none⟩) ns.length cap).ownBlock≠some b→b≠g:=fun b hb e=>hb (by rw[e];rfl)
 have hbo:∀ b,b≠g→(Value.slice (some ⟨g,0,none⟩) ns.length cap).ownBlock≠some b:=fun b hb e=>hb (by injection e with e;exact e.symm)
 refine ⟨hBd,(old _ hwl (by omega)).trans h.res,by rw[List.length_set];exact h.len,rowd,fun j q y hq hy=>?_,fun g' j q hg' hq hj=>?_⟩
 rotate_left
 · have : g' = g := by injection hg' with e;exact e.symm
   subst this
   by_cases hji:j=i
   · subst hji;rw[List.getElem?_set_self him]at hq
     obtain rfl:=Option.some.inj hq;exact ⟨(((Qv.of_row hA (by omega) hgl).set _ _).later (by rw[hss];exact hc)).set _ _,(Qv.of_row hK (by omega) (by omega)).set _ _⟩
   · rw[List.getElem?_set_ne (fun e => hji e.symm)]at hq
     obtain ⟨o1,o2⟩:=h.own g' j q hg' hq (by omega)
     exact ⟨((((o1.later ha).set _ _).later (by rw[hss];exact hc)).set _ _),((((o2.later ha).set _ _).later (by rw[hss];exact hc)).set _ _)⟩
 by_cases hji:j=i
 · subst hji;rw[List.getElem?_set_self him]at hq
   obtain rfl:=Option.some.inj hq;rw[hx]at hy
   obtain rfl:=Option.some.inj hy;refine ⟨fun _=>⟨he.1,he.2.1,he.2.2,?_,?_⟩,fun hh=>by omega⟩
   · refine (yu.attrsIn hA).carry fun b hb => ?_
     have hne:b≠g:=by omega
     exact ⟨⟨by omega,by omega,hbo b hne⟩,by rw[qb hne,hc.block b hb.2,qb hne]⟩
   · refine (qE.ints hK).bounded.carry fun b hb => ?_
     have hne:b≠g:=by omega
     exact ⟨⟨by omega,by omega,hbo b hne⟩,qb hne⟩
 · rw[List.getElem?_set_ne (fun e => hji e.symm)]at hq
   obtain ⟨f1,f2⟩:=h.each j q y hq hy;refine ⟨fun hj=>(f1 (by omega)).carry fun b hb=>⟨⟨hb.1,by omega,hb.2.2⟩,old b hb.2.1 (hob b hb.2.2)⟩,fun hj=>(f2 (by omega)).carry fun b hb=>⟨hb,old b (by omega) (by omega)⟩⟩
structure K8 (w:World) (ns:List Nd) (g cap:Nat) (ms:List Rw) (w':World):Prop where
 len:ms.length=ns.length
 row:w'.ownsRow (w.heap.size+1) 42 5 (.slice (some ⟨g,0,none⟩) ns.length cap) ns.length (rawCells ms)
 each:∀ (j:Nat) r x,ms[j]?=some r→ns[j]?=some x→jU (fun b=>w.heap.size+1≤b∧b<w'.heap.size∧b≠g) w' r x
def qbK (w:World)(g:Nat)(ms:List Rw)(w':World):Prop:=∀ (j:Nat) r,ms[j]?=some r→Qv (w.heap.size+1) g w' 2 r.va∧Qv (w.heap.size+1) g w' 1 r.vk
set_option linter.unusedSimpArgs false in
set_option maxHeartbeats 2000000 in
theorem Yu (S:Nat→Prop)(sb n:Nat)(ns:List Nd)(w:World)(h:Sto S w sb ns n) :
 Calls Tryz.prog 9 #[.pointer (some ⟨sb,0,none⟩)] w fun e w'=>∃ g cap,e=.returned (.agg #[.slice (some ⟨g,0,none⟩) ns.length cap])∧(∃ ms,K8 w ns g cap ms w'∧qbK w g ms w')∧Below w.heap.size w w':=by
 obtain ⟨a,c,hbx,hN,hcm⟩:=h.box
 have hne:ns≠[]:=by
  intro e;have hg:=h.good;rw[e]at hg
  simp only[qr,Bool.and_eq_true]at hg
  have:=QN hg.1.2;simp at this
 have hbd:=jA h.good;have hN0:qu (fun b=>b<w.heap.size) w (.slice a ns.length c) ns:=hN.carry fun b hb=>⟨(h.here b hb).1,rfl⟩
 have hb0:=Below.alloc1 w (.cells #[.slice none 0 0] 29);have HR0:Hid _:=heap_alloc_new w (.cells #[.slice none 0 0] 29);have hsb:=qe hbx;have HX0:Hid _:=(hb0.block sb hsb).trans hbx;obtain ⟨a0,cap0,ms0,hv,ha0,hml,hraw,hcells,hone⟩:=(qu.later hN0 hb0).raw
 injection hv with hv1 _ hv2
 subst hv1 hv2;have hnl:0<ns.length:=List.length_pos_iff.2 hne;have hbl:=hbd.1;have HC:Hid _:=qaf (.slice a ns.length c) a ns.length c (rawCells ms0) _ rfl ha0 (by rw[zS,hml]) (by omega) hcells hone
 have HRW:Hid _:=hraw;have HBN:Hid _:=hbd;have x0:(w.alloc (.cells #[.slice none 0 0] 29)).cell? ⟨sb,0,none⟩=some (.slice a ns.length c):=by rw[cH9 HX0.out];rfl
 clear h hraw hcells hone ha0 hN hN0 hbd
 go_enter Tryz.func9,Tryz.ntmps9
 go_wp2_with fail
 generalize w.alloc (.cells #[.slice none 0 0] 29)=W0 at *
 refine (Calls.mono HC.out ?_);rintro e w1 ⟨v1,rfl,hown,hb1⟩;obtain ⟨g,cap,rfl,hcl,hcm1⟩:=yi hown hnl;have hsz0:w.heap.size+1≤W0.heap.size:=qe HR0.out
 have HI0:Hid (DcI w (.slice (some ⟨g,0,none⟩) ns.length cap) ns 0 ms0 w1):=by
  refine ⟨hb0.trans (hb1.mono hb0.size),(hb1.block _ (qe HR0.out)).trans HR0.out,hml,QD hown hsz0,fun j r x hr hx=>⟨fun hj=>by omega,fun _=>(HRW.out j r x hr hx).carry fun b hb=>⟨hb,hb1.block b (by omega)⟩⟩,fun _ _ _ _ _ hj=>by omega⟩
 unfold maxLen at hcm1
 clear hown HC HRW hb1 hb0 x0;go_wp2_with fail
 go_loopg [16] ns.length (fun gh vi wr=>∃ (i:Nat) (ms:List Rw),i+gh=ns.length∧vi=.int .i64 (i:Int)∧DcI w (.slice (some ⟨g,0,none⟩) ns.length cap) ns i ms wr)
 case atStart => exact ⟨0,ms0,by omega,rfl,HI0.out⟩
 case round =>
  clear HI0;obtain ⟨i,ms,hig,rfl,hN⟩:=hrel;have HN:Hid _:=hN;clear hN
  by_cases hlt:i<ns.length
  · have hlti : (i : Int) < (ns.length : Int) := by omega
    obtain ⟨x,hx⟩:∃ x,ns[i]?=some x:=⟨ns[i],by simp[hlt]⟩
    obtain ⟨r,hr⟩:∃ r,ms[i]?=some r:=⟨ms[i]'(by rw[HN.out.len];exact hlt),by simp⟩
    obtain ⟨hbk,hba⟩:=HBN.out.2 x (List.mem_of_getElem? hx);obtain ⟨e1,e2,e3,hAt,hKt⟩:=(HN.out.each i r x hr hx).2 (nR9 _);obtain ⟨_,_,h2,_,h4⟩:=zf ms i r hr;have c2:wr.cell? ⟨g,i*5+2,none⟩=some r.va:=by rw[World.ownsRow.cellAt HN.out.row (i*5+2) (by omega)];exact h2
    obtain ⟨cur,hcur,_,_,_,_⟩:=yz HN.out.row;obtain ⟨aa,ac,hva⟩:∃ a c,r.va=.slice a x.attrs.length c:=by obtain ⟨a,c,e,_⟩:=hAt;exact ⟨a,c,e⟩
    obtain ⟨ka,kc,hvk⟩:∃ a c,r.vk=.slice a x.kids.length c:=by obtain ⟨a,c,e,_⟩:=hKt;exact ⟨a,c,e⟩
    have HA:Hid (Calls Tryz.prog 19 #[.slice aa x.attrs.length ac] wr fun e w'=>∃ v',e=.returned v'∧(yu wr.heap.size w' v' x.attrs∧Below wr.heap.size wr w')):=by
     have:=Yo (fun b=>b<w.heap.size) r.va x.attrs wr hAt (by omega)
     rw[hva]at this
     exact this
    have hgl:=HN.out.row.lt g rfl;rw[hva]at c2
    have HCUR:Hid _:=hcur;have HVK:Hid _:=hvk;have HKT:Hid _:=hKt;have HR:Hid _:=hr;have HXX:Hid _:=hx;have HEE:Hid (r.text=x.text∧r.s=x.s∧r.par=x.parent):=⟨e1,e2,e3⟩;have H4:Hid _:=h4;clear hAt hKt hx hr h2 h4 hcur hva hvk e1 e2 e3;go_wp2_with fail;refine Calls.mono HA.out ?_;rintro e wa ⟨va,rfl,hAr,hba'⟩;have HCA:Hid _:=(hba'.block g hgl.2).trans HCUR.out;have c2a:wa.cell? ⟨g,i*5+2,none⟩=some (.slice aa x.attrs.length ac):=(hba'.cell (p:=⟨g,i*5+2,none⟩) hgl.2).trans c2;have f2a:wa.frozen? ⟨g,i*5+2,none⟩=false:=fH9 HCA.out _;obtain ⟨va1,va2,hvs⟩:∃ a c,va=.slice a x.attrs.length c:=by obtain ⟨a,c,e,_⟩:=yu.attrsIn hAr;exact ⟨a,c,e⟩
    have HVS:Hid _:=hvs;have c4w:wr.cell? ⟨g,i*5+4,none⟩=some r.vk:=by rw[World.ownsRow.cellAt HN.out.row (i*5+4) (by omega)];exact H4.out
    rw[HVK.out]at c4w
    have c4b:(wa.setCell ⟨g,i*5+2,none⟩ (.slice va1 x.attrs.length va2)).cell? ⟨g,i*5+4,none⟩=some (.slice ka x.kids.length kc):=by
     rw[World.cell?_setCell_other _ _ _ _ (x6 (by omega))]
     exact (hba'.cell (p:=⟨g,i*5+4,none⟩) hgl.2).trans c4w
    have HKC:Hid (Calls Tryz.prog 20 #[.slice ka x.kids.length kc] (wa.setCell ⟨g,i*5+2,none⟩ (.slice va1 x.attrs.length va2)) fun e w'=>∃ v',e=.returned v'∧qE wa.heap.size w' v' x.kids∧Below wa.heap.size (wa.setCell ⟨g,i*5+2,none⟩ (.slice va1 x.attrs.length va2)) w'):=by
     have:=Yp (fun b=>b<w.heap.size) r.vk x.kids (wa.setCell ⟨g,i*5+2,none⟩ (.slice va1 x.attrs.length va2)) (qW.carry HKT.out fun b hb=>⟨hb,by rw[qb (by omega)];exact hba'.block b (by have:=HN.out.below.size;omega)⟩) (by omega)
     rw[HVK.out]at this
     simp only[World.size_setCell]at this
     exact this
    have HFB:Hid ((wa.setCell ⟨g,i*5+2,none⟩ (.slice va1 x.attrs.length va2)).frozen? ⟨g,i*5+4,none⟩=false):=by
     show _=_
     rw[World.frozen?_setCell];exact fH9 HCA.out _
    have HAR:Hid _:=hAr;have HBA:Hid _:=hba';have hgla:g<wa.heap.size:=Nat.lt_of_lt_of_le hgl.2 hba'.size;subst hvs;clear hAr hba' c4w c2 HA;go_wp2_with fail;refine Calls.mono HKC.out ?_;rintro e wc ⟨vk,rfl,hKr,hbc⟩;obtain ⟨vk1,vk2,hks⟩:∃ a c,vk=.slice a x.kids.length c:=by obtain ⟨a,c,e,_⟩:=qE.ints hKr;exact ⟨a,c,e⟩
    have c4c:wc.cell? ⟨g,i*5+4,none⟩=some (.slice ka x.kids.length kc):=(hbc.cell (p:=⟨g,i*5+4,none⟩) hgla).trans c4b
    have f4c:wc.frozen? ⟨g,i*5+4,none⟩=false:=by
     have hx':wc.heap[g]?=(wa.setCell ⟨g,i*5+2,none⟩ (.slice va1 x.attrs.length va2)).heap[g]?:=hbc.block g hgla;rw[World.frozen?_of_block (a:=⟨g,i*5+4,none⟩) hx'];exact HFB.out
    have HI2:Hid _:=HN.out.step HR.out HXX.out HAR.out HBA.out hKr hbc HEE.out;subst hks;clear hKr hbc c4b HKC HFB HAR HBA c2a f2a;go_wp2_with fail
    go_roundg (ns.length-(i+1))
    case measure => omega
    case rel => exact ⟨i+1,_,by omega,by go_num,HI2.out⟩
  · have hlti : ¬ ((i : Int) < (ns.length : Int)) := by omega
    have hii:i=ns.length:=by omega
    subst hii;have r0:wr.cell? ⟨w.heap.size,0,none⟩=some (.slice none 0 0):=by rw[cH9 HN.out.res];rfl
    have f0:wr.frozen? ⟨w.heap.size,0,none⟩=false:=fH9 HN.out.res _;go_wp2_with fail;refine bodyPost_ret (v:=.agg #[.slice (some ⟨g,0,none⟩) ns.length cap]) (by simp[results,Tryz.results9,go_sem,qd,World.cell?_setCell_other,r0]) rfl ?_
    obtain ⟨hgB,hgl⟩:=HN.out.row.lt g rfl;refine ⟨g,cap,rfl,⟨_,⟨HN.out.len,qk HN.out.row (fun b hb=>?_),fun j r x hr hx=>?_⟩,fun j r hr=>?_⟩,HN.out.below.setCell (p:=⟨w.heap.size,0,none⟩) (nR9 _) _⟩
    · have : g = b := by injection hb
      subst this;exact qb (by omega)
    · refine ((HN.out.each j r x hr hx).1 (qh hx)).carry fun b hb=>⟨⟨hb.1,by simpa using hb.2.1,fun e=>hb.2.2 (by rw[e];rfl)⟩,qb (by omega)⟩
    · obtain ⟨o1, o2⟩ := HN.out.own g j r rfl hr (by have := qh hr;rw[HN.out.len]at this;exact this)
      exact ⟨o1.set _ _,o2.set _ _⟩
theorem Vk (S:Nat→Prop)(sb n:Nat)(ns:List Nd)(w:World)(h:Sto S w sb ns n) :
 Calls Tryz.prog 9 #[.pointer (some ⟨sb,0,none⟩)] w fun e w'=>∃ g cap,e=.returned (.agg #[.slice (some ⟨g,0,none⟩) ns.length cap])∧(∃ ms,K8 w ns g cap ms w')∧Below w.heap.size w w':=by
 refine (Yu S sb n ns w h).mono ?_;rintro e w' ⟨g,cap,rfl,⟨ms,hD,_⟩,hb⟩;exact ⟨g,cap,rfl,⟨ms,hD⟩,hb⟩
theorem Xt (S:Nat→Prop)(sb n:Nat)(ns:List Nd)(w:World)(h:Sto S w sb ns n) :
 Calls Tryz.prog 9 #[.pointer (some ⟨sb,0,none⟩)] w fun e w'=>∃ v,e=.returned (.agg #[v])∧qu (fun b=>w.heap.size≤b) w' v ns∧Below w.heap.size w w':=by
 refine (Vk S sb n ns w h).mono ?_;rintro e w' ⟨g,cap,rfl,⟨ms,hD⟩,hb⟩;exact ⟨_,rfl,(qbh hD.row hD.len (fun j r x hr hx=>hD.each j r x hr hx) (fun b hb=>hb.1)).carry fun b hb=>⟨by omega,rfl⟩,hb⟩
end
theorem KQ {t:Tr}(h:qw t=true):Yd t:=by
 refine ⟨Nat.le_trans (QO h) (by unfold maxLen;omega),fun y hy=>?_⟩
 cases ht:t.text with
 | true =>
   unfold qw at h
   rw[ht]at h
   simp at h
   rw[h.1.2]at hy
   cases hy
 | false =>
   have key:=(QK (jg h ht).2).2 y hy;exact ⟨Nat.le_trans (Zi key.1) (by unfold maxLen;omega),Nat.le_trans (Zm key.2) (by unfold maxLen;omega)⟩
theorem rgt_texts:∀ {n:Nat}{ts:List Tr},(∀ N,rgt N ts=true)→TextsN n ts:=by
 intro n
 induction n with
 | zero=>intro ts _;trivial
 | succ n ih =>
   intro ts h t ht;obtain ⟨h1,_⟩:=y9 _ _ (h (n+1)) t ht;refine ⟨KQ h1,ih (fun N=>?_)⟩
   obtain ⟨h3,h4⟩:=y9 _ _ (h (N+1)) t ht;cases hx:t.text with
   | true=>rw[xr h3 hx];exact xM N
   | false=>rw[hx,Bool.false_or]at h4;exact h4
theorem Qx {l:List Tr}(h:qG l=true)(n:Nat):TextsN n l:=by
 have hd:Deep 8 l:=rb_deep 8 80 l (by simpa[qG] using h)
 have h2:=h;rw[jW hd]at h2
 simp only[Bool.and_eq_true,decide_eq_true_eq]at h2
 exact rgt_texts (rgt_all hd h2.2)
theorem YD {t:Tr}(h:qS t=true)(n:Nat):TextsN n [t]:=by
 simp only[qS,Bool.and_eq_true]at h
 exact Qx h.2 n
theorem KK (s:List UInt8):(∃ c:Int,(c=1∨c=2)∧(qA s).2=c)∨(qS (qA s).1=true∧(qA s).2=0):=by
 unfold qA
 split
 · exact Or.inl ⟨2,Or.inr rfl,rfl⟩
 · split
   · exact Or.inl ⟨1,Or.inl rfl,rfl⟩
   · rename_i h
     simp only[Bool.or_eq_true,not_or,Bool.not_eq_true',Bool.not_eq_false]at h
     exact Or.inr ⟨by simpa using h.2,rfl⟩
theorem Vh (s:List UInt8):(qN s).2≠0∧(qN s).1=[]∨qG (qN s).1=true∧(qN s).2=0:=by
 unfold qN
 split
 · exact Or.inl ⟨by show (2:Int)≠0;decide,rfl⟩
 · split
   · exact Or.inl ⟨by show (1:Int)≠0;decide,rfl⟩
   · rename_i h
     simp only[Bool.or_eq_true,not_or,Bool.not_eq_true',Bool.not_eq_false]at h
     exact Or.inr ⟨by simpa using h.2,rfl⟩
section
attribute [local go_sem] qd
def Jj (w:World)(b:Nat)(v0 v1 v2:Value):World:=((w.setCell ⟨b,0,none⟩ v0).setCell ⟨b,1,none⟩ v1).setCell ⟨b,2,none⟩ v2
theorem jO {w:World}{b c:Nat}{v0 v1 v2:Value}(h:c≠b):(Jj w b v0 v1 v2).heap[c]?=w.heap[c]?:=by
 unfold Jj;rw[qb h,qb h,qb h]
theorem zB {B b:Nat}{w0 w:World}{v0 v1 v2:Value}(h:Below B w0 w)(hb:B≤b):Below B w0 (Jj w b v0 v1 v2):=by
 unfold Jj;exact ((h.setCell (p:=⟨b,0,none⟩) hb _).setCell (p:=⟨b,1,none⟩) hb _).setCell (p:=⟨b,2,none⟩) hb _
def ji (S:Nat→Prop)(sb:Nat)(w:World)(rep:Rep)(ns:List Nd)(n:Nat)(e:Ending)(w':World):Prop :=
 e=.returned (.agg #[.int .i64 rep.1,.int .i64 rep.2.1,.string rep.2.2])∧(∃ S':Nat→Prop,(∀ b,S' b→S b∨w.heap.size≤b)∧Sto S' w' sb ns n)∧CFr sb w w'
theorem zq {S:Nat→Prop}{sb n:Nat}{ns:List Nd}{w w':World}(rep:Rep)(h:Sto S w sb ns n)(hb:Below w.heap.size w w'):ji S sb w rep ns n (.returned (.agg #[.int .i64 rep.1,.int .i64 rep.2.1,.string rep.2.2])) w' :=
 ⟨rfl,⟨S,fun _ hb=>Or.inl hb,h.later hb⟩,CFr.later hb⟩
theorem Yt {S:Nat→Prop}{sb n:Nat}{ns ns':List Nd}{w W:World}(rep:Rep)(h:Sto S w sb ns n)(hb:Below w.heap.size w W){S':Nat→Prop}(hS':∀ b,S' b→(S b∨w.heap.size≤b)){a:Option Addr}{c:Nat}(hN:qu S' W (.slice a ns'.length c) ns')(hc:c≤maxLen)(hg:qr ns'=true){R:Nat}(hR:w.heap.size≤R){v0 v1 v2:Value}(hSR:∀ b,S' b→b≠R) :
 ji S sb w rep ns' n (.returned (.agg #[.int .i64 rep.1,.int .i64 rep.2.1,.string rep.2.2])) (Jj (W.setCell ⟨sb,0,none⟩ (.slice a ns'.length c)) R v0 v1 v2):=by
 obtain ⟨a0,c0,hbx,_,_⟩:=h.box;have hsl:=qe hbx;have hsw:w.heap.size≤W.heap.size:=hb.size;have hbx1:W.heap[sb]?=_:=(hb.block sb hsl).trans hbx
 have hset:(W.setCell ⟨sb,0,none⟩ (.slice a ns'.length c)).heap[sb]?=some (.cells #[.slice a ns'.length c,.int .i64 (n:Int)] 53 (0,0)):=by
  simp[World.setCell,Array.getElem?_modify,hbx1]
 have hne:∀ b,S' b→b≠sb:=fun b hb'=>by
  rcases hS' b hb' with h1|h1
  · exact (h.here b h1).2
  · omega
 have hsz:(Jj (W.setCell ⟨sb,0,none⟩ (.slice a ns'.length c)) R v0 v1 v2).heap.size=W.heap.size:=by unfold Jj;simp
 refine ⟨rfl,⟨fun b=>S' b∧b<W.heap.size,fun b hb'=>hS' b hb'.1,?_⟩,?_⟩
 · refine ⟨fun b hb' => ⟨by rw[hsz];exact hb'.2, hne b hb'.1⟩, hg, a, c, ?_, ?_, hc⟩
   · rw[jO (by omega)];exact hset
   · exact hN.bounded.carry fun b hb'=>⟨hb',by rw[jO (hSR b hb'.1),qb (hne b hb'.1)]⟩
 · have h1 : CFr sb w (W.setCell ⟨sb, 0, none⟩ (.slice a ns'.length c)) := (CFr.later hb).trans (CFr.put sb W 0 _);refine ⟨zB h1.below (nZ9 _),fun x hx hxs=>?_⟩
   rw[jO (by omega)]
   exact h1.frame x hx hxs
set_option linter.unusedSimpArgs false in
set_option maxHeartbeats 2000000 in
theorem qct (S T:Nat→Prop)(sb n:Nat)(ns:List Nd)(vl:Value)(ls:List ByteArray)(w:World)(h:Sto S w sb ns n)(hL:Strs T w vl ls)(hE:yU w)(hz:∀ s∈ls,s.size≤maxLen) :
 Calls Tryz.prog 13 #[.pointer (some ⟨sb,0,none⟩),vl] w fun e w'=>ji S sb w (QP ls ns).1 (QP ls ns).2 n e w':=by
 obtain ⟨la,lc,rfl,hll,hlc⟩:=hL.shape;have HST:Hid _:=h;have hb0:=Below.alloc1 w (.cells #[.int .i64 0,.int .i64 0,.string ⟨#[]⟩] 35);have HR0:Hid _:=heap_alloc_new w (.cells #[.int .i64 0,.int .i64 0,.string ⟨#[]⟩] 35);have HEV:Hid (∀ W,Below w.heap.size w W→yU W):=fun W hW=>hE.later hW
 have HL:Hid (Strs T w (.slice la ls.length lc) ls):=hL;unfold maxLen at hlc
 clear h hE hL
 by_cases hl1:ls.length=1
 case neg =>
  have HS:Hid (QP ls ns=(q5 1,ns)):=by
   show _=_
   match ls,hl1 with
   | [],_=>rfl
   | [_],h=>exact absurd rfl h
   | _::_::_,_=>rfl
  have hl1b:((ls.length:Int)==1)=false:=beq_eq_false_iff_ne.2 (by omega)
  rw[HS.out];clear HEV HL
  go_enter Tryz.func13,Tryz.ntmps13
  go_wp2_with fail
  generalize w.alloc (.cells #[.int .i64 0,.int .i64 0,.string ⟨#[]⟩] 35)=W0 at *
  refine Calls.mono (zM 1 W0) ?_;rintro e wr1 ⟨rfl,hbr1⟩;have HRr:Hid _:=(hbr1.block _ (qe HR0.out)).trans HR0.out;have hBr:=hb0.trans (hbr1.mono hb0.size);have r0:wr1.cell? ⟨w.heap.size,0,none⟩=some (.int .i64 0):=by rw[cH9 HRr.out];rfl
  have r1:wr1.cell? ⟨w.heap.size,1,none⟩=some (.int .i64 0):=by rw[cH9 HRr.out];rfl
  have r2:wr1.cell? ⟨w.heap.size,2,none⟩=some (.string ⟨#[]⟩):=by rw[cH9 HRr.out];rfl
  have f0:wr1.frozen? ⟨w.heap.size,0,none⟩=false:=fH9 HRr.out _;have f1:wr1.frozen? ⟨w.heap.size,1,none⟩=false:=fH9 HRr.out _;have f2:wr1.frozen? ⟨w.heap.size,2,none⟩=false:=fH9 HRr.out _;clear hbr1 HRr;go_wp2_with fail;refine bodyPost_ret (v:=.agg #[.int .i64 (1),.int .i64 0,.string ⟨#[]⟩]) (by simp[results,Tryz.results13,go_sem,qd,World.cell?_setCell_other,r0,r1,r2]) rfl ?_
  exact zq (q5 _) HST.out (zB hBr (nR9 _))
 case pos =>
  obtain ⟨s,rfl⟩:∃ s,ls=[s]:=by
   match ls,hl1 with
   | [s],_=>exact ⟨s,rfl⟩
  obtain ⟨b1,o1,c1,hv1,_,_,e1⟩:=(Strs.later HL.out hb0).at (i:=0) (x:=s) rfl
  injection hv1 with hv1 hv1l hv1c
  subst hv1 hv1c;clear hv1l hl1;simp only[List.length_cons,List.length_nil,Nat.zero_add,Nat.add_zero]at e1 hll ⊢
  have hsz:=hz s (List.mem_cons_self)
  have HP:Hid (∀ W,Below w.heap.size w W→Calls Tryz.prog 24 #[.string s] W fun e w'=>∃ va vk,e=.returned (.tuple #[.agg #[.bool (qA s.data.toList).1.text,.string (qA s.data.toList).1.s,va,vk],.int .i64 (qA s.data.toList).2])∧qj (fun b=>W.heap.size≤b) w' va (qA s.data.toList).1.attrs∧qa (fun b=>W.heap.size≤b) w' s.data.toList.length vk (qA s.data.toList).1.kids∧Below W.heap.size W w'):=by
   intro W hW;have:=qbi s.data.toList W (HEV.out W hW).marks (by rw[yI];unfold maxLen at hsz;omega)
   rw[Ym]at this
   exact this
  have hpc:=KK s.data.toList;have HS:Hid (QP [s] ns=if (qA s.data.toList).2≠0 then (q5 (qA s.data.toList).2,ns) else ((0,((ym s.data.toList.length (qA s.data.toList).1).length:Int),⟨#[]⟩),ym s.data.toList.length (qA s.data.toList).1)):=rfl
  obtain ⟨Q,hQ⟩:∃ Q,qA s.data.toList=Q:=⟨_,rfl⟩;rw[hQ]at HP HS hpc
  clear hQ hsz HEV HL hz;obtain ⟨t,E⟩:=Q;simp only at HP HS hpc
  generalize s.data.toList.length=N at *
  rcases hpc with ⟨c,hc,rfl⟩|⟨hg,rfl⟩
  · have hc0 : ¬ E = 0 := by rcases hc with rfl | rfl <;> decide
    have hcb:(E==0)=false:=by simpa using hc0
    rw[if_pos hc0]at HS
    rw[HS.out];clear hc hc0
    go_enter Tryz.func13,Tryz.ntmps13
    go_wp2_with fail
    generalize w.alloc (.cells #[.int .i64 0,.int .i64 0,.string ⟨#[]⟩] 35)=W0 at *
    refine Calls.mono (HP.out W0 hb0) ?_;rintro e w1 ⟨va,vk,rfl,hA1,hK1,hb1⟩;obtain ⟨aa,ac,rfl⟩:=hA1.shape;obtain ⟨ka,kc,rfl,_,_⟩:=qa.shape N hK1;have hb2:=Below.alloc1 w1 (.cells #[.bool t.text,.string t.s,.slice aa t.attrs.length ac,.slice ka t.kids.length kc] 51);have hb12:=hb1.trans (hb2.mono hb1.size);have hB2:=hb0.trans (hb12.mono hb0.size);have HR2:Hid _:=(hb12.block _ (qe HR0.out)).trans HR0.out;clear hA1 hK1 hb1 hb2 hb12 HP;go_wp2_with fail
    generalize w1.alloc (.cells #[.bool t.text,.string t.s,.slice aa t.attrs.length ac,.slice ka t.kids.length kc] 51)=W2 at *
    refine Calls.mono (zM E W2) ?_;rintro e wr1 ⟨rfl,hbr1⟩;have HRr:Hid _:=(hbr1.block _ (qe HR2.out)).trans HR2.out;have hBr:=hB2.trans (hbr1.mono hB2.size);have r0:wr1.cell? ⟨w.heap.size,0,none⟩=some (.int .i64 0):=by rw[cH9 HRr.out];rfl
    have r1:wr1.cell? ⟨w.heap.size,1,none⟩=some (.int .i64 0):=by rw[cH9 HRr.out];rfl
    have r2:wr1.cell? ⟨w.heap.size,2,none⟩=some (.string ⟨#[]⟩):=by rw[cH9 HRr.out];rfl
    have f0:wr1.frozen? ⟨w.heap.size,0,none⟩=false:=fH9 HRr.out _;have f1:wr1.frozen? ⟨w.heap.size,1,none⟩=false:=fH9 HRr.out _;have f2:wr1.frozen? ⟨w.heap.size,2,none⟩=false:=fH9 HRr.out _;clear hbr1 HRr;go_wp2_with fail;refine bodyPost_ret (v:=.agg #[.int .i64 (E),.int .i64 0,.string ⟨#[]⟩]) (by simp[results,Tryz.results13,go_sem,qd,World.cell?_setCell_other,r0,r1,r2]) rfl ?_
    exact zq (q5 _) HST.out (zB hBr (nR9 _))
  · rw[if_neg (by simp)]at HS
    rw[HS.out];obtain ⟨D,hD⟩:∃ D,ym N t=D:=⟨_,rfl⟩;rw[hD]
    go_enter Tryz.func13,Tryz.ntmps13
    go_wp2_with fail
    generalize w.alloc (.cells #[.int .i64 0,.int .i64 0,.string ⟨#[]⟩] 35)=W0 at *
    refine Calls.mono (HP.out W0 hb0) ?_;rintro e w1 ⟨va,vk,rfl,hA1,hK1,hb1⟩;obtain ⟨aa,ac,rfl⟩:=hA1.shape;obtain ⟨ka,kc,rfl,_,_⟩:=qa.shape N hK1;have hb2:=Below.alloc1 w1 (.cells #[.bool t.text,.string t.s,.slice aa t.attrs.length ac,.slice ka t.kids.length kc] 51);have hb12:=hb1.trans (hb2.mono hb1.size);have hB2:=hb0.trans (hb12.mono hb0.size);have HR2:Hid _:=(hb12.block _ (qe HR0.out)).trans HR0.out;have hdp:=qa.deep N hK1;have HMK:Hid _:=YJ (fun b=>b<(w1.alloc (.cells #[.bool t.text,.string t.s,.slice aa t.attrs.length ac,.slice ka t.kids.length kc] 51)).heap.size) N _ _ t _ ((qj.later hA1 hb2).bounded.carry fun b hb=>⟨hb.2,rfl⟩) (qa.carry (fun b hb=>⟨hb.2,rfl⟩) N (qa.bounded N (qa.later hb2 N hK1))) (YD hg _) (fun b hb=>hb)
    have HMG:Hid (qr (ym N t)=true):=by
     show _=_
     unfold ym;rw[if_pos hg];exact (JT hdp hg).1
    have hme:xO t=0:=by unfold xO;rw[if_pos hg]
    rw[hme]at HMK
    rw[hD]at HMK HMG
    clear hA1 hK1 hb1 hb2 hb12 HP hme hdp hg HS hD;go_wp2_with fail
    generalize w1.alloc (.cells #[.bool t.text,.string t.s,.slice aa t.attrs.length ac,.slice ka t.kids.length kc] 51)=W2 at *
    refine Calls.mono HMK.out ?_;rintro e w3 ⟨v3,rfl,hN3,hb3⟩;obtain ⟨a3,c3,rfl,_,hc3⟩:=hN3.shape;have hb4:=Below.alloc1 w3 (.cells #[.slice a3 D.length c3] 29);have hb34:=hb3.trans (hb4.mono hb3.size);have hB4:=hB2.trans (hb34.mono hB2.size);have HR4:Hid _:=(hb34.block _ (qe HR2.out)).trans HR2.out;have HN4:Hid _:=qu.later hN3 hb4;have hrw2:w.heap.size<W2.heap.size:=qe HR2.out;obtain ⟨a0,c0,hbx,_,_⟩:=HST.out.box;have hsbl:=qe hbx;have HX4:Hid _:=(hB4.block sb hsbl).trans hbx;have x4:(w3.alloc (.cells #[.slice a3 D.length c3] 29)).cell? ⟨sb,0,none⟩=some (.slice a0 ns.length c0):=by rw[cH9 HX4.out];rfl
    have xf4:(w3.alloc (.cells #[.slice a3 D.length c3] 29)).frozen? ⟨sb,0,none⟩=false:=fH9 HX4.out _;have HRs:Hid (((w3.alloc (.cells #[.slice a3 D.length c3] 29)).setCell ⟨sb,0,none⟩ (.slice a3 D.length c3)).heap[w.heap.size]?=_):=(qb (by omega)).trans HR4.out
    have HD4:Hid _:=heap_alloc_new w3 (.cells #[.slice a3 D.length c3] 29);have hd4ne:sb≠w3.heap.size:=by have:=hB4.size;have:=hb34.size;have:=hb3.size;omega
    have d4:((w3.alloc (.cells #[.slice a3 D.length c3] 29)).setCell ⟨sb,0,none⟩ (.slice a3 D.length c3)).cell? ⟨w3.heap.size,0,none⟩=some (.slice a3 D.length c3):=by
     rw[World.cell?_of_block (a:=⟨w3.heap.size,0,none⟩) (qb (fun e=>hd4ne e.symm)),cH9 HD4.out];rfl
    have r0:((w3.alloc (.cells #[.slice a3 D.length c3] 29)).setCell ⟨sb,0,none⟩ (.slice a3 D.length c3)).cell? ⟨w.heap.size,0,none⟩=some (.int .i64 0):=by rw[cH9 HRs.out];rfl
    have r1:((w3.alloc (.cells #[.slice a3 D.length c3] 29)).setCell ⟨sb,0,none⟩ (.slice a3 D.length c3)).cell? ⟨w.heap.size,1,none⟩=some (.int .i64 0):=by rw[cH9 HRs.out];rfl
    have r2:((w3.alloc (.cells #[.slice a3 D.length c3] 29)).setCell ⟨sb,0,none⟩ (.slice a3 D.length c3)).cell? ⟨w.heap.size,2,none⟩=some (.string ⟨#[]⟩):=by rw[cH9 HRs.out];rfl
    have f0:((w3.alloc (.cells #[.slice a3 D.length c3] 29)).setCell ⟨sb,0,none⟩ (.slice a3 D.length c3)).frozen? ⟨w.heap.size,0,none⟩=false:=fH9 HRs.out _;have f1:((w3.alloc (.cells #[.slice a3 D.length c3] 29)).setCell ⟨sb,0,none⟩ (.slice a3 D.length c3)).frozen? ⟨w.heap.size,1,none⟩=false:=fH9 HRs.out _;have f2:((w3.alloc (.cells #[.slice a3 D.length c3] 29)).setCell ⟨sb,0,none⟩ (.slice a3 D.length c3)).frozen? ⟨w.heap.size,2,none⟩=false:=fH9 HRs.out _;clear hN3 hb3 hb4 hb34 HR2 HMK HRs HX4 hbx;go_wp2_with fail;refine bodyPost_ret (v:=.agg #[.int .i64 0,.int .i64 (D.length:Int),.string ⟨#[]⟩]) (by simp[results,Tryz.results13,go_sem,qd,World.cell?_setCell_other,r0,r1,r2]) rfl ?_
    exact Yt (0,(D.length:Int),⟨#[]⟩) HST.out hB4 (fun b hb=>Or.inr (by omega)) HN4.out hc3 HMG.out (nR9 _) (fun b hb=>by omega)
end
section
attribute [local go_sem] qd
theorem Qc {ns:List Nd}(hg:qr ns=true):jh ns 0=(growF ns.length ns 0,0)∧qS (growF ns.length ns 0)=true:=by
 have h:=hg;simp only[qr,Bool.and_eq_true]at h
 have h0:=QN h.1.2;have hq:jj ns 0=true:=by unfold jj;simp;omega
 refine ⟨?_,h.2⟩;unfold jh;rw[hg,hq];rfl
set_option linter.unusedSimpArgs false in
set_option maxHeartbeats 2000000 in
theorem qcP (S:Nat→Prop)(sb n:Nat)(ns:List Nd)(w:World)(h:Sto S w sb ns n)(hE:yU w) :
 Calls Tryz.prog 15 #[.pointer (some ⟨sb,0,none⟩)] w fun e w'=>ji S sb w (ZJ ns) ns n e w':=by
 have HST:Hid _:=h;have hb0:=Below.alloc1 w (.cells #[.int .i64 0,.int .i64 0,.string ⟨#[]⟩] 35);have HR0:Hid _:=heap_alloc_new w (.cells #[.int .i64 0,.int .i64 0,.string ⟨#[]⟩] 35);have HEV:Hid (∀ W,Below w.heap.size w W→yU W):=fun W hW=>hE.later hW
 obtain ⟨a,c,hbx,hN,hcm⟩:=h.box;have hsl:=qe hbx
 have HX:Hid (∀ W,Below w.heap.size w W→W.cell? ⟨sb,0,none⟩=some (.slice a ns.length c)):=fun W hW=>by
  rw[cH9 ((hW.block sb hsl).trans hbx)];rfl
 have x0:=HX.out _ hb0;obtain ⟨htd,hgt⟩:=Qc h.good;have HT:Hid _:=ZP S (.slice a ns.length c) ns 0 _ ((h.doc hN).later hb0)
 have HS:Hid (ZJ ns=if (yP ns.length (growF ns.length ns 0)).2≠0 then q5 (yP ns.length (growF ns.length ns 0)).2 else (0,(ns.length:Int),(yP ns.length (growF ns.length ns 0)).1)):=by
  show _=_
  unfold ZJ;rw[htd];rfl
 rw[htd]at HT
 generalize growF ns.length ns 0=t at *
 have HPR:Hid (∀ (U:Nat→Prop) (va vk:Value) (W:World),Below w.heap.size w W→qj U W va t.attrs→qa U W ns.length vk t.kids→Calls Tryz.prog 27 #[.agg #[.bool t.text,.string t.s,va,vk]] W fun e w'=>e=.returned (.tuple #[.string (yP ns.length t).1,.int .i64 (yP ns.length t).2])∧Below W.heap.size W w') :=
  fun U va vk W hW hA hK=>KL U ns.length va vk t W hA hK (HEV.out W hW).marks (YD hgt _)
 obtain ⟨P,E,hPE⟩:∃ P E,yP ns.length t=(P,E):=⟨_,_,rfl⟩;rw[hPE]at HS HPR
 simp only at HS HPR
 unfold maxLen at hcm
 clear h hE htd hgt hbx hN hPE HEV;have main:True:=trivial;clear main
 by_cases hE0:E=0
 · subst hE0;rw[if_neg (by simp)]at HS
   rw[HS.out]
   go_enter Tryz.func15,Tryz.ntmps15
   go_wp2_with fail
   generalize w.alloc (.cells #[.int .i64 0,.int .i64 0,.string ⟨#[]⟩] 35)=W0 at *
   refine Calls.mono HT.out ?_;rintro e w1 ⟨va,vk,rfl,hA1,hK1,hb1⟩;obtain ⟨aa,ac,rfl⟩:=hA1.shape;obtain ⟨ka,kc,rfl,_,_⟩:=qa.shape ns.length hK1;have hb2:=Below.alloc1 w1 (.cells #[.bool t.text,.string t.s,.slice aa t.attrs.length ac,.slice ka t.kids.length kc] 51);have hb12:=hb1.trans (hb2.mono hb1.size);have hB2:=hb0.trans (hb12.mono hb0.size);have HR2:Hid _:=(hb12.block _ (qe HR0.out)).trans HR0.out;have HP2:Hid _:=HPR.out _ _ _ _ hB2 (qj.later hA1 hb2) (qa.later hb2 ns.length hK1);clear hA1 hK1 hb1 hb2 hb12 HT HPR HS;go_wp2_with fail
   generalize w1.alloc (.cells #[.bool t.text,.string t.s,.slice aa t.attrs.length ac,.slice ka t.kids.length kc] 51)=W2 at *
   refine Calls.mono HP2.out ?_;rintro e w3 ⟨rfl,hb3⟩;have hB3:=hB2.trans (hb3.mono hB2.size);have HR3:Hid _:=(hb3.block _ (qe HR2.out)).trans HR2.out;have x3:=HX.out w3 hB3;have r0:w3.cell? ⟨w.heap.size,0,none⟩=some (.int .i64 0):=by rw[cH9 HR3.out];rfl
   have r1:w3.cell? ⟨w.heap.size,1,none⟩=some (.int .i64 0):=by rw[cH9 HR3.out];rfl
   have r2:w3.cell? ⟨w.heap.size,2,none⟩=some (.string ⟨#[]⟩):=by rw[cH9 HR3.out];rfl
   have f0:w3.frozen? ⟨w.heap.size,0,none⟩=false:=fH9 HR3.out _;have f1:w3.frozen? ⟨w.heap.size,1,none⟩=false:=fH9 HR3.out _;have f2:w3.frozen? ⟨w.heap.size,2,none⟩=false:=fH9 HR3.out _;clear hb3 HR2 HR3 HP2 HX x0;go_wp2_with fail;refine bodyPost_ret (v:=.agg #[.int .i64 0,.int .i64 (ns.length:Int),.string P]) (by simp[results,Tryz.results15,go_sem,qd,World.cell?_setCell_other,r0,r1,r2]) rfl ?_
   exact zq (0,(ns.length:Int),P) HST.out (zB hB3 (nR9 _))
 · have hEb : (E == 0) = false := by simpa using hE0
   rw[if_pos hE0]at HS
   rw[HS.out]
   go_enter Tryz.func15,Tryz.ntmps15
   go_wp2_with fail
   generalize w.alloc (.cells #[.int .i64 0,.int .i64 0,.string ⟨#[]⟩] 35)=W0 at *
   refine Calls.mono HT.out ?_;rintro e w1 ⟨va,vk,rfl,hA1,hK1,hb1⟩;obtain ⟨aa,ac,rfl⟩:=hA1.shape;obtain ⟨ka,kc,rfl,_,_⟩:=qa.shape ns.length hK1;have hb2:=Below.alloc1 w1 (.cells #[.bool t.text,.string t.s,.slice aa t.attrs.length ac,.slice ka t.kids.length kc] 51);have hb12:=hb1.trans (hb2.mono hb1.size);have hB2:=hb0.trans (hb12.mono hb0.size);have HR2:Hid _:=(hb12.block _ (qe HR0.out)).trans HR0.out;have HP2:Hid _:=HPR.out _ _ _ _ hB2 (qj.later hA1 hb2) (qa.later hb2 ns.length hK1);clear hA1 hK1 hb1 hb2 hb12 HT HPR HS hE0;go_wp2_with fail
   generalize w1.alloc (.cells #[.bool t.text,.string t.s,.slice aa t.attrs.length ac,.slice ka t.kids.length kc] 51)=W2 at *
   refine Calls.mono HP2.out ?_;rintro e w3 ⟨rfl,hb3⟩;have hB3:=hB2.trans (hb3.mono hB2.size);have HR3:Hid _:=(hb3.block _ (qe HR2.out)).trans HR2.out;clear hb3 HR2 HP2 HX x0;go_wp2_with fail;refine Calls.mono (zM E w3) ?_;rintro e wr1 ⟨rfl,hbr1⟩;have HRr:Hid _:=(hbr1.block _ (qe HR3.out)).trans HR3.out;have hBr:=hB3.trans (hbr1.mono hB3.size);have r0:wr1.cell? ⟨w.heap.size,0,none⟩=some (.int .i64 0):=by rw[cH9 HRr.out];rfl
   have r1:wr1.cell? ⟨w.heap.size,1,none⟩=some (.int .i64 0):=by rw[cH9 HRr.out];rfl
   have r2:wr1.cell? ⟨w.heap.size,2,none⟩=some (.string ⟨#[]⟩):=by rw[cH9 HRr.out];rfl
   have f0:wr1.frozen? ⟨w.heap.size,0,none⟩=false:=fH9 HRr.out _;have f1:wr1.frozen? ⟨w.heap.size,1,none⟩=false:=fH9 HRr.out _;have f2:wr1.frozen? ⟨w.heap.size,2,none⟩=false:=fH9 HRr.out _;clear hbr1 HRr;go_wp2_with fail;refine bodyPost_ret (v:=.agg #[.int .i64 (E),.int .i64 0,.string ⟨#[]⟩]) (by simp[results,Tryz.results15,go_sem,qd,World.cell?_setCell_other,r0,r1,r2]) rfl ?_
   exact zq (q5 _) HST.out (zB hBr (nR9 _))
theorem Xp (k:Int)(said:List UInt8)(hs:said.length≤2500)(n:Nat):TextsN n (qq k said).1.content∧(qq k said).1.name.size≤maxLen∧(qq k said).1.s.size≤maxLen:=by
 have h0:TextsN n []:=by cases n with|zero=>trivial|succ n=>intro t ht;cases ht
 have hz:(⟨#[]⟩:ByteArray).size≤maxLen:=nZ9 _
 have hc:TextsN n (qN said).1:=by
  rcases Vh said with ⟨_,h⟩|⟨h,_⟩
  · rw[h];exact h0
  · exact Qx h n
 have ht:∀ s:List UInt8,s.length≤2500→(qc (zI s).1).size≤maxLen:=by
  intro s hs;rw[ql];unfold zI
  split
  · exact nZ9 _
  · split
    · exact nZ9 _
    · exact Nat.le_trans (ZB textEnds _ _) (by unfold Rs.left maxLen;simp;omega)
 have hcs:=jD 61 said;unfold qq
 split
 · exact ⟨hc,hz,hz⟩
 · split
   · exact ⟨h0,hz,ht said hs⟩
   · split
     · exact ⟨h0,by rw[ql];unfold maxLen;omega,hz⟩
     · split
       · split
         · exact ⟨h0,by rw[ql];unfold maxLen;omega,ht _ (by omega)⟩
         · exact ⟨h0,hz,hz⟩
       · exact ⟨h0,hz,hz⟩
theorem Vw (s:List UInt8)(n:Nat):TextsN n (qT s).1.content∧(qT s).1.name.size≤maxLen∧(qT s).1.s.size≤maxLen:=by
 have h00:TextsN n []:=by cases n with|zero=>trivial|succ n=>intro t ht;cases ht
 have h0:TextsN n noOp.content∧noOp.name.size≤maxLen∧noOp.s.size≤maxLen:=⟨h00,nZ9 _,nZ9 _⟩;unfold qT
 split
 · exact h0
 · rename_i hl
   have h1:=jD 32 s;have h2:=jD 32 (zv s);have hsl:(zR s).length≤2500:=by have:=h1.2;have:=h2.2;unfold zR;unfold zv at *;omega
   split
   · exact h0
   · split
     · exact h0
     · split
       · exact h0
       · exact Xp _ _ hsl n
theorem qaP (ns:List Nd)(n:Nat):∀ ls:List ByteArray,QI n (qL ns ls).1:=by
 intro ls
 induction ls with
 | nil=>intro x hx;cases hx
 | cons s r ih =>
   intro x hx;unfold qL at hx
   split at hx
   · cases hx
   · split at hx
     · cases hx
     · split at hx
       · cases hx
       · split at hx
         · cases hx
         · rcases List.mem_append.1 hx with hx | hx
           · unfold Ye at hx
             obtain ⟨t,_,rfl⟩:=List.mem_map.1 hx;exact Vw s.data.toList n
           · exact ih x hx
set_option linter.unusedSimpArgs false in
set_option maxHeartbeats 2000000 in
theorem qaJ (S T:Nat→Prop)(sb n:Nat)(ns:List Nd)(vl:Value)(ls:List ByteArray)(w:World)(h:Sto S w sb ns n)(hL:Strs T w vl ls)(hE:yU w)(hz:∀ s∈ls,s.size≤maxLen) :
 Calls Tryz.prog 14 #[.pointer (some ⟨sb,0,none⟩),vl] w fun e w'=>ji S sb w (jz ls ns).1 (jz ls ns).2 n e w':=by
 obtain ⟨la,lc,rfl,hll,hlc⟩:=hL.shape;have HST:Hid _:=h;have hb0:=Below.alloc1 w (.cells #[.int .i64 0,.int .i64 0,.string ⟨#[]⟩] 35);have HR0:Hid _:=heap_alloc_new w (.cells #[.int .i64 0,.int .i64 0,.string ⟨#[]⟩] 35);have HEV:Hid (∀ W,Below w.heap.size w W→yU W):=fun W hW=>hE.later hW
 obtain ⟨a,c,hbx,hN,hcm⟩:=h.box;have hsl:=qe hbx;have HBX:Hid _:=hbx
 have HX:Hid (∀ W,Below w.heap.size w W→W.cell? ⟨sb,0,none⟩=some (.slice a ns.length c)):=fun W hW=>by
  rw[cH9 ((hW.block sb hsl).trans hbx)];rfl
 have x0:=HX.out _ hb0;have HD:Hid _:=h.doc hN;unfold maxLen at hcm hlc
 clear hbx hN
 by_cases h6:6<ls.length
 · have h6i : (6 : Int) < (ls.length : Int) := by omega
   have HS:Hid (jz ls ns=(q5 2,ns)):=by show _=_;unfold jz;rw[if_pos h6]
   rw[HS.out];clear h hE HEV hL HX x0 HD HBX
   go_enter Tryz.func14,Tryz.ntmps14
   go_wp2_with fail
   generalize w.alloc (.cells #[.int .i64 0,.int .i64 0,.string ⟨#[]⟩] 35)=W0 at *
   refine Calls.mono (zM 2 W0) ?_;rintro e wr1 ⟨rfl,hbr1⟩;have HRr:Hid _:=(hbr1.block _ (qe HR0.out)).trans HR0.out;have hBr:=hb0.trans (hbr1.mono hb0.size);have r0:wr1.cell? ⟨w.heap.size,0,none⟩=some (.int .i64 0):=by rw[cH9 HRr.out];rfl
   have r1:wr1.cell? ⟨w.heap.size,1,none⟩=some (.int .i64 0):=by rw[cH9 HRr.out];rfl
   have r2:wr1.cell? ⟨w.heap.size,2,none⟩=some (.string ⟨#[]⟩):=by rw[cH9 HRr.out];rfl
   have f0:wr1.frozen? ⟨w.heap.size,0,none⟩=false:=fH9 HRr.out _;have f1:wr1.frozen? ⟨w.heap.size,1,none⟩=false:=fH9 HRr.out _;have f2:wr1.frozen? ⟨w.heap.size,2,none⟩=false:=fH9 HRr.out _;clear hbr1 HRr;go_wp2_with fail;refine bodyPost_ret (v:=.agg #[.int .i64 (2),.int .i64 0,.string ⟨#[]⟩]) (by simp[results,Tryz.results14,go_sem,qd,World.cell?_setCell_other,r0,r1,r2]) rfl ?_
   exact zq (q5 _) HST.out (zB hBr (nR9 _))
 · have h6i : ¬ (6 : Int) < (ls.length : Int) := by omega
   have HS:Hid (jz ls ns=if (qL ns ls).2≠0 then (q5 (qL ns ls).2,ns) else if yp ns (qL ns ls).1≠0 then (q5 (yp ns (qL ns ls).1),ns) else ((0,((qL ns ls).1.length:Int),⟨#[]⟩),yo ns (qL ns ls).1)):=by show _=_;unfold jz;rw[if_neg h6]
   have HCH:Hid _:=Kc (fun b=>b<(w.alloc (.cells #[.int .i64 0,.int .i64 0,.string ⟨#[]⟩] 35)).heap.size) (.slice a ns.length c) (.slice la ls.length lc) ns ls _ ⟨(HD.out.later hb0).nodes.carry fun b hb=>⟨(HD.out.later hb0).here b hb,rfl⟩,fun b hb=>hb,HD.out.few,HD.out.short⟩ ((hL.later hb0).bounded.carry fun b hb=>⟨hb.2,rfl⟩) (HEV.out _ hb0) (by omega) hz
   have HTX:Hid _:=qaP ns 2501 ls;obtain ⟨L,hLL⟩:∃ L,(qL ns ls).1=L:=⟨_,rfl⟩;obtain ⟨E,hEE⟩:∃ E,(qL ns ls).2=E:=⟨_,rfl⟩;rw[hLL,hEE]at HCH HS
   rw[hLL]at HTX
   clear h hE HEV hL hLL hEE
   by_cases hE0:E=0
   case neg =>
    have hEb:(E==0)=false:=by simpa using hE0
    rw[if_pos hE0]at HS
    rw[HS.out];clear hE0
    go_enter Tryz.func14,Tryz.ntmps14
    go_wp2_with fail
    generalize w.alloc (.cells #[.int .i64 0,.int .i64 0,.string ⟨#[]⟩] 35)=W0 at *
    refine Calls.mono HCH.out ?_;rintro e w1 ⟨v1,rfl,hO1,hb1⟩;obtain ⟨oa,oc,rfl,_,_⟩:=hO1.shape;have hB1:=hb0.trans (hb1.mono hb0.size);have HR1:Hid _:=(hb1.block _ (qe HR0.out)).trans HR0.out;clear hO1 hb1 HCH HX x0;go_wp2_with fail;refine Calls.mono (zM E w1) ?_;rintro e wr1 ⟨rfl,hbr1⟩;have HRr:Hid _:=(hbr1.block _ (qe HR1.out)).trans HR1.out;have hBr:=hB1.trans (hbr1.mono hB1.size);have r0:wr1.cell? ⟨w.heap.size,0,none⟩=some (.int .i64 0):=by rw[cH9 HRr.out];rfl
    have r1:wr1.cell? ⟨w.heap.size,1,none⟩=some (.int .i64 0):=by rw[cH9 HRr.out];rfl
    have r2:wr1.cell? ⟨w.heap.size,2,none⟩=some (.string ⟨#[]⟩):=by rw[cH9 HRr.out];rfl
    have f0:wr1.frozen? ⟨w.heap.size,0,none⟩=false:=fH9 HRr.out _;have f1:wr1.frozen? ⟨w.heap.size,1,none⟩=false:=fH9 HRr.out _;have f2:wr1.frozen? ⟨w.heap.size,2,none⟩=false:=fH9 HRr.out _;clear hbr1 HRr;go_wp2_with fail;refine bodyPost_ret (v:=.agg #[.int .i64 (E),.int .i64 0,.string ⟨#[]⟩]) (by simp[results,Tryz.results14,go_sem,qd,World.cell?_setCell_other,r0,r1,r2]) rfl ?_
    exact zq (q5 _) HST.out (zB hBr (nR9 _))
   case pos =>
    subst hE0;rw[if_neg (by simp)]at HS
    obtain ⟨F,hF⟩:∃ F,yp ns L=F:=⟨_,rfl⟩;obtain ⟨D,hD⟩:∃ D,yo ns L=D:=⟨_,rfl⟩
    have HGD:Hid (F=0→qr D=true):=by
     intro h0;rw[←hD];exact (Vb (hF.trans h0)).1
    rw[hF,hD]at HS
    have HAP:Hid (∀ (w1:World) (v:Value),Below (w.alloc (.cells #[.int .i64 0,.int .i64 0,.string ⟨#[]⟩] 35)).heap.size (w.alloc (.cells #[.int .i64 0,.int .i64 0,.string ⟨#[]⟩] 35)) w1→Ops (fun b=>(w.alloc (.cells #[.int .i64 0,.int .i64 0,.string ⟨#[]⟩] 35)).heap.size≤b) w1 2501 v L→Calls Tryz.prog 26 #[.agg #[.slice a ns.length c],v] w1 fun e w'=>∃ v',e=.returned (.tuple #[.agg #[v'],.int .i64 F])∧qu (fun b=>(S b∨(w.alloc (.cells #[.int .i64 0,.int .i64 0,.string ⟨#[]⟩] 35)).heap.size≤b)∧b<w'.heap.size) w' v' D∧Below w1.heap.size w1 w'):=by
     intro w1 v hb1 hO;have hB1:=hb0.trans (hb1.mono hb0.size);have hD1:=HD.out.later hB1;have:=Xm (fun b=>(S b∨(w.alloc (.cells #[.int .i64 0,.int .i64 0,.string ⟨#[]⟩] 35)).heap.size≤b)∧b<w1.heap.size) 2501 _ v ns L w1 (hD1.nodes.carry fun b hb=>⟨⟨Or.inl hb,hD1.here b hb⟩,rfl⟩) (fun b hb=>hb.2) hD1.few hD1.short (hO.bounded.carry fun b hb=>⟨⟨Or.inr hb.1,hb.2⟩,rfl⟩) HTX.out
     rw[hF,hD]at this
     refine this.mono ?_;rintro e w' ⟨v',rfl,h1,h2⟩;refine ⟨v',rfl,h1.bounded.carry fun b hb=>⟨⟨?_,hb.2⟩,rfl⟩,h2⟩
     rcases hb.1 with h|h
     · exact h.1
     · exact Or.inr (Nat.le_trans hb1.size h)
    clear hF hD
    by_cases hF0:F=0
    case neg =>
     have hFb:(F==0)=false:=by simpa using hF0
     rw[if_pos hF0]at HS
     rw[HS.out];clear hF0 HGD
     go_enter Tryz.func14,Tryz.ntmps14
     go_wp2_with fail
     generalize w.alloc (.cells #[.int .i64 0,.int .i64 0,.string ⟨#[]⟩] 35)=W0 at *
     refine Calls.mono HCH.out ?_;rintro e w1 ⟨v1,rfl,hO1,hb1⟩;obtain ⟨oa,oc,rfl,_,_⟩:=hO1.shape;have hB1:=hb0.trans (hb1.mono hb0.size);have HR1:Hid _:=(hb1.block _ (qe HR0.out)).trans HR0.out;have x1:=HX.out w1 hB1;have HA1:Hid _:=HAP.out w1 _ hb1 hO1;clear hO1 hb1 HCH x0 HAP;go_wp2_with fail;refine Calls.mono HA1.out ?_;rintro e w2 ⟨v2,rfl,hN2,hb2⟩;obtain ⟨a2,c2,rfl,_,_⟩:=hN2.shape;have hb3:=Below.alloc1 w2 (.cells #[.slice a2 D.length c2] 29);have hb23:=hb2.trans (hb3.mono hb2.size);have hB3:=hB1.trans (hb23.mono hB1.size);have HR3:Hid _:=(hb23.block _ (qe HR1.out)).trans HR1.out;clear hN2 hb2 hb3 hb23 HR1 x1 HX HA1;go_wp2_with fail
     generalize w2.alloc (.cells #[.slice a2 D.length c2] 29)=W3 at *
     refine Calls.mono (zM F W3) ?_;rintro e wr1 ⟨rfl,hbr1⟩;have HRr:Hid _:=(hbr1.block _ (qe HR3.out)).trans HR3.out;have hBr:=hB3.trans (hbr1.mono hB3.size);have r0:wr1.cell? ⟨w.heap.size,0,none⟩=some (.int .i64 0):=by rw[cH9 HRr.out];rfl
     have r1:wr1.cell? ⟨w.heap.size,1,none⟩=some (.int .i64 0):=by rw[cH9 HRr.out];rfl
     have r2:wr1.cell? ⟨w.heap.size,2,none⟩=some (.string ⟨#[]⟩):=by rw[cH9 HRr.out];rfl
     have f0:wr1.frozen? ⟨w.heap.size,0,none⟩=false:=fH9 HRr.out _;have f1:wr1.frozen? ⟨w.heap.size,1,none⟩=false:=fH9 HRr.out _;have f2:wr1.frozen? ⟨w.heap.size,2,none⟩=false:=fH9 HRr.out _;clear hbr1 HRr;go_wp2_with fail;refine bodyPost_ret (v:=.agg #[.int .i64 (F),.int .i64 0,.string ⟨#[]⟩]) (by simp[results,Tryz.results14,go_sem,qd,World.cell?_setCell_other,r0,r1,r2]) rfl ?_
     exact zq (q5 _) HST.out (zB hBr (nR9 _))
    case pos =>
     subst hF0;rw[if_neg (by simp)]at HS
     rw[HS.out];have hgD:=HGD.out rfl;have HGG:Hid _:=hgD;clear HGD hgD
     go_enter Tryz.func14,Tryz.ntmps14
     go_wp2_with fail
     generalize w.alloc (.cells #[.int .i64 0,.int .i64 0,.string ⟨#[]⟩] 35)=W0 at *
     refine Calls.mono HCH.out ?_;rintro e w1 ⟨v1,rfl,hO1,hb1⟩;obtain ⟨oa,oc,rfl,_,hocm⟩:=hO1.shape;have hB1:=hb0.trans (hb1.mono hb0.size);have HR1:Hid _:=(hb1.block _ (qe HR0.out)).trans HR0.out;have x1:=HX.out w1 hB1;have HA1:Hid _:=HAP.out w1 _ hb1 hO1;have hrw0:w.heap.size<W0.heap.size:=qe HR0.out;clear hO1 hb1 HCH x0 HAP;go_wp2_with fail;refine Calls.mono HA1.out ?_;rintro e w2 ⟨v2,rfl,hN2,hb2⟩;obtain ⟨a2,c2,rfl,_,hc2⟩:=hN2.shape;have hb3:=Below.alloc1 w2 (.cells #[.slice a2 D.length c2] 29);have hb23:=hb2.trans (hb3.mono hb2.size);have hB3:=hB1.trans (hb23.mono hB1.size);have HR3:Hid _:=(hb23.block _ (qe HR1.out)).trans HR1.out;have HN3:Hid _:=qu.later hN2 hb3;have HX3:Hid _:=(hB3.block sb hsl).trans HBX.out;have x3:(w2.alloc (.cells #[.slice a2 D.length c2] 29)).cell? ⟨sb,0,none⟩=some (.slice a ns.length c):=by rw[cH9 HX3.out];rfl
     have xf3:(w2.alloc (.cells #[.slice a2 D.length c2] 29)).frozen? ⟨sb,0,none⟩=false:=fH9 HX3.out _;have HRs:Hid (((w2.alloc (.cells #[.slice a2 D.length c2] 29)).setCell ⟨sb,0,none⟩ (.slice a2 D.length c2)).heap[w.heap.size]?=_):=(qb (by omega)).trans HR3.out
     have hSw:∀ b,S b→b<w.heap.size:=fun b hb=>(HST.out.here b hb).1
     have HSW:Hid _:=hSw;have r0:((w2.alloc (.cells #[.slice a2 D.length c2] 29)).setCell ⟨sb,0,none⟩ (.slice a2 D.length c2)).cell? ⟨w.heap.size,0,none⟩=some (.int .i64 0):=by rw[cH9 HRs.out];rfl
     have r1:((w2.alloc (.cells #[.slice a2 D.length c2] 29)).setCell ⟨sb,0,none⟩ (.slice a2 D.length c2)).cell? ⟨w.heap.size,1,none⟩=some (.int .i64 0):=by rw[cH9 HRs.out];rfl
     have r2:((w2.alloc (.cells #[.slice a2 D.length c2] 29)).setCell ⟨sb,0,none⟩ (.slice a2 D.length c2)).cell? ⟨w.heap.size,2,none⟩=some (.string ⟨#[]⟩):=by rw[cH9 HRs.out];rfl
     have f0:((w2.alloc (.cells #[.slice a2 D.length c2] 29)).setCell ⟨sb,0,none⟩ (.slice a2 D.length c2)).frozen? ⟨w.heap.size,0,none⟩=false:=fH9 HRs.out _;have f1:((w2.alloc (.cells #[.slice a2 D.length c2] 29)).setCell ⟨sb,0,none⟩ (.slice a2 D.length c2)).frozen? ⟨w.heap.size,1,none⟩=false:=fH9 HRs.out _;have f2:((w2.alloc (.cells #[.slice a2 D.length c2] 29)).setCell ⟨sb,0,none⟩ (.slice a2 D.length c2)).frozen? ⟨w.heap.size,2,none⟩=false:=fH9 HRs.out _;clear hN2 hb2 hb3 hb23 HR1 x1 HX HA1 HRs HX3 hSw;go_wp2_with fail;refine bodyPost_ret (v:=.agg #[.int .i64 0,.int .i64 (L.length:Int),.string ⟨#[]⟩]) (by simp[results,Tryz.results14,go_sem,qd,World.cell?_setCell_other,r0,r1,r2]) rfl ?_
     exact Yt (0,(L.length:Int),⟨#[]⟩) HST.out hB3 (fun b hb=>by rcases hb.1 with h|h;exact Or.inl h;exact Or.inr (by omega)) HN3.out hc2 HGG.out (nR9 _) (fun b hb=>by
      rcases hb.1 with h|h
      · have:=HSW.out b h;omega
      · omega)
end
section
attribute [local go_sem] qd
theorem Sto.acts {S:Nat→Prop}{w W:World}{sb n:Nat}{ns:List Nd}(h:Sto S w sb ns n)(hb:Below w.heap.size w W)(m:Nat):Sto S (W.setCell ⟨sb,1,none⟩ (.int .i64 (m:Int))) sb ns m:=by
 obtain ⟨a,c,h1,h2,h3⟩:=h.box;have hbx:W.heap[sb]?=_:=(hb.block sb (qe h1)).trans h1;refine ⟨fun b hb'=>⟨by simpa using Nat.lt_of_lt_of_le (h.here b hb').1 hb.size,(h.here b hb').2⟩,h.good,a,c,?_,?_,h3⟩
 · simp[World.setCell,Array.getElem?_modify,hbx]
 · exact h2.carry fun b hb'=>⟨hb',by rw[qb (h.here b hb').2];exact hb.block b (h.here b hb').1⟩
theorem jY {S:Nat→Prop}{sb n m R:Nat}{ns ns':List Nd}{w W1 w2:World}{rep:Rep}{e:Ending}{v0 v1 v2:Value}(h:Sto S w sb ns n)(hF1:CFr sb w W1)(hR:w.heap.size≤R)(hRl:R<W1.heap.size)(hP:ji S sb W1 rep ns' m e w2):ji S sb w rep ns' m e (Jj w2 R v0 v1 v2):=by
 obtain ⟨h1,⟨S',hS',hSt⟩,hF⟩:=hP;obtain ⟨a,c,hbx,_,_⟩:=h.box;have hsl:=qe hbx;have hs1:=hF1.below.size;have hsz2:(Jj w2 R v0 v1 v2).heap.size=w2.heap.size:=by unfold Jj;simp
 refine ⟨h1,⟨S',fun b hb'=>?_,hSt.keep (by rw[hsz2];exact nR9 _) fun b hb'=>jO ?_⟩,?_⟩
 · rcases hS' b hb' with h2 | h2
   · exact Or.inl h2
   · exact Or.inr (Nat.le_trans hs1 h2)
 · rcases hb' with hb' | rfl
   · rcases hS' b hb' with h2 | h2
     · have:=(h.here b h2).1;omega
     · omega
   · omega
 · refine ⟨zB (B := 0) (hF1.below.trans hF.below) (nZ9 _), fun x hx hxs => ?_⟩
   rw[jO (by omega),hF.frame x (Nat.lt_of_lt_of_le hx hs1) hxs]
   exact hF1.frame x hx hxs
set_option linter.unusedSimpArgs false in
set_option maxHeartbeats 4000000 in
theorem Xs (S T:Nat→Prop)(sb n:Nat)(ns:List Nd)(vl:Value)(a:Ac)(w0 w:World)(h:Sto S w sb ns n)(hL:Strs T w vl a.lines)(hT:∀ b,T b→b≠sb)(hE:yU w0)(hB0:Below w0.heap.size w0 w)(hsb:w0.heap.size≤sb)(hz:∀ s∈a.lines,s.size≤maxLen) :
 Calls Tryz.prog 7 #[.pointer (some ⟨sb,0,none⟩),.agg #[.int .i64 a.kind,vl]] w fun e w'=>ji S sb w (xR a ns n).1 (xR a ns n).2.1 (xR a ns n).2.2 e w':=by
 obtain ⟨la,lc,rfl,hll,hlc⟩:=hL.shape;have HST:Hid _:=h;have hb0:Below w.heap.size w ((w.alloc (.cells #[.int .i64 a.kind,.slice la a.lines.length lc] 32)).alloc (.cells #[.int .i64 0,.int .i64 0,.string ⟨#[]⟩] 35)):=(Below.alloc1 w _).alloc (by simp) _
 have HA0:Hid (((w.alloc (.cells #[.int .i64 a.kind,.slice la a.lines.length lc] 32)).alloc (.cells #[.int .i64 0,.int .i64 0,.string ⟨#[]⟩] 35)).heap[w.heap.size]?=some (.cells #[.int .i64 a.kind,.slice la a.lines.length lc] 32 (0,0))):=by
  show _=_
  rw[heap_alloc_old _ _ (by simp)];exact heap_alloc_new _ _
 have HR0:Hid (((w.alloc (.cells #[.int .i64 a.kind,.slice la a.lines.length lc] 32)).alloc (.cells #[.int .i64 0,.int .i64 0,.string ⟨#[]⟩] 35)).heap[w.heap.size+1]?=some (.cells #[.int .i64 0,.int .i64 0,.string ⟨#[]⟩] 35 (0,0))):=by
  have:=heap_alloc_new (w.alloc (.cells #[.int .i64 a.kind,.slice la a.lines.length lc] 32)) (.cells #[.int .i64 0,.int .i64 0,.string ⟨#[]⟩] 35);rw[World.size_alloc]at this
  exact this
 obtain ⟨da,dc,hbx,_,_⟩:=h.box;have hsl:=qe hbx;have HBX:Hid (((w.alloc (.cells #[.int .i64 a.kind,.slice la a.lines.length lc] 32)).alloc (.cells #[.int .i64 0,.int .i64 0,.string ⟨#[]⟩] 35)).heap[sb]?=_):=(hb0.block sb hsl).trans hbx;have x1:((w.alloc (.cells #[.int .i64 a.kind,.slice la a.lines.length lc] 32)).alloc (.cells #[.int .i64 0,.int .i64 0,.string ⟨#[]⟩] 35)).cell? ⟨sb,1,none⟩=some (.int .i64 (n:Int)):=by rw[cH9 HBX.out];rfl
 have xf1:((w.alloc (.cells #[.int .i64 a.kind,.slice la a.lines.length lc] 32)).alloc (.cells #[.int .i64 0,.int .i64 0,.string ⟨#[]⟩] 35)).frozen? ⟨sb,1,none⟩=false:=fH9 HBX.out _
 by_cases hn:100≤n
 · have hni : (100 : Int) ≤ (n : Int) := by omega
   have HS:Hid (xR a ns n=(q5 7,ns,n)):=by show _=_;unfold xR;rw[if_pos hn]
   rw[HS.out];clear h hL hE hbx
   go_enter Tryz.func7,Tryz.ntmps7
   go_wp2_with fail
   generalize ((w.alloc (.cells #[.int .i64 a.kind,.slice la a.lines.length lc] 32)).alloc (.cells #[.int .i64 0,.int .i64 0,.string ⟨#[]⟩] 35))=W0 at *
   refine Calls.mono (zM 7 W0) ?_;rintro e wr1 ⟨rfl,hbr1⟩;have HRr:Hid _:=(hbr1.block _ (qe HR0.out)).trans HR0.out;have hBr:=hb0.trans (hbr1.mono hb0.size);have r0:wr1.cell? ⟨w.heap.size+1,0,none⟩=some (.int .i64 0):=by rw[cH9 HRr.out];rfl
   have r1:wr1.cell? ⟨w.heap.size+1,1,none⟩=some (.int .i64 0):=by rw[cH9 HRr.out];rfl
   have r2:wr1.cell? ⟨w.heap.size+1,2,none⟩=some (.string ⟨#[]⟩):=by rw[cH9 HRr.out];rfl
   have f0:wr1.frozen? ⟨w.heap.size+1,0,none⟩=false:=fH9 HRr.out _;have f1:wr1.frozen? ⟨w.heap.size+1,1,none⟩=false:=fH9 HRr.out _;have f2:wr1.frozen? ⟨w.heap.size+1,2,none⟩=false:=fH9 HRr.out _;clear hbr1 HRr x1 xf1;go_wp2_with fail;refine bodyPost_ret (v:=.agg #[.int .i64 7,.int .i64 0,.string ⟨#[]⟩]) (by simp[results,Tryz.results7,go_sem,qd,World.cell?_setCell_other,r0,r1,r2]) rfl ?_
   exact zq (q5 7) HST.out (zB hBr (by omega))
 · have hni : ¬ (100 : Int) ≤ (n : Int) := by omega
   have HS:Hid (xR a ns n=((jq a ns).1,(jq a ns).2,n+1)):=by show _=_;unfold xR;rw[if_neg hn]
   rw[HS.out];have hcast:((n+1:Nat):Int)=(n:Int)+1:=by omega
   have hbA:Below (w.setCell ⟨sb,1,none⟩ (.int .i64 ((n:Int)+1))).heap.size (w.setCell ⟨sb,1,none⟩ (.int .i64 ((n:Int)+1))) (((w.setCell ⟨sb,1,none⟩ (.int .i64 ((n:Int)+1))).alloc (.cells #[.int .i64 a.kind,.slice la a.lines.length lc] 32)).alloc (.cells #[.int .i64 0,.int .i64 0,.string ⟨#[]⟩] 35)):=(Below.alloc1 _ _).alloc (by simp) _
   have hszs:(w.setCell ⟨sb,1,none⟩ (.int .i64 ((n:Int)+1))).heap.size=w.heap.size:=by simp
   have HF1:Hid (CFr sb w (((w.setCell ⟨sb,1,none⟩ (.int .i64 ((n:Int)+1))).alloc (.cells #[.int .i64 a.kind,.slice la a.lines.length lc] 32)).alloc (.cells #[.int .i64 0,.int .i64 0,.string ⟨#[]⟩] 35))):=(CFr.put sb w 1 _).trans (CFr.later hbA);have hE1:Below w0.heap.size w0 (((w.setCell ⟨sb,1,none⟩ (.int .i64 ((n:Int)+1))).alloc (.cells #[.int .i64 a.kind,.slice la a.lines.length lc] 32)).alloc (.cells #[.int .i64 0,.int .i64 0,.string ⟨#[]⟩] 35)):=(hB0.setCell (p:=⟨sb,1,none⟩) hsb _).trans (hbA.mono (by rw[hszs];exact hB0.size))
   have HSE:Hid _:=hE.later hE1;have HL1:Hid (Strs T (((w.setCell ⟨sb,1,none⟩ (.int .i64 ((n:Int)+1))).alloc (.cells #[.int .i64 a.kind,.slice la a.lines.length lc] 32)).alloc (.cells #[.int .i64 0,.int .i64 0,.string ⟨#[]⟩] 35)) (.slice la a.lines.length lc) a.lines):=Strs.later (hL.carry fun b hb=>⟨hb,qb (hT b hb)⟩) hbA
   have HS1:Hid (Sto S (((w.setCell ⟨sb,1,none⟩ (.int .i64 ((n:Int)+1))).alloc (.cells #[.int .i64 a.kind,.slice la a.lines.length lc] 32)).alloc (.cells #[.int .i64 0,.int .i64 0,.string ⟨#[]⟩] 35)) sb ns (n+1)):=by
    have:=h.acts (Below.refl _ w) (n+1);rw[hcast]at this
    exact this.later hbA
   have HA1:Hid ((((w.setCell ⟨sb,1,none⟩ (.int .i64 ((n:Int)+1))).alloc (.cells #[.int .i64 a.kind,.slice la a.lines.length lc] 32)).alloc (.cells #[.int .i64 0,.int .i64 0,.string ⟨#[]⟩] 35)).heap[w.heap.size]?=some (.cells #[.int .i64 a.kind,.slice la a.lines.length lc] 32 (0,0))):=by
    have h1:=heap_alloc_new (w.setCell ⟨sb,1,none⟩ (.int .i64 ((n:Int)+1))) (.cells #[.int .i64 a.kind,.slice la a.lines.length lc] 32);rw[hszs]at h1
    show _=_
    rw[heap_alloc_old _ _ (by simp)]
    exact h1
   have HR1:Hid ((((w.setCell ⟨sb,1,none⟩ (.int .i64 ((n:Int)+1))).alloc (.cells #[.int .i64 a.kind,.slice la a.lines.length lc] 32)).alloc (.cells #[.int .i64 0,.int .i64 0,.string ⟨#[]⟩] 35)).heap[w.heap.size+1]?=some (.cells #[.int .i64 0,.int .i64 0,.string ⟨#[]⟩] 35 (0,0))):=by
    have h1:=heap_alloc_new ((w.setCell ⟨sb,1,none⟩ (.int .i64 ((n:Int)+1))).alloc (.cells #[.int .i64 a.kind,.slice la a.lines.length lc] 32)) (.cells #[.int .i64 0,.int .i64 0,.string ⟨#[]⟩] 35);rw[World.size_alloc,hszs]at h1
    exact h1
   have hwr:IntKind.i64.wrap ((n:Int)+1)=(n:Int)+1:=IntWalk.i64_in _ (by omega)
   have y1:w.cell? ⟨sb,1,none⟩=some (.int .i64 (n:Int)):=by rw[cH9 hbx];rfl
   have yf1:w.frozen? ⟨sb,1,none⟩=false:=fH9 hbx _;have q0:(((w.setCell ⟨sb,1,none⟩ (.int .i64 ((n:Int)+1))).alloc (.cells #[.int .i64 a.kind,.slice la a.lines.length lc] 32)).alloc (.cells #[.int .i64 0,.int .i64 0,.string ⟨#[]⟩] 35)).cell? ⟨w.heap.size,0,none⟩=some (.int .i64 a.kind):=by rw[cH9 HA1.out];rfl
   have q1:(((w.setCell ⟨sb,1,none⟩ (.int .i64 ((n:Int)+1))).alloc (.cells #[.int .i64 a.kind,.slice la a.lines.length lc] 32)).alloc (.cells #[.int .i64 0,.int .i64 0,.string ⟨#[]⟩] 35)).cell? ⟨w.heap.size,1,none⟩=some (.slice la a.lines.length lc):=by rw[cH9 HA1.out];rfl
   clear hbA hszs hcast HA0 HR0 HBX x1 xf1 hb0;clear h hL hE hbx hT hE1
   by_cases hk1:a.kind=1
   · have HK : Hid (jq a ns = QP a.lines ns) := by show _ = _;unfold jq;rw[if_pos hk1]
     have HCL:Hid _:=qct S T sb (n+1) ns _ a.lines _ HS1.out HL1.out HSE.out hz;rw[HK.out];obtain ⟨rep,D,hrd⟩:∃ rep D,QP a.lines ns=(rep,D):=⟨_,_,rfl⟩;rw[hrd]at HCL ⊢
     clear hrd HK;rw[hk1]at q0 HF1 HL1 HS1 HA1 HR1 HSE HCL q1
     have HK1:Hid _:=hk1;rw[HK1.out];simp only at HCL
     go_enter Tryz.func7,Tryz.ntmps7
     go_wp2_with fail
     generalize (((w.setCell ⟨sb,1,none⟩ (.int .i64 ((n:Int)+1))).alloc (.cells #[.int .i64 1,.slice la a.lines.length lc] 32)).alloc (.cells #[.int .i64 0,.int .i64 0,.string ⟨#[]⟩] 35))=W1 at *
     refine Calls.mono HCL.out ?_;rintro e w2 hP;obtain ⟨rfl,hSt,hF⟩:=hP;have HPP:Hid (ji S sb W1 rep D (n+1) _ w2):=⟨rfl,hSt,hF⟩;have HRr:Hid (w2.heap[w.heap.size+1]?=_):=(hF.frame _ (qe HR1.out) (by omega)).trans HR1.out
     have r0:w2.cell? ⟨w.heap.size+1,0,none⟩=some (.int .i64 0):=by rw[cH9 HRr.out];rfl
     have r1:w2.cell? ⟨w.heap.size+1,1,none⟩=some (.int .i64 0):=by rw[cH9 HRr.out];rfl
     have r2:w2.cell? ⟨w.heap.size+1,2,none⟩=some (.string ⟨#[]⟩):=by rw[cH9 HRr.out];rfl
     have f0:w2.frozen? ⟨w.heap.size+1,0,none⟩=false:=fH9 HRr.out _;have f1:w2.frozen? ⟨w.heap.size+1,1,none⟩=false:=fH9 HRr.out _;have f2:w2.frozen? ⟨w.heap.size+1,2,none⟩=false:=fH9 HRr.out _;clear hSt hF HRr;go_wp2_with fail;refine bodyPost_ret (v:=.agg #[.int .i64 rep.1,.int .i64 rep.2.1,.string rep.2.2]) (by simp[results,Tryz.results7,go_sem,qd,World.cell?_setCell_other,r0,r1,r2]) rfl ?_
     exact jY HST.out HF1.out (by omega) (qe HR1.out) HPP.out
   · have hk1b : (a.kind == 1) = false := by simpa using hk1
     by_cases hk2:a.kind=2
     · have HK : Hid (jq a ns = jz a.lines ns) := by show _ = _;unfold jq;rw[if_neg hk1, if_pos hk2]
       have HCL:Hid _:=qaJ S T sb (n+1) ns _ a.lines _ HS1.out HL1.out HSE.out hz;rw[HK.out];obtain ⟨rep,D,hrd⟩:∃ rep D,jz a.lines ns=(rep,D):=⟨_,_,rfl⟩;rw[hrd]at HCL ⊢
       clear hrd HK hk1 hk1b;rw[hk2]at q0 HF1 HL1 HS1 HA1 HR1 HSE HCL q1
       have HK1:Hid _:=hk2;rw[HK1.out];simp only at HCL
       go_enter Tryz.func7,Tryz.ntmps7
       go_wp2_with fail
       generalize (((w.setCell ⟨sb,1,none⟩ (.int .i64 ((n:Int)+1))).alloc (.cells #[.int .i64 2,.slice la a.lines.length lc] 32)).alloc (.cells #[.int .i64 0,.int .i64 0,.string ⟨#[]⟩] 35))=W1 at *
       refine Calls.mono HCL.out ?_;rintro e w2 hP;obtain ⟨rfl,hSt,hF⟩:=hP;have HPP:Hid (ji S sb W1 rep D (n+1) _ w2):=⟨rfl,hSt,hF⟩;have HRr:Hid (w2.heap[w.heap.size+1]?=_):=(hF.frame _ (qe HR1.out) (by omega)).trans HR1.out
       have r0:w2.cell? ⟨w.heap.size+1,0,none⟩=some (.int .i64 0):=by rw[cH9 HRr.out];rfl
       have r1:w2.cell? ⟨w.heap.size+1,1,none⟩=some (.int .i64 0):=by rw[cH9 HRr.out];rfl
       have r2:w2.cell? ⟨w.heap.size+1,2,none⟩=some (.string ⟨#[]⟩):=by rw[cH9 HRr.out];rfl
       have f0:w2.frozen? ⟨w.heap.size+1,0,none⟩=false:=fH9 HRr.out _;have f1:w2.frozen? ⟨w.heap.size+1,1,none⟩=false:=fH9 HRr.out _;have f2:w2.frozen? ⟨w.heap.size+1,2,none⟩=false:=fH9 HRr.out _;clear hSt hF HRr;go_wp2_with fail;refine bodyPost_ret (v:=.agg #[.int .i64 rep.1,.int .i64 rep.2.1,.string rep.2.2]) (by simp[results,Tryz.results7,go_sem,qd,World.cell?_setCell_other,r0,r1,r2]) rfl ?_
       exact jY HST.out HF1.out (by omega) (qe HR1.out) HPP.out
     · have hk2b : (a.kind == 2) = false := by simpa using hk2
       by_cases hk3:a.kind=3
       · have HK : Hid (jq a ns = (ZJ ns, ns)) := by show _ = _;unfold jq;rw[if_neg hk1, if_neg hk2, if_pos hk3]
         have HCL:Hid _:=qcP S sb (n+1) ns _ HS1.out HSE.out;rw[HK.out];obtain ⟨rep,hrd⟩:∃ rep,ZJ ns=rep:=⟨_,rfl⟩;obtain ⟨D,hDD⟩:∃ D,ns=D:=⟨_,rfl⟩;rw[hrd]at HCL ⊢
         clear hrd HK hk1 hk1b hk2 hk2b;rw[hk3]at q0 HF1 HL1 HS1 HA1 HR1 HSE HCL q1
         have HK1:Hid _:=hk3;rw[HK1.out];subst hDD
         go_enter Tryz.func7,Tryz.ntmps7
         go_wp2_with fail
         generalize (((w.setCell ⟨sb,1,none⟩ (.int .i64 ((n:Int)+1))).alloc (.cells #[.int .i64 3,.slice la a.lines.length lc] 32)).alloc (.cells #[.int .i64 0,.int .i64 0,.string ⟨#[]⟩] 35))=W1 at *
         refine Calls.mono HCL.out ?_;rintro e w2 hP;obtain ⟨rfl,hSt,hF⟩:=hP;have HPP:Hid (ji S sb W1 rep ns (n+1) _ w2):=⟨rfl,hSt,hF⟩;have HRr:Hid (w2.heap[w.heap.size+1]?=_):=(hF.frame _ (qe HR1.out) (by omega)).trans HR1.out
         have r0:w2.cell? ⟨w.heap.size+1,0,none⟩=some (.int .i64 0):=by rw[cH9 HRr.out];rfl
         have r1:w2.cell? ⟨w.heap.size+1,1,none⟩=some (.int .i64 0):=by rw[cH9 HRr.out];rfl
         have r2:w2.cell? ⟨w.heap.size+1,2,none⟩=some (.string ⟨#[]⟩):=by rw[cH9 HRr.out];rfl
         have f0:w2.frozen? ⟨w.heap.size+1,0,none⟩=false:=fH9 HRr.out _;have f1:w2.frozen? ⟨w.heap.size+1,1,none⟩=false:=fH9 HRr.out _;have f2:w2.frozen? ⟨w.heap.size+1,2,none⟩=false:=fH9 HRr.out _;clear hSt hF HRr;go_wp2_with fail;refine bodyPost_ret (v:=.agg #[.int .i64 rep.1,.int .i64 rep.2.1,.string rep.2.2]) (by simp[results,Tryz.results7,go_sem,qd,World.cell?_setCell_other,r0,r1,r2]) rfl ?_
         exact jY HST.out HF1.out (by omega) (qe HR1.out) HPP.out
       · have hk3b : (a.kind == 3) = false := by simpa using hk3
         have HK:Hid (jq a ns=(q5 4,ns)):=by show _=_;unfold jq;rw[if_neg hk1,if_neg hk2,if_neg hk3]
         rw[HK.out];clear HK hk1 hk2 hk3
         go_enter Tryz.func7,Tryz.ntmps7
         go_wp2_with fail
         generalize (((w.setCell ⟨sb,1,none⟩ (.int .i64 ((n:Int)+1))).alloc (.cells #[.int .i64 a.kind,.slice la a.lines.length lc] 32)).alloc (.cells #[.int .i64 0,.int .i64 0,.string ⟨#[]⟩] 35))=W1 at *
         refine Calls.mono (zM 4 _) ?_;rintro e w2 ⟨rfl,hbr⟩;have hP:ji S sb W1 (q5 4) ns (n+1) (.returned (.agg #[.int .i64 4,.int .i64 0,.string ⟨#[]⟩])) w2:=zq (q5 4) HS1.out hbr;have HPP:Hid _:=hP;have HRr:Hid (w2.heap[w.heap.size+1]?=_):=(hbr.block _ (qe HR1.out)).trans HR1.out;have r0:w2.cell? ⟨w.heap.size+1,0,none⟩=some (.int .i64 0):=by rw[cH9 HRr.out];rfl
         have r1:w2.cell? ⟨w.heap.size+1,1,none⟩=some (.int .i64 0):=by rw[cH9 HRr.out];rfl
         have r2:w2.cell? ⟨w.heap.size+1,2,none⟩=some (.string ⟨#[]⟩):=by rw[cH9 HRr.out];rfl
         have f0:w2.frozen? ⟨w.heap.size+1,0,none⟩=false:=fH9 HRr.out _;have f1:w2.frozen? ⟨w.heap.size+1,1,none⟩=false:=fH9 HRr.out _;have f2:w2.frozen? ⟨w.heap.size+1,2,none⟩=false:=fH9 HRr.out _;clear hbr HRr hP;go_wp2_with fail;refine bodyPost_ret (v:=.agg #[.int .i64 4,.int .i64 0,.string ⟨#[]⟩]) (by simp[results,Tryz.results7,go_sem,qd,World.cell?_setCell_other,r0,r1,r2]) rfl ?_
         exact jY HST.out HF1.out (by omega) (qe HR1.out) HPP.out
theorem new_make:ym 0 ⟨false,⟨#[100,111,99]⟩,[],[]⟩=newD∧xO ⟨false,⟨#[100,111,99]⟩,[],[]⟩=0∧qr newD=true:=by
 refine ⟨?_,?_,?_⟩<;>kernel_rfl
set_option maxHeartbeats 1000000 in
theorem XC (w:World) :
 Calls Tryz.prog 4 #[] w fun e w'=>∃ (sb:Nat) (S:Nat→Prop),e=.returned (.pointer (some ⟨sb,0,none⟩))∧w.heap.size≤sb∧sb<w'.heap.size∧(∀ b,S b→w.heap.size≤b)∧Sto S w' sb newD 0∧Below w.heap.size w w':=by
 obtain ⟨e1,e2,e3⟩:=new_make
 have HM:Hid _:=YJ (fun _=>False) 0 (.slice none 0 0) (.slice none 0 0) ⟨false,⟨#[100,111,99]⟩,[],[]⟩ w qj.nil ⟨rfl,none,0,rfl,nZ9 _⟩ (by
  intro t ht;rw[List.mem_singleton.1 ht];exact ⟨⟨by show 3≤maxLen;unfold maxLen;omega,by intro y hy;cases hy⟩,trivial⟩) (fun _ h=>h.elim)
 rw[e1,e2]at HM
 have HG:Hid _:=e3;clear e1 e2 e3
 go_enter Tryz.func4,Tryz.ntmps4
 go_wp2_with fail;refine Calls.mono HM.out ?_;rintro e w1 ⟨v1,rfl,hN1,hb1⟩;obtain ⟨a1,c1,rfl,_,hc1⟩:=hN1.shape;have hb2:=Below.alloc1 w1 (.cells #[.slice a1 newD.length c1] 29);have hb12:=hb1.trans (hb2.mono hb1.size);have HN2:Hid _:=qu.later hN1.bounded hb2;clear hN1 HM;go_wp2_with fail;go_ret;have hb3:=Below.alloc1 (w1.alloc (.cells #[.slice a1 newD.length c1] 29)) (.cells #[.slice a1 newD.length c1,.int .i64 0] 53);have hs1:=hb1.size;refine ⟨w1.heap.size+1,fun b=>w.heap.size≤b∧b<w1.heap.size,rfl,by omega,by simp,fun b hb=>hb.1,⟨fun b hb=>⟨by simp;omega,by omega⟩,HG.out,a1,c1,?_,?_,hc1⟩,hb12.trans (hb3.mono hb12.size)⟩
 · have := heap_alloc_new (w1.alloc (.cells #[.slice a1 newD.length c1] 29)) (.cells #[.slice a1 newD.length c1, .int .i64 0] 53);rw[World.size_alloc]at this
   exact this
 · exact qu.later HN2.out hb3
end
end Go.Proofs.YtchkbffgancidaaGreatDoor
namespace Go.Proofs.YtchkbffgancidaaGreatDoor
open Go.RowKit
set_option maxRecDepth 100000
def aliveL1:ByteArray:=⟨#[108,97,115,116,32,47,100,111,99,32,60,97,62,120,60,47,97,62]⟩
def aliveL2:ByteArray:=⟨#[115,101,116,32,47,100,111,99,32,107,61,118]⟩
def aliveT:ByteArray:=⟨#[60,100,111,99,32,107,61,34,118,34,62,60,97,62,120,60,47,97,62,60,47,100,111,99,62]⟩
def aliveD:List Nd:=[⟨false,⟨#[100,111,99]⟩,[(⟨#[107]⟩,⟨#[118]⟩)],-1,[1]⟩,⟨false,⟨#[97]⟩,[],0,[2]⟩,⟨true,⟨#[120]⟩,[],1,[]⟩]
theorem alive_one:xR ⟨2,[aliveL1,aliveL2]⟩ newD 0=((0,2,⟨#[]⟩),aliveD,1):=by kernel_rfl
theorem alive_two:xR ⟨3,[]⟩ aliveD 1=((0,3,aliveT),aliveD,2):=by kernel_rfl
end Go.Proofs.YtchkbffgancidaaGreatDoor
namespace Go.Proofs.YtchkbffgancidaaGreatDoor
open Go.ChangeShapes Go.WideShapes Go.ChangeAt Go.RowKit
set_option maxRecDepth 100000
section
attribute [local go_sem] qd
theorem XZ (w:World):Strs (fun b=>b=w.heap.size) (w.alloc (.cells #[.string ⟨#[108,97,115,116,32,47,100,111,99,32,60,97,62,120,60,47,97,62]⟩,.string ⟨#[115,101,116,32,47,100,111,99,32,107,61,118]⟩] 9)) (.slice (some ⟨w.heap.size,0,none⟩) 2 2) [aliveL1,aliveL2]:=by
 have hh:=heap_alloc_new w (.cells #[.string ⟨#[108,97,115,116,32,47,100,111,99,32,60,97,62,120,60,47,97,62]⟩,.string ⟨#[115,101,116,32,47,100,111,99,32,107,61,118]⟩] 9);refine ⟨_,2,rfl,nR9 _,by unfold maxLen;omega,fun _=>⟨w.heap.size,0,rfl,rfl,fun i x hx=>?_⟩⟩
 match i,hx with
 | 0,hx=>simp at hx;subst hx;rw[cH9 hh];rfl
 | 1,hx=>simp at hx;subst hx;rw[cH9 hh];rfl
 | i+2,hx=>simp at hx
theorem jC {sb:Nat}{w0 w w':World}(h:Below w0.heap.size w0 w)(hF:CFr sb w w')(hs:w0.heap.size≤sb):Below w0.heap.size w0 w' :=
 ⟨hF.below.os.trans h.os,hF.below.tape.trans h.tape,hF.below.output.trans h.output,Nat.le_trans h.size hF.below.size,fun k hk=>(hF.frame k (Nat.lt_of_lt_of_le hk h.size) (by omega)).trans (h.block k hk)⟩
set_option linter.unusedSimpArgs false in
set_option maxHeartbeats 2000000 in
theorem qaG (w:World)(hE:yU w):Calls Tryz.prog 11 #[] w fun e w'=>e=.returned (.bool true)∧Below w.heap.size w w':=by
 have HE:Hid _:=hE;clear hE
 go_enter Tryz.func11,Tryz.ntmps11
 go_wp2_with fail;refine Calls.mono (XC w) ?_;rintro e w1 ⟨sb,S,rfl,hsb,hsl,hSw,hSt,hb1⟩;have hpn:(Value.pointer (some ⟨sb,0,none⟩)=Value.pointer none)=False:=by simp
 have HD1:Hid _:=Xs S (fun b=>b=w1.heap.size) sb 0 newD _ ⟨2,[aliveL1,aliveL2]⟩ w (w1.alloc (.cells #[.string ⟨#[108,97,115,116,32,47,100,111,99,32,60,97,62,120,60,47,97,62]⟩,.string ⟨#[115,101,116,32,47,100,111,99,32,107,61,118]⟩] 9)) (hSt.later (Below.alloc1 w1 _)) (XZ w1) (fun b hb=>by omega) HE.out (hb1.alloc hb1.size _) hsb (by
  intro s hs;simp only[List.mem_cons,List.not_mem_nil,or_false]at hs
  rcases hs with rfl|rfl
  · show 18≤maxLen;unfold maxLen;omega
  · show 12≤maxLen;unfold maxLen;omega)
 rw[alive_one]at HD1
 simp only at HD1
 have hbA:Below w.heap.size w (w1.alloc (.cells #[.string ⟨#[108,97,115,116,32,47,100,111,99,32,60,97,62,120,60,47,97,62]⟩,.string ⟨#[115,101,116,32,47,100,111,99,32,107,61,118]⟩] 9)):=hb1.alloc hb1.size _;have hs12:w1.heap.size≤(w1.alloc (.cells #[.string ⟨#[108,97,115,116,32,47,100,111,99,32,60,97,62,120,60,47,97,62]⟩,.string ⟨#[115,101,116,32,47,100,111,99,32,107,61,118]⟩] 9)).heap.size:=by simp
 clear hSt hb1;go_wp2_with fail
 generalize w1.alloc (.cells #[.string ⟨#[108,97,115,116,32,47,100,111,99,32,60,97,62,120,60,47,97,62]⟩,.string ⟨#[115,101,116,32,47,100,111,99,32,107,61,118]⟩] 9)=W2 at *
 refine Calls.mono HD1.out ?_;rintro e w3 ⟨rfl,⟨S3,hS3,hSt3⟩,hF3⟩;have hB3:=jC hbA hF3 hsb;have hs13:w1.heap.size≤w3.heap.size:=Nat.le_trans hs12 hF3.below.size;have hb4:=Below.alloc1 w3 (.cells #[.int .i64 0,.int .i64 2,.string ⟨#[]⟩] 35);have hB4:=hB3.trans (hb4.mono hB3.size);have HR4:Hid _:=heap_alloc_new w3 (.cells #[.int .i64 0,.int .i64 2,.string ⟨#[]⟩] 35);have HD2:Hid _:=Xs S3 (fun _=>False) sb 1 aliveD (.slice none 0 0) ⟨3,[]⟩ w (w3.alloc (.cells #[.int .i64 0,.int .i64 2,.string ⟨#[]⟩] 35)) (hSt3.later hb4) Strs.nil (fun _ h=>h.elim) HE.out hB4 hsb (by intro s hs;cases hs)
 rw[alive_two]at HD2
 simp only[aliveT]at HD2
 clear HD1 hSt3 hF3 hb4 hbA;go_wp2_with fail
 generalize w3.alloc (.cells #[.int .i64 0,.int .i64 2,.string ⟨#[]⟩] 35)=W4 at *
 refine Calls.mono HD2.out ?_;rintro e w5 ⟨rfl,⟨S5,hS5,hSt5⟩,hF5⟩;have hB5:=jC hB4 hF5 hsb;have hb6:=Below.alloc1 w5 (.cells #[.int .i64 0,.int .i64 3,.string ⟨#[60,100,111,99,32,107,61,34,118,34,62,60,97,62,120,60,47,97,62,60,47,100,111,99,62]⟩] 35);have hB6:=hB5.trans (hb6.mono hB5.size);have hne:w3.heap.size≠sb:=by omega
 have HR6:Hid _:=(hb6.block _ (Nat.lt_of_lt_of_le (qe HR4.out) hF5.below.size)).trans ((hF5.frame _ (qe HR4.out) hne).trans HR4.out);have HQ6:Hid _:=heap_alloc_new w5 (.cells #[.int .i64 0,.int .i64 3,.string ⟨#[60,100,111,99,32,107,61,34,118,34,62,60,97,62,120,60,47,97,62,60,47,100,111,99,62]⟩] 35);have r0:(w5.alloc (.cells #[.int .i64 0,.int .i64 3,.string ⟨#[60,100,111,99,32,107,61,34,118,34,62,60,97,62,120,60,47,97,62,60,47,100,111,99,62]⟩] 35)).cell? ⟨w3.heap.size,0,none⟩=some (.int .i64 0):=by rw[cH9 HR6.out];rfl
 have r1:(w5.alloc (.cells #[.int .i64 0,.int .i64 3,.string ⟨#[60,100,111,99,32,107,61,34,118,34,62,60,97,62,120,60,47,97,62,60,47,100,111,99,62]⟩] 35)).cell? ⟨w3.heap.size,1,none⟩=some (.int .i64 2):=by rw[cH9 HR6.out];rfl
 have HDC:Hid _:=Xt S5 sb 2 aliveD _ (hSt5.later hb6);clear HD2 hSt5 hF5 hb6 HR6;go_wp2_with fail;refine Calls.mono HDC.out ?_;rintro e w7 ⟨v7,rfl,hN7,hb7⟩;obtain ⟨a7,c7,rfl,_,_⟩:=hN7.shape;have hB7:=hB6.trans (hb7.mono hB6.size)
 have hfd:(Instr.field 29 (.agg #[.slice a7 aliveD.length c7]) 0).run Tryz.prog w7=.ok (.slice a7 aliveD.length c7) w7:=by
  simp[Instr.field,part,asAgg,go_sem]
 have hl3:aliveD.length=3:=rfl;rw[hl3]at hfd ⊢
 clear hN7 hb7 HDC;go_wp2_with fail;go_ret;exact ⟨rfl,hB7⟩
end
section
attribute [local go_sem] qd
def Zq (S:Nat→Prop)(w:World)(v:Value)(l:List Ac):Prop :=
  ∃ a cap, v = .slice a l.length cap ∧ l.length ≤ cap ∧ cap ≤ maxLen ∧
    (l≠[]→∃ b o,a=some ⟨b,o,none⟩∧S b∧∀ (i:Nat) (x:Ac),l[i]?=some x→∃ vs,w.cell? ⟨b,o+i*2,none⟩=some (.int .i64 x.kind)∧w.cell? ⟨b,o+i*2+1,none⟩=some vs∧Strs S w vs x.lines)
theorem Zq.carry {S S':Nat→Prop}{w w':World}{v:Value}{l:List Ac}(h:Zq S w v l)(hw:∀ b,S b→S' b∧w'.heap[b]?=w.heap[b]?):Zq S' w' v l:=by
 obtain ⟨a,cap,h1,h2,h3,h4⟩:=h;refine ⟨a,cap,h1,h2,h3,fun hne=>?_⟩
 obtain ⟨b,o,ha,hs,hc⟩:=h4 hne;refine ⟨b,o,ha,(hw b hs).1,fun i x hx=>?_⟩
 obtain ⟨vs,c0,c1,hS⟩:=hc i x hx;refine ⟨vs,?_,?_,hS.carry hw⟩
 · rw[World.cell?_of_block (a:=⟨b,o+i*2,none⟩) (hw b hs).2];exact c0
 · rw[World.cell?_of_block (a:=⟨b,o+i*2+1,none⟩) (hw b hs).2];exact c1
theorem Zq.shape {S:Nat→Prop}{w:World}{v:Value}{l:List Ac}(h:Zq S w v l):∃ a c,v=.slice a l.length c∧l.length≤c∧c≤maxLen:=by
 obtain ⟨a,cap,h1,h2,h3,_⟩:=h;exact ⟨a,cap,h1,h2,h3⟩
theorem Zq.at {S:Nat→Prop}{w:World}{v:Value}{l:List Ac}(h:Zq S w v l){i:Nat}{x:Ac}(hx:l[i]?=some x):∃ b o cap vs,v=.slice (some ⟨b,o,none⟩) l.length cap∧S b∧b<w.heap.size∧w.cell? ⟨b,o+i*2,none⟩=some (.int .i64 x.kind)∧w.cell? ⟨b,o+i*2+1,none⟩=some vs∧Strs S w vs x.lines:=by
 obtain ⟨a,cap,h1,h2,h3,h4⟩:=h;obtain ⟨b,o,rfl,hs,hc⟩:=h4 (by intro e;subst e;simp at hx)
 obtain ⟨vs,c0,c1,hS⟩:=hc i x hx;exact ⟨b,o,cap,vs,h1,hs,World.block_lt_of_cell? w _ c0,c0,c1,hS⟩
def Xj (l:List Ac):Prop:=∀ x∈l,∀ s∈x.lines,s.size≤maxLen
def zG (l:List Ac):List Nd × Nat:=l.foldl (fun p a=>((xR a p.1 p.2).2.1,(xR a p.1 p.2).2.2)) (newD,0)
theorem KS {l:List Ac}{i:Nat}{a:Ac}(h:l[i]?=some a):zG (l.take (i+1))=((xR a (zG (l.take i)).1 (zG (l.take i)).2).2.1,(xR a (zG (l.take i)).1 (zG (l.take i)).2).2.2):=by
 have hi:=qh h;have e:l[i]=a:=by simpa[hi] using h
 unfold zG;rw[List.take_succ_eq_append_getElem hi,e,List.foldl_append];rfl
end
section
attribute [local go_sem] qd
def xg (p ob sb:Nat)(l:List Ac)(i:Nat)(W:World):Prop :=
 ∃ T:Nat→Prop,(∀ b,T b→b≠sb∧b≠p)∧Sto T W ob (zG (l.take i)).1 (zG (l.take i)).2∧W.heap[p]?=some (.cells #[.pointer (some ⟨ob,0,none⟩)] 23 (0,0))
theorem xg.frame {p ob sb:Nat}{l:List Ac}{i:Nat}{W W':World}(h:xg p ob sb l i W)(hF:CFr sb W W')(ho:ob≠sb)(hp:p≠sb):xg p ob sb l i W':=by
 obtain ⟨T,h1,h2,h3⟩:=h;obtain ⟨_,_,hbx,_,_⟩:=h2.box;refine ⟨T,h1,h2.keep hF.below.size fun b hb=>hF.frame b ?_ ?_,(hF.frame p (qe h3) hp).trans h3⟩
 · rcases hb with hb | rfl
   · exact (h2.here b hb).1
   · exact qe hbx
 · rcases hb with hb | rfl
   · exact (h1 b hb).1
   · exact ho
theorem xg.later {p ob sb:Nat}{l:List Ac}{i:Nat}{W W':World}(h:xg p ob sb l i W)(hb:Below W.heap.size W W'):xg p ob sb l i W':=by
 obtain ⟨T,h1,h2,h3⟩:=h;exact ⟨T,h1,h2.later hb,(hb.block p (qe h3)).trans h3⟩
theorem Zv {B ob:Nat}{w w':World}(h:Below B w w')(hB:w.heap.size≤B):CFr ob w w':=⟨h.mono (nZ9 _),fun x hx _=>h.block x (Nat.lt_of_lt_of_le hx hB)⟩
def qd6 (fm p ob:Nat)(w w1:World)(S0:Nat→Prop)(l:List Ac):Prop :=
  ∀ (S : Nat → Prop) (sb i : Nat) (a : Ac) (vd vs : Value) (W : World), l[i]? = some a → i < 50 → Below w.heap.size w W → w1.heap.size ≤ sb → (∀ b, S b → w1.heap.size ≤ b) → Sto S W sb (zG (l.take (i + 1))).1 (zG (l.take (i + 1))).2 → (∃ a c, vd = .slice a (zG (l.take i)).1.length c) → xg p ob sb l i W → Strs S0 W vs a.lines →
    Calls Tryz.prog fm #[.pointer (some ⟨sb,0,none⟩),.agg #[vd],.agg #[.int .i64 a.kind,vs],.agg #[.int .i64 (xR a (zG (l.take i)).1 (zG (l.take i)).2).1.1,.int .i64 (xR a (zG (l.take i)).1 (zG (l.take i)).2).1.2.1,.string (xR a (zG (l.take i)).1 (zG (l.take i)).2).1.2.2],.pointer (some ⟨p,0,none⟩)] W fun e w'=>e=.returned (.bool true)∧CFr ob W w'∧xg p ob sb l (i+1) w'
def qey (w:World)(e:Ending)(w':World):Prop :=
 ∃ sb:Nat,e=.returned (.tuple #[.pointer (some ⟨sb,0,none⟩),.bool true])∧Below w.heap.size w w'
set_option linter.unusedSimpArgs false in
set_option maxHeartbeats 2000000 in
theorem qbl (fm p ob:Nat)(eg:∀ args w,(callFunc fm args).run Tryz.prog w=.ok (.enter fm args) w)(S0 T0:Nat→Prop)(vl:Value)(l:List Ac)(w w0:World)(hL:Zq S0 w vl l)(hS0:∀ b,S0 b→b<w.heap.size)(hz:Xj l)(hE:yU w)(hB0:Below w.heap.size w w0)(hob:w.heap.size≤ob)(hT:∀ b,T0 b→b≠p)(hO:Sto T0 w0 ob newD 0)(hp:w0.heap[p]?=some (.cells #[.pointer (some ⟨ob,0,none⟩)] 23 (0,0)))(hlook:qd6 fm p ob w w0 S0 l) :
 Calls Tryz.prog 5 #[vl,.func (.func fm) #[] #[.pointer (some ⟨p,0,none⟩)]] w0 fun e w'=>qey w e w':=by
 obtain ⟨la,lc,rfl,hll,hlc⟩:=hL.shape;have HL:Hid (Zq S0 w (.slice la l.length lc) l):=hL;have HE:Hid _:=hE;have HLK:Hid _:=hlook;have HZ:Hid _:=hz;have HS0:Hid _:=hS0;have HO0:Hid (∀ sb W,w0.heap.size≤sb→Below w0.heap.size w0 W→xg p ob sb l 0 W):=fun sb W hs hW=>⟨T0,fun b hb=>⟨by have:=(hO.here b hb).1;omega,hT b hb⟩,hO.later hW,(hW.block p (qe hp)).trans hp⟩
 have hobl:ob<w0.heap.size:=by obtain ⟨_,_,hbx,_,_⟩:=hO.box;exact qe hbx
 have hpl:p<w0.heap.size:=qe hp;unfold maxLen at hlc
 clear hL hE hlook hz hS0 hO hp hT
 go_enter Tryz.func5,Tryz.ntmps5
 go_wp2_with fail;refine Calls.mono (qaG w0 (HE.out.later hB0)) ?_;rintro e w1 ⟨rfl,hb1⟩;go_wp2_with fail;refine Calls.mono (XC w1) ?_;rintro e w2 ⟨sb,S2,rfl,hsb2,hsl2,hSw2,hSt2,hb2⟩;have hsb0:w0.heap.size≤sb:=Nat.le_trans hb1.size hsb2;have hsb:w.heap.size≤sb:=Nat.le_trans hB0.size hsb0;have hb02:=hb1.trans (hb2.mono hb1.size);have HI0:Hid (∃ S:Nat→Prop,(∀ b,S b→w0.heap.size≤b)∧Sto S w2 sb (zG (l.take 0)).1 (zG (l.take 0)).2∧xg p ob sb l 0 w2∧Below w.heap.size w w2∧w0.heap.size≤w2.heap.size):=⟨S2,fun b hb=>Nat.le_trans hb1.size (hSw2 b hb),hSt2,HO0.out sb w2 hsb0 hb02,hB0.trans (hb02.mono hB0.size),hb02.size⟩
 clear hsb2 hsl2 hSw2 hSt2 hb2 hb1 hb02 HO0;go_wp2_with fail
 go_loopg [7] (min l.length 50) (fun g vi wr=>∃ i:Nat,i+g=min l.length 50∧vi=.int .i64 (i:Int)∧∃ S:Nat→Prop,(∀ b,S b→w0.heap.size≤b)∧Sto S wr sb (zG (l.take i)).1 (zG (l.take i)).2∧xg p ob sb l i wr∧Below w.heap.size w wr∧w0.heap.size≤wr.heap.size)
 case atStart => exact ⟨0,by omega,rfl,HI0.out⟩
 case round =>
  clear HI0;obtain ⟨i,hig,rfl,S,hSw,hSt,hOt,hB,hsw0⟩:=hrel;have HOT:Hid (xg p ob sb l i wr):=hOt;have HSW:Hid _:=hSw;have HST:Hid _:=hSt;clear hSw hSt hOt
  by_cases hil:i<l.length
  · have hili : (i : Int) < (l.length : Int) := by omega
    by_cases hi50:i<50
    · have hi5i : (i : Int) < 50 := by omega
      obtain ⟨a,ha⟩:∃ a,l[i]?=some a:=⟨l[i],by simp[hil]⟩
      have HAA:Hid _:=ha;have HLB:Hid (∀ W,Below w.heap.size w W→Zq S0 W (.slice la l.length lc) l):=fun W hW=>HL.out.carry fun b hb=>⟨hb,hW.block b (HS0.out b hb)⟩
      obtain ⟨lb,lo,lc2,vs,hlv,hSb,hlbl,c0,c1,hstr⟩:=(HLB.out wr hB).at ha
      injection hlv with hla hll2 hlc2
      subst hla hlc2;obtain ⟨sa,sc,rfl,_,_⟩:=hstr.shape;have hlbw:lb<w.heap.size:=HS0.out lb hSb
      have HSB:Hid (∀ W,Below w.heap.size w W→Strs S0 W (.slice sa a.lines.length sc) a.lines∧W.cell? ⟨lb,lo+i*2,none⟩=some (.int .i64 a.kind)∧W.cell? ⟨lb,lo+i*2+1,none⟩=some (.slice sa a.lines.length sc)):=by
       intro W hW;have hc0:W.heap[lb]?=wr.heap[lb]?:=(hW.block lb hlbw).trans (hB.block lb hlbw).symm;refine ⟨hstr.carry fun b hb=>⟨hb,(hW.block b (HS0.out b hb)).trans (hB.block b (HS0.out b hb)).symm⟩,?_,?_⟩
       · rw[World.cell?_of_block (a:=⟨lb,lo+i*2,none⟩) hc0];exact c0
       · rw[World.cell?_of_block (a:=⟨lb,lo+i*2+1,none⟩) hc0];exact c1
      have HSN:Hid _:=KS ha;have HLO:Hid _:=fun S' vd W=>HLK.out S' sb i a vd (.slice sa a.lines.length sc) W ha hi50
      have HIO:Hid (∀ W W',xg p ob sb l i W→CFr sb W W'→xg p ob sb l i W'):=fun W W' h hF=>h.frame hF (by omega) (by omega)
      have HIL:Hid (∀ W W',xg p ob sb l i W→Below W.heap.size W W'→xg p ob sb l i W'):=fun W W' h hb=>h.later hb
      generalize hJ0:xg p ob sb l i=J0 at *
      generalize hJ1:xg p ob sb l (i+1)=J1 at *
      have HJ1:Hid _:=hJ1;clear hJ0 hJ1;have hza:=HZ.out a (List.mem_of_getElem? ha);have HGD:Hid _:=HST.out.good
      generalize hP0:zG (l.take i)=P0 at *
      generalize hP1:zG (l.take (i+1))=P1 at *
      obtain ⟨ns0,n0⟩:=P0;simp only at HST HSN HLO HGD
      have HDC:Hid _:=Xt S sb n0 ns0 wr HST.out;clear hstr ha hll2 c0 c1;go_wp2_with fail;refine Calls.mono HDC.out ?_;rintro e w3 ⟨v3,rfl,hN3,hb3⟩;obtain ⟨a3,c3,rfl,_,hc3⟩:=hN3.shape;have hb4:=Below.alloc1 w3 (.cells #[.slice a3 ns0.length c3] 29);have hb34:=hb3.trans (hb4.mono hb3.size);have hB4:=hB.trans (hb34.mono hB.size);have HW4:Hid _:=heap_alloc_new w3 (.cells #[.slice a3 ns0.length c3] 29);obtain ⟨q0,q1,q2⟩:=HSB.out _ hB4;obtain ⟨_,_,hbx,_,_⟩:=HST.out.box;have hsbl:=qe hbx;have HDO:Hid _:=Xs S S0 sb n0 ns0 _ a w _ (HST.out.later hb34) q0 (fun b hb=>by have:=HS0.out b hb;omega) HE.out hB4 hsb hza
      have HO4:Hid (J0 (w3.alloc (.cells #[.slice a3 ns0.length c3] 29))):=HIL.out _ _ HOT.out hb34;have hsz4:wr.heap.size≤(w3.alloc (.cells #[.slice a3 ns0.length c3] 29)).heap.size:=hb34.size;have hsz3:wr.heap.size≤w3.heap.size:=hb3.size;have hs34:w3.heap.size<(w3.alloc (.cells #[.slice a3 ns0.length c3] 29)).heap.size:=by simp
      obtain ⟨rep,ns1,n1,hrd⟩:∃ rep ns1 n1,xR a ns0 n0=(rep,ns1,n1):=⟨_,_,_,rfl⟩;rw[hrd]at HDO HSN HLO
      simp only at HDO HSN HLO
      clear hN3 hb3 hb4 hb34 q0 hbx HDC hrd hza;go_wp2_with fail
      generalize w3.alloc (.cells #[.slice a3 ns0.length c3] 29)=W4 at *
      refine Calls.mono HDO.out ?_;rintro e w5 ⟨rfl,⟨S5,hS5,hSt5⟩,hF5⟩;have hB5:=jC hB4 hF5 hsb;have HO5:Hid (J0 w5):=HIO.out _ _ HO4.out hF5;have hb6:=Below.alloc1 w5 (.cells #[.int .i64 rep.1,.int .i64 rep.2.1,.string rep.2.2] 35);have hB6:=hB5.trans (hb6.mono hB5.size)
      have hSw5:∀ b,S5 b→w0.heap.size≤b:=fun b hb=>by
       rcases hS5 b hb with h|h
       · exact HSW.out b h
       · omega
      have HW6:Hid _:=(hb6.block _ (Nat.lt_of_lt_of_le (qe HW4.out) hF5.below.size)).trans ((hF5.frame _ (qe HW4.out) (by omega)).trans HW4.out)
      have HR6:Hid _:=heap_alloc_new w5 (.cells #[.int .i64 rep.1,.int .i64 rep.2.1,.string rep.2.2] 35);have HO6:Hid _:=HIL.out _ _ HO5.out hb6;have hs35:w3.heap.size≤w5.heap.size:=by have:=hF5.below.size;omega
      have hs56:=hb6.size;have HS6:Hid _:=hSt5.later hb6
      have HLK6:Hid (∀ W,Below (w5.alloc (.cells #[.int .i64 rep.1,.int .i64 rep.2.1,.string rep.2.2] 35)).heap.size (w5.alloc (.cells #[.int .i64 rep.1,.int .i64 rep.2.1,.string rep.2.2] 35)) W→Calls Tryz.prog fm #[.pointer (some ⟨sb,0,none⟩),.agg #[.slice a3 ns0.length c3],.agg #[.int .i64 a.kind,.slice sa a.lines.length sc],.agg #[.int .i64 rep.1,.int .i64 rep.2.1,.string rep.2.2],.pointer (some ⟨p,0,none⟩)] W fun e w'=>∃ v',e=.returned v'∧v'=.bool true∧CFr ob W w'∧J1 w'):=by
       intro W hW;have hBW:=hB6.trans (hW.mono hB6.size);refine (HLO.out S5 (.slice a3 ns0.length c3) W hBW hsb0 hSw5 ?_ ⟨_,_,rfl⟩ (HIL.out _ _ HO6.out hW) (HSB.out W hBW).1).mono ?_
       · rw[HSN.out];exact HS6.out.later hW
       · rintro e w' ⟨rfl, hb, hj⟩;exact ⟨_,rfl,rfl,hb,hj⟩
      have HC:Hid (∀ W,CFr ob (w5.alloc (.cells #[.int .i64 rep.1,.int .i64 rep.2.1,.string rep.2.2] 35)) W→CFr ob (w5.alloc (.cells #[.int .i64 rep.1,.int .i64 rep.2.1,.string rep.2.2] 35)) W∧W.cell? ⟨w3.heap.size,0,none⟩=some (.slice a3 ns0.length c3)∧(W.cell? ⟨lb,lo+i*2,none⟩=some (.int .i64 a.kind)∧W.cell? ⟨lb,lo+i*2+1,none⟩=some (.slice sa a.lines.length sc))∧W.cell? ⟨w5.heap.size,0,none⟩=some (.int .i64 rep.1)∧W.cell? ⟨w5.heap.size,1,none⟩=some (.int .i64 rep.2.1)∧W.cell? ⟨w5.heap.size,2,none⟩=some (.string rep.2.2)):=by
       intro W hW;have h1:=(hW.frame _ (qe HW6.out) (by omega)).trans HW6.out
       have h2:=(hW.frame _ (qe HR6.out) (by omega)).trans HR6.out
       refine ⟨hW,?_,(HSB.out W (jC hB6 hW hob)).2,?_,?_,?_⟩
       · rw[cH9 h1];rfl
       · rw[cH9 h2];rfl
       · rw[cH9 h2];rfl
       · rw[cH9 h2];rfl
      clear HDO hSt5 hF5 hS5 q1 q2 HW4 hb6 HO4 HO5;go_wp2_with fail
      generalize w5.alloc (.cells #[.int .i64 rep.1,.int .i64 rep.2.1,.string rep.2.2] 35)=W6 at *
      have hbw:Below W6.heap.size W6 W6.drew:=(Below.refl _ W6).drew;have hbn:CFr ob W6 W6.drew:=Zv hbw (nR9 _)
      go_region_held3 (fun W:World=>CFr ob W6 W∧W.cell? ⟨w3.heap.size,0,none⟩=some (.slice a3 ns0.length c3)∧(W.cell? ⟨lb,lo+i*2,none⟩=some (.int .i64 a.kind)∧W.cell? ⟨lb,lo+i*2+1,none⟩=some (.slice sa a.lines.length sc))∧W.cell? ⟨w5.heap.size,0,none⟩=some (.int .i64 rep.1)∧W.cell? ⟨w5.heap.size,1,none⟩=some (.int .i64 rep.2.1)∧W.cell? ⟨w5.heap.size,2,none⟩=some (.string rep.2.2))
       (with_reducible exact HC.out _ hbn)
       ((refine qK (by rfl) fm #[.pointer (some ⟨sb,0,none⟩),.agg #[.slice a3 ns0.length c3],.agg #[.int .i64 a.kind,.slice sa a.lines.length sc],.agg #[.int .i64 rep.1,.int .i64 rep.2.1,.string rep.2.2],.pointer (some ⟨p,0,none⟩)] (by go_simp) _ (HLK6.out _ hbw) ?_;rintro v7 W7 ⟨rfl,hb7,hj7⟩;have hbn:=hbn.trans hb7))
      have hB7:=jC hB6 hbn hob
      have HS7:Hid (Sto S5 W7 sb ns1 n1):=HS6.out.keep hbn.below.size fun b hb=>hbn.frame b (by
       rcases hb with hb|rfl
       · exact (HS6.out.here b hb).1
       · obtain ⟨_,_,hbx,_,_⟩:=HS6.out.box;exact qe hbx) (by
       rcases hb with hb|rfl
       · have:=hSw5 b hb;omega
       · omega)
      have HJ7:Hid (J1 W7):=hj7;have HP1:Hid _:=hP1;have HSW5:Hid _:=hSw5;have hs07:w0.heap.size≤W7.heap.size:=by have:=hbn.below.size;omega
      rw[←HJ1.out]at HJ7
      clear hP1 hP0 hbn hbw hb7 HS6 HO6 HC HLK6 hSw5 HSB hj7;go_wp2_with fail
      go_roundg (min l.length 50-(i+1))
      case measure => omega
      case rel => exact ⟨i+1,by omega,by go_num,S5,HSW5.out,by rw[HP1.out,HSN.out];exact HS7.out,HJ7.out,hB7,hs07⟩
    · have hi5i : ¬ ((i : Int) < 50) := by omega
      go_wp2_with fail
      go_ret2
      exact ⟨sb,rfl,hB⟩
  · have hili : ¬ ((i : Int) < (l.length : Int)) := by omega
    go_wp2_with fail
    go_ret2
    exact ⟨sb,rfl,hB⟩
end
def Y6 (B g db:Nat)(W:World)(k:Nat)(v:Value):Prop :=
 ∃ a n c,v=.slice a n c∧n≤c∧c≤maxLen∧(0<n→∃ b cur T,a=some ⟨b,0,none⟩∧B≤b∧b≠g∧b≠db∧W.heap[b]?=some (.cells cur T (0,0))∧n*k≤cur.size)
theorem Y6.set {B g db:Nat}{W:World}{k:Nat}{v:Value}(h:Y6 B g db W k v)(p:Addr)(x:Value):Y6 B g db (W.setCell p x) k v:=by
 obtain ⟨a,n,c,h1,h2,h3,h4⟩:=h;refine ⟨a,n,c,h1,h2,h3,fun hn=>?_⟩
 obtain ⟨b,cur,T,e1,e2,e3,e6,e4,e5⟩:=h4 hn;obtain ⟨cur',f1,f2⟩:=ZS e4 p x;exact ⟨b,cur',T,e1,e2,e3,e6,f1,by rw[f2];exact e5⟩
theorem Qv.beside {B g:Nat}{W W':World}{k:Nat}{v:Value}(h:Qv B g W k v)(hb:Below W.heap.size W W'):Y6 B g W.heap.size W' k v:=by
 obtain ⟨a,n,c,h1,h2,h3,h4⟩:=h;refine ⟨a,n,c,h1,h2,h3,fun hn=>?_⟩
 obtain ⟨b,cur,T,e1,e2,e3,e4,e5⟩:=h4 hn;exact ⟨b,cur,T,e1,e2,e3,Nat.ne_of_lt (qe e4),(hb.block b (qe e4)).trans e4,e5⟩
structure Spl (w0:World) (g cap N db:Nat) (ms:List Rw) (W:World):Prop where
 below:Below w0.heap.size w0 W
 far:w0.heap.size≤g∧w0.heap.size≤db∧db≠g
 box:W.heap[db]?=some (.cells #[.slice (some ⟨g,0,none⟩) N cap] 29 (0,0))
 row:∃ cur,W.heap[g]?=some (.cells cur 42 (0,0))∧∀ (j:Nat) r,ms[j]?=some r→(∃ x,cur[j*5+1]?=some x)∧cur[j*5+2]?=some r.va∧cur[j*5+4]?=some r.vk
 own:∀ (j:Nat) r,ms[j]?=some r→Y6 w0.heap.size g db W 2 r.va∧Y6 w0.heap.size g db W 1 r.vk
theorem Spl.set {w0:World}{g cap N db:Nat}{ms:List Rw}{W:World}(h:Spl w0 g cap N db ms W){b o:Nat}(hb:w0.heap.size≤b)(h1:b≠g)(h2:b≠db)(v:Value):Spl w0 g cap N db ms (W.setCell ⟨b,o,none⟩ v):=by
 obtain ⟨cur,e1,e2⟩:=h.row;refine ⟨h.below.setCell (p:=⟨b,o,none⟩) hb v,h.far,?_,⟨cur,?_,e2⟩,fun j r hr=>⟨(h.own j r hr).1.set _ _,(h.own j r hr).2.set _ _⟩⟩
 · rw[qb (fun e=>h2 e.symm)];exact h.box
 · rw[qb (fun e=>h1 e.symm)];exact e1
theorem Spl.setS {w0:World}{g cap N db:Nat}{ms:List Rw}{W:World}(h:Spl w0 g cap N db ms W)(i:Nat)(v:Value):Spl w0 g cap N db ms (W.setCell ⟨g,i*5+1,none⟩ v):=by
 obtain ⟨cur,e1,e2⟩:=h.row;obtain ⟨f1,f2,f3⟩:=h.far;refine ⟨h.below.setCell (p:=⟨g,i*5+1,none⟩) f1 v,h.far,?_,⟨cur.setIfInBounds (i*5+1) v,?_,fun j r hr=>?_⟩,fun j r hr=>⟨(h.own j r hr).1.set _ _,(h.own j r hr).2.set _ _⟩⟩
 · rw[qb f3];exact h.box
 · simp[World.setCell,Array.getElem?_modify,e1]
 · obtain ⟨⟨x, k1⟩, k2, k3⟩ := e2 j r hr;refine ⟨?_,?_,?_⟩
   · have hj := (Array.getElem?_eq_some_iff.1 k1).1;exact ⟨(cur.setIfInBounds (i*5+1) v)[j*5+1]'(by simpa using hj),by simp[hj]⟩
   · rw[Array.getElem?_setIfInBounds_ne (by omega)];exact k2
   · rw[Array.getElem?_setIfInBounds_ne (by omega)];exact k3
theorem Spl.start {w0 w1:World}{ns:List Nd}{g cap:Nat}{ms:List Rw}(h:K8 w0 ns g cap ms w1)(ho:qbK w0 g ms w1)(hb:Below w0.heap.size w0 w1):Spl w0 g cap ns.length w1.heap.size ms (w1.alloc (.cells #[.slice (some ⟨g,0,none⟩) ns.length cap] 29)):=by
 have hb1:=Below.alloc1 w1 (.cells #[.slice (some ⟨g,0,none⟩) ns.length cap] 29);obtain ⟨hg1,hg2⟩:=h.row.lt g rfl;obtain ⟨cur,e1,e2,e3,e4,e5⟩:=yz h.row;refine ⟨hb.trans (hb1.mono hb.size),⟨by omega,hb.size,by omega⟩,heap_alloc_new _ _,⟨cur,(hb1.block g hg2).trans e1,fun j r hr=>?_⟩,fun j r hr=>?_⟩
 · obtain ⟨_, g1, g2, _, g4⟩ := zf ms j r hr
   have cell:∀ c v,c<5→(rawCells ms)[j*5+c]?=some v→cur[j*5+c]?=some v:=fun c v hc hv=>by
    have hj:=qh hr;have:=World.ownsRow.cellAt h.row (j*5+c) (by rw[h.len]at hj;omega)
    rw[hv,cH9 e1]at this
    exact this
   exact ⟨⟨_,cell 1 _ (by omega) g1⟩,cell 2 _ (by omega) g2,cell 4 _ (by omega) g4⟩
 · obtain ⟨o1, o2⟩ := ho j r hr
   have weak:∀ {k:Nat} {v:Value},Y6 (w0.heap.size+1) g w1.heap.size (w1.alloc (.cells #[.slice (some ⟨g,0,none⟩) ns.length cap] 29)) k v→Y6 w0.heap.size g w1.heap.size (w1.alloc (.cells #[.slice (some ⟨g,0,none⟩) ns.length cap] 29)) k v:=by
    rintro k v ⟨a,n,c,h1,h2,h3,h4⟩;refine ⟨a,n,c,h1,h2,h3,fun hn=>?_⟩
    obtain ⟨b,cur,T,e1,e2,e3⟩:=h4 hn;exact ⟨b,cur,T,e1,by omega,e3⟩
   exact ⟨weak (o1.beside hb1),weak (o2.beside hb1)⟩
theorem Spl.at {w0:World}{g cap N db:Nat}{ms:List Rw}{W:World}(h:Spl w0 g cap N db ms W){j:Nat}{r:Rw}(hr:ms[j]?=some r):W.cell? ⟨db,0,none⟩=some (.slice (some ⟨g,0,none⟩) N cap)∧W.cell? ⟨g,j*5+2,none⟩=some r.va∧W.cell? ⟨g,j*5+4,none⟩=some r.vk∧(∃ x,W.cell? ⟨g,j*5+1,none⟩=some x)∧W.frozen? ⟨g,j*5+1,none⟩=false:=by
 obtain ⟨cur,e1,e2⟩:=h.row;obtain ⟨⟨x,k1⟩,k2,k3⟩:=e2 j r hr;refine ⟨?_,?_,?_,⟨x,?_⟩,fH9 e1 _⟩
 · rw[cH9 h.box];rfl
 · rw[cH9 e1];exact k2
 · rw[cH9 e1];exact k3
 · rw[cH9 e1];exact k1
theorem Y6.at {B g db:Nat}{W:World}{k:Nat}{a:Option Addr}{n c:Nat}(h:Y6 B g db W k (.slice a n c)){i q:Nat}(hi:i<n)(hq:q<k):∃ b,a=some ⟨b,0,none⟩∧B≤b∧b≠g∧b≠db∧(∃ x,W.cell? ⟨b,i*k+q,none⟩=some x)∧W.frozen? ⟨b,i*k+q,none⟩=false:=by
 obtain ⟨a',n',c',h1,_,_,h4⟩:=h
 injection h1 with e1 e2 e3
 subst e1 e2 e3;obtain ⟨b,cur,T,f1,f2,f3,f4,f5,f6⟩:=h4 (by omega)
 have hlt:i*k+q<cur.size:=by
  have:(i+1)*k≤n*k:=Nat.mul_le_mul_right k hi;rw[Nat.add_mul]at this
  omega
 refine ⟨b,f1,f2,f3,f4,⟨cur[i*k+q],?_⟩,fH9 f5 _⟩;rw[cH9 f5];simp[hlt]
section
attribute [local go_sem] qd
theorem like_refl:∀ (n:Nat)(ts:List Tr),Deep n ts→likeB n ts ts=true:=by
 intro n
 induction n with
 | zero=>intro ts h;have e:ts=[]:=h;subst e;exact JR 0
 | succ n ih =>
   intro ts h;rw[JS rfl];unfold ZE;rw[List.all_eq_true];intro p hp;have hz:=List.mem_of_mem_take hp;obtain ⟨i,hi⟩:=List.mem_iff_getElem?.1 hz;rw[List.getElem?_zip_eq_some]at hi
   have e:p.1=p.2:=by
    have h1:=hi.1;have h2:=hi.2;rw[h1]at h2
    exact Option.some.inj h2
   rw[←e,ih p.1.kids (h p.1 (List.mem_of_getElem? hi.1)),Bool.and_true];simp[j8]
set_option maxHeartbeats 1000000 in
theorem KT (S S':Nat→Prop)(vd vd':Value)(ns:List Nd)(w:World)(h:QG S w vd ns)(h':QG S' w vd' ns)(hg:qr ns=true) :
 Calls Tryz.prog 8 #[.agg #[vd],.agg #[vd']] w fun e w'=>e=.returned (.bool true)∧Below w.heap.size w w':=by
 obtain ⟨a,c,rfl,_,_⟩:=h.nodes.shape;obtain ⟨a',c',rfl,_,_⟩:=h'.nodes.shape;have hb1:Below w.heap.size w ((w.alloc (.cells #[.slice a ns.length c] 29)).alloc (.cells #[.slice a' ns.length c'] 29)):=(Below.alloc1 w _).alloc (by simp) _
 have HY1:Hid (((w.alloc (.cells #[.slice a ns.length c] 29)).alloc (.cells #[.slice a' ns.length c'] 29)).heap[w.heap.size+1]?=some (.cells #[.slice a' ns.length c'] 29 (0,0))):=by
  have:=heap_alloc_new (w.alloc (.cells #[.slice a ns.length c] 29)) (.cells #[.slice a' ns.length c'] 29);rw[World.size_alloc]at this
  exact this
 obtain ⟨htd,hgt⟩:=Qc hg;have HT1:Hid _:=ZP S _ ns 0 _ (h.later hb1);have HD':Hid _:=h';rw[htd]at HT1
 have HT2:Hid (∀ W,Below w.heap.size w W→Calls Tryz.prog 16 #[.agg #[.slice a' ns.length c'],.int .i64 0] W fun e w'=>∃ va vk,e=.returned (.tuple #[.agg #[.bool (growF ns.length ns 0).text,.string (growF ns.length ns 0).s,va,vk],.int .i64 0])∧qj (fun b=>W.heap.size≤b) w' va (growF ns.length ns 0).attrs∧qa (fun b=>W.heap.size≤b) w' ns.length vk (growF ns.length ns 0).kids∧Below W.heap.size W w'):=by
  intro W hW;have:=ZP S' _ ns 0 W (HD'.out.later hW);rw[htd]at this
  exact this
 have hcnt:∀ {n:Nat},Deep n (growF ns.length ns 0).kids→cnt (n+1) [growF ns.length ns 0]≤1048576:=by
  intro n hd;have hg2:=hgt;rw[jK hd]at hg2
  simp only[Bool.and_eq_true,decide_eq_true_eq]at hg2
  omega
 have HCN:Hid _:=@hcnt
 generalize growF ns.length ns 0=t at *
 clear h h' htd hgt hcnt hg
 go_enter Tryz.func8,Tryz.ntmps8
 go_wp2_with fail
 generalize (w.alloc (.cells #[.slice a ns.length c] 29)).alloc (.cells #[.slice a' ns.length c'] 29)=W1 at *
 refine Calls.mono HT1.out ?_;rintro e w2 ⟨va,vk,rfl,hA2,hK2,hb2⟩;obtain ⟨aa,ac,rfl⟩:=hA2.shape;obtain ⟨ka,kc,rfl,_,_⟩:=qa.shape ns.length hK2;have hb3:=Below.alloc1 w2 (.cells #[.bool t.text,.string t.s,.slice aa t.attrs.length ac,.slice ka t.kids.length kc] 51);have hb23:=hb2.trans (hb3.mono hb2.size);have hB3:=hb1.trans (hb23.mono hb1.size);have HX3:Hid _:=heap_alloc_new w2 (.cells #[.bool t.text,.string t.s,.slice aa t.attrs.length ac,.slice ka t.kids.length kc] 51);have HY3:Hid _:=(hb23.block _ (qe HY1.out)).trans HY1.out;have HA3:Hid _:=qj.later hA2 hb3;have HK3:Hid _:=qa.later hb3 ns.length hK2;have y3:(w2.alloc (.cells #[.bool t.text,.string t.s,.slice aa t.attrs.length ac,.slice ka t.kids.length kc] 51)).cell? ⟨w.heap.size+1,0,none⟩=some (.slice a' ns.length c'):=by rw[cH9 HY3.out];rfl
 clear hA2 hK2 hb2 hb3 hb23 HT1 HY1;go_wp2_with fail
 generalize w2.alloc (.cells #[.bool t.text,.string t.s,.slice aa t.attrs.length ac,.slice ka t.kids.length kc] 51)=W3 at *
 refine Calls.mono (HT2.out W3 hB3) ?_;rintro e w4 ⟨va4,vk4,rfl,hA4,hK4,hb4⟩;obtain ⟨aa4,ac4,rfl⟩:=hA4.shape;obtain ⟨ka4,kc4,rfl,_,_⟩:=qa.shape ns.length hK4;have hb5:=Below.alloc1 w4 (.cells #[.bool t.text,.string t.s,.slice aa4 t.attrs.length ac4,.slice ka4 t.kids.length kc4] 51);have hb45:=hb4.trans (hb5.mono hb4.size);have hB5:=hB3.trans (hb45.mono hB3.size);have HX5:Hid _:=(hb45.block _ (qe HX3.out)).trans HX3.out;have HZ5:Hid _:=heap_alloc_new w4 (.cells #[.bool t.text,.string t.s,.slice aa4 t.attrs.length ac4,.slice ka4 t.kids.length kc4] 51);have x0:(w4.alloc (.cells #[.bool t.text,.string t.s,.slice aa4 t.attrs.length ac4,.slice ka4 t.kids.length kc4] 51)).cell? ⟨w2.heap.size,0,none⟩=some (.bool t.text):=by rw[cH9 HX5.out];rfl
 have x1:(w4.alloc (.cells #[.bool t.text,.string t.s,.slice aa4 t.attrs.length ac4,.slice ka4 t.kids.length kc4] 51)).cell? ⟨w2.heap.size,1,none⟩=some (.string t.s):=by rw[cH9 HX5.out];rfl
 have x2:(w4.alloc (.cells #[.bool t.text,.string t.s,.slice aa4 t.attrs.length ac4,.slice ka4 t.kids.length kc4] 51)).cell? ⟨w2.heap.size,2,none⟩=some (.slice aa t.attrs.length ac):=by rw[cH9 HX5.out];rfl
 have x3:(w4.alloc (.cells #[.bool t.text,.string t.s,.slice aa4 t.attrs.length ac4,.slice ka4 t.kids.length kc4] 51)).cell? ⟨w2.heap.size,3,none⟩=some (.slice ka t.kids.length kc):=by rw[cH9 HX5.out];rfl
 have HSM:Hid _:=qcN _ _ ns.length _ _ _ _ t t _ (qj.later HA3.out hb45) (qa.later hb45 ns.length HK3.out) (qj.later hA4 hb5) (qa.later hb5 ns.length hK4) (HCN.out (qa.deep ns.length hK4));rw[like_refl _ _ (show Deep (ns.length+1) [t] from fun u hu=>by rw[List.mem_singleton.1 hu];exact qa.deep ns.length hK4)]at HSM
 clear hA4 hK4 hb4 hb5 hb45 HX3 HA3 HK3 HT2 y3 HX5;go_wp2_with fail;refine Calls.mono HSM.out ?_;rintro e w6 ⟨rfl,hb6⟩;go_wp2_with fail;go_ret;exact ⟨rfl,hB5.trans (hb6.mono hB5.size)⟩
end
end Go.Proofs.YtchkbffgancidaaGreatDoor
/- What a store's acts keep, on plain data: who is refused changes nothing. No condition. -/
namespace Go.Proofs.YtchkbffgancidaaGreatDoor
open Go.RowKit
set_option maxRecDepth 100000
end Go.Proofs.YtchkbffgancidaaGreatDoor
namespace Go.Proofs.YtchkbffgancidaaGreatDoor
open Go.ChangeShapes Go.WideShapes Go.ChangeAt Go.RowKit
set_option maxRecDepth 100000
theorem YO {S:Nat→Prop}{w:World}{v:Value}{ns:List Nd}(h:qu S w v ns)(hg:qr ns=true):QG (fun b=>S b∧b<w.heap.size) w v ns :=
 ⟨h.bounded,fun _ hb=>hb.2,(Q8 hg).1,(Q8 hg).2⟩
section
attribute [local go_sem] qd
theorem Qi {P:Program}{ops:Array Oper}{o:Oper}{a:Act}{w:World}{K:Act→World→Prop}{Q:Exit→Act→World→Prop}{E:Prop}
 (hw:Region.wanted o (yielded ops a.tmps)=true) (f:FuncId) (args:Array Value) (hrun:(execOp a.eval o).run P w=.ok (.enter f args) w)
 (R:Value→World→Prop) (hc:Calls P f args w fun e w'=>∃ r,e=.returned r∧R r w')
 (hK:∀ r w',R r w'→K (a.put o.dst r) w') :
 if Region.wanted o (yielded ops a.tmps)=true then Oper.wp P o a w K Q else E:=by
 rw[if_pos hw];unfold Oper.wp;rw[hrun,Oper.upon_enter];refine hc.mono ?_;rintro e w' ⟨r,rfl,hr⟩;exact hK r w' hr
theorem QZ (S:Nat→Prop)(sb n:Nat)(ns:List Nd)(w:World)(h:Sto S w sb ns n):Calls Tryz.prog 9 #[.pointer (some ⟨sb,0,none⟩)] w fun e w'=>∃ r,e=.returned r∧((∃ aq cq,r=.agg #[.slice aq ns.length cq]∧qu (fun b=>w.heap.size≤b) w' (.slice aq ns.length cq) ns)∧Below w.heap.size w w'):=by
 refine (Xt S sb n ns w h).mono ?_;rintro e w' ⟨v,rfl,h1,h2⟩;obtain ⟨aq,cq,rfl,_,_⟩:=h1.shape;exact ⟨_,rfl,⟨aq,cq,rfl,h1⟩,h2⟩
theorem J8 (S S':Nat→Prop)(vd vd':Value)(ns:List Nd)(w:World)(h:qu S w vd ns)(h':qu S' w vd' ns)(hg:qr ns=true):Calls Tryz.prog 8 #[.agg #[vd],.agg #[vd']] w fun e w'=>∃ r,e=.returned r∧(r=.bool true∧Below w.heap.size w w'):=by
 refine (KT _ _ _ _ ns w (YO h hg) (YO h' hg) hg).mono ?_;rintro e w' ⟨rfl,h2⟩;exact ⟨_,rfl,rfl,h2⟩
set_option linter.unusedSimpArgs false in
set_option maxHeartbeats 4000000 in
theorem Kx (p ob:Nat)(w w1:World)(S0:Nat→Prop)(l:List Ac)(hS0:∀ b,S0 b→b<w.heap.size)(hz:Xj l)(hE:yU w)(hob:w.heap.size≤ob)(hol:ob<w1.heap.size)(hpl:p<w1.heap.size)(hpo:p≠ob):qd6 6 p ob w w1 S0 l:=by
 intro S sb i a vd vs W ha hi50 hB hsb hSw hSt hvd hO hstr;obtain ⟨da,dc,rfl⟩:=hvd;obtain ⟨sa,sc,rfl,_,_⟩:=hstr.shape;obtain ⟨T,hT,hOt,hp⟩:=hO;have HSN:Hid _:=KS ha;have hza:=hz a (List.mem_of_getElem? ha);have HPO:Hid (∀ W',(∃ T':Nat→Prop,(∀ b,T' b→b≠sb∧b≠p)∧Sto T' W' ob (zG (l.take (i+1))).1 (zG (l.take (i+1))).2∧W'.heap[p]?=some (.cells #[.pointer (some ⟨ob,0,none⟩)] 23 (0,0)))→xg p ob sb l (i+1) W'):=fun W' h=>h
 generalize hP0:zG (l.take i)=P0 at *
 generalize hP1:zG (l.take (i+1))=P1 at *
 obtain ⟨ns0,n0⟩:=P0;simp only at HSN hOt ⊢
 obtain ⟨rep,ns1,n1,hrd⟩:∃ rep ns1 n1,xR a ns0 n0=(rep,ns1,n1):=⟨_,_,_,rfl⟩;have HRD:Hid _:=hrd;rw[hrd]at HSN ⊢
 simp only at HSN ⊢
 obtain ⟨rc,rn,rt⟩:=rep;rw[HSN.out]at hSt HPO
 clear hP0 hP1 HSN hrd;simp only at hSt ⊢
 have hg1:=hSt.good;obtain ⟨_,_,hbx,_,_⟩:=hSt.box;have hsbl:=qe hbx;have hplW:=qe hp;have hb3:Below W.heap.size W (((W.alloc (.cells #[.slice da ns0.length dc] 29)).alloc (.cells #[.int .i64 a.kind,.slice sa a.lines.length sc] 32)).alloc (.cells #[.int .i64 rc,.int .i64 rn,.string rt] 35)):=((Below.alloc1 W _).alloc (by simp) _).alloc (by simp;omega) _
 have HA3:Hid ((((W.alloc (.cells #[.slice da ns0.length dc] 29)).alloc (.cells #[.int .i64 a.kind,.slice sa a.lines.length sc] 32)).alloc (.cells #[.int .i64 rc,.int .i64 rn,.string rt] 35)).heap[W.heap.size+1]?=some (.cells #[.int .i64 a.kind,.slice sa a.lines.length sc] 32 (0,0))):=by
  show _=_
  rw[heap_alloc_old _ _ (by simp)]
  have:=heap_alloc_new (W.alloc (.cells #[.slice da ns0.length dc] 29)) (.cells #[.int .i64 a.kind,.slice sa a.lines.length sc] 32);rw[World.size_alloc]at this
  exact this
 have HR3:Hid ((((W.alloc (.cells #[.slice da ns0.length dc] 29)).alloc (.cells #[.int .i64 a.kind,.slice sa a.lines.length sc] 32)).alloc (.cells #[.int .i64 rc,.int .i64 rn,.string rt] 35)).heap[W.heap.size+1+1]?=some (.cells #[.int .i64 rc,.int .i64 rn,.string rt] 35 (0,0))):=by
  have:=heap_alloc_new ((W.alloc (.cells #[.slice da ns0.length dc] 29)).alloc (.cells #[.int .i64 a.kind,.slice sa a.lines.length sc] 32)) (.cells #[.int .i64 rc,.int .i64 rn,.string rt] 35);rw[World.size_alloc,World.size_alloc]at this
  exact this
 have hsz3:W.heap.size+1+1<(((W.alloc (.cells #[.slice da ns0.length dc] 29)).alloc (.cells #[.int .i64 a.kind,.slice sa a.lines.length sc] 32)).alloc (.cells #[.int .i64 rc,.int .i64 rn,.string rt] 35)).heap.size:=qe HR3.out;have HP3:Hid _:=(hb3.block p hplW).trans hp;have HST:Hid (Sto S (((W.alloc (.cells #[.slice da ns0.length dc] 29)).alloc (.cells #[.int .i64 a.kind,.slice sa a.lines.length sc] 32)).alloc (.cells #[.int .i64 rc,.int .i64 rn,.string rt] 35)) sb ns1 n1):=hSt.later hb3;have HOT:Hid (Sto T (((W.alloc (.cells #[.slice da ns0.length dc] 29)).alloc (.cells #[.int .i64 a.kind,.slice sa a.lines.length sc] 32)).alloc (.cells #[.int .i64 rc,.int .i64 rn,.string rt] 35)) ob ns0 n0):=hOt.later hb3;have HSR:Hid (Strs S0 (((W.alloc (.cells #[.slice da ns0.length dc] 29)).alloc (.cells #[.int .i64 a.kind,.slice sa a.lines.length sc] 32)).alloc (.cells #[.int .i64 rc,.int .i64 rn,.string rt] 35)) (.slice sa a.lines.length sc) a.lines):=hstr.later hb3;have hB3:=hB.trans (hb3.mono hB.size);have HCF:Hid (∀ W',CFr ob (((W.alloc (.cells #[.slice da ns0.length dc] 29)).alloc (.cells #[.int .i64 a.kind,.slice sa a.lines.length sc] 32)).alloc (.cells #[.int .i64 rc,.int .i64 rn,.string rt] 35)) W'→CFr ob W W'):=fun W' h=>(Zv hb3 (nR9 _)).trans h
 have HG1:Hid _:=hg1;have HSW:Hid _:=hSw;have HTT:Hid (∀ b,T b→b<W.heap.size∧b≠sb∧b≠p):=fun b hb=>⟨(hOt.here b hb).1,hT b hb⟩
 have HS0:Hid _:=hS0;have HE:Hid _:=hE;clear hbx hb3 hSt hOt hstr hp hT hg1 hSw hS0 hz hE hB
 go_enter Tryz.func6,Tryz.ntmps6
 go_wp2_with fail
 generalize (((W.alloc (.cells #[.slice da ns0.length dc] 29)).alloc (.cells #[.int .i64 a.kind,.slice sa a.lines.length sc] 32)).alloc (.cells #[.int .i64 rc,.int .i64 rn,.string rt] 35))=W3 at *
 have hbn:Below W3.heap.size W3 W3.drew:=(Below.refl _ W3).drew;have hBn:Below w.heap.size w W3.drew:=hB3.trans (hbn.mono hB3.size)
 have HCC:Hid (∀ V:World,V.heap[p]?=W3.heap[p]?→V.heap[W.heap.size+1]?=W3.heap[W.heap.size+1]?→V.heap[W.heap.size+1+1]?=W3.heap[W.heap.size+1+1]?→V.cell? ⟨p,0,none⟩=some (.pointer (some ⟨ob,0,none⟩))∧V.cell? ⟨W.heap.size+1,0,none⟩=some (.int .i64 a.kind)∧V.cell? ⟨W.heap.size+1,1,none⟩=some (.slice sa a.lines.length sc)∧V.cell? ⟨W.heap.size+1+1,0,none⟩=some (.int .i64 rc)∧V.cell? ⟨W.heap.size+1+1,1,none⟩=some (.int .i64 rn)∧V.cell? ⟨W.heap.size+1+1,2,none⟩=some (.string rt)):=by
  intro V h1 h2 h3;have e1:=h1.trans HP3.out;have e2:=h2.trans HA3.out;have e3:=h3.trans HR3.out;refine ⟨?_,?_,?_,?_,?_,?_⟩
  · rw[cH9 e1];rfl
  · rw[cH9 e2];rfl
  · rw[cH9 e2];rfl
  · rw[cH9 e3];rfl
  · rw[cH9 e3];rfl
  · rw[cH9 e3];rfl
 refine wp_region_held_drew (S:=fun V:World=>V.cell? ⟨p,0,none⟩=some (.pointer (some ⟨ob,0,none⟩))∧V.cell? ⟨W.heap.size+1,0,none⟩=some (.int .i64 a.kind)∧V.cell? ⟨W.heap.size+1,1,none⟩=some (.slice sa a.lines.length sc)∧V.cell? ⟨W.heap.size+1+1,0,none⟩=some (.int .i64 rc)∧V.cell? ⟨W.heap.size+1+1,1,none⟩=some (.int .i64 rn)∧V.cell? ⟨W.heap.size+1+1,2,none⟩=some (.string rt)) (by kernel_rfl) (HCC.out _ rfl rfl rfl) (fun hHeld=>?_)
 refine wqi [0,1,3] ?_
 repeat (refine wqt (v:=?_) rfl (by kernel_rfl) (fun _ _ _ h=>h) (by rfl) (by assumption) ?_ ?_;rotate_left;(· (intro w hSw;(try dsimp only at hSw);go_simp;try with_reducible rfl));try simp only[Act.put,List.getElem_toArray,List.getElem_cons_succ,List.getElem_cons_zero,List.setIfInBounds_toArray,List.set_cons_zero,List.set_cons_succ])
 refine wqn ?_
 have HDO:Hid (Calls Tryz.prog 7 #[.pointer (some ⟨ob,0,none⟩),.agg #[.int .i64 a.kind,.slice sa a.lines.length sc]] W3.drew fun e w'=>∃ r,e=.returned r∧(r=.agg #[.int .i64 rc,.int .i64 rn,.string rt]∧(∃ T':Nat→Prop,(∀ b,T' b→b≠sb∧b≠p)∧Sto T' w' ob ns1 n1)∧CFr ob W3.drew w')):=by
  have:=Xs T S0 ob n0 ns0 _ a w W3.drew (HOT.out.later hbn) (Strs.later HSR.out hbn) (fun b hb=>by have:=HS0.out b hb;omega) HE.out hBn hob hza
  rw[HRD.out]at this
  refine this.mono ?_;rintro e w' ⟨rfl,⟨T',h1,h2⟩,h3⟩;refine ⟨_,rfl,rfl,⟨T',fun b hb=>?_,h2⟩,h3⟩
  have hd:W3.drew.heap.size=W3.heap.size:=rfl
  rcases h1 b hb with h|h
  · exact (HTT.out b h).2
  · omega
 refine wpAnyH_ready (rs:=[2]) (by kernel_rfl) (by simp) ?_
 refine AllReadyH.cons rfl (fun K hK=>?_) AllReadyH.nil
 refine qK (by rfl) 7 #[.pointer (some ⟨ob,0,none⟩),.agg #[.int .i64 a.kind,.slice sa a.lines.length sc]] (by go_simp) _ HDO.out ?_
 rintro v11 w11 ⟨rfl,⟨T11,hT11,hO11⟩,hF11⟩;have hF3:CFr ob W3 w11:=(Zv hbn (nR9 _)).trans hF11;have hs11:=hF3.below.size
 have HC11:Hid (∀ V,Below w11.heap.size w11 V→V.cell? ⟨p,0,none⟩=some (.pointer (some ⟨ob,0,none⟩))∧V.cell? ⟨W.heap.size+1,0,none⟩=some (.int .i64 a.kind)∧V.cell? ⟨W.heap.size+1,1,none⟩=some (.slice sa a.lines.length sc)∧V.cell? ⟨W.heap.size+1+1,0,none⟩=some (.int .i64 rc)∧V.cell? ⟨W.heap.size+1+1,1,none⟩=some (.int .i64 rn)∧V.cell? ⟨W.heap.size+1+1,2,none⟩=some (.string rt)):=by
  intro V hV;refine HCC.out V ?_ ?_ ?_
  · exact (hV.block _ (by omega)).trans (hF3.frame _ (by omega) hpo)
  · exact (hV.block _ (by omega)).trans (hF3.frame _ (by omega) (by omega))
  · exact (hV.block _ (by omega)).trans (hF3.frame _ (by omega) (by omega))
 have HST11:Hid (Sto S w11 sb ns1 n1):=HST.out.keep hs11 fun b hb=>hF3.frame b (by
  rcases hb with hb|rfl
  · exact (HST.out.here b hb).1
  · omega) (by
  rcases hb with hb|rfl
  · have:=HSW.out b hb;omega
  · omega)
 have HO11:Hid _:=hO11;have HT11:Hid _:=hT11;have HP11:Hid _:=(hF3.frame p (by omega) hpo).trans HP3.out
 have hBw11:=jC hB3 hF3 hob;have HCF11:Hid (CFr ob W w11):=HCF.out _ hF3;refine hK.out _ _ (HC11.out w11 (Below.refl _ _)) (fun hHeld=>?_)
 clear hK K hO11 hT11 hF11 hF3
 try simp only[Act.put,List.getElem_toArray,List.getElem_cons_succ,List.getElem_cons_zero,List.setIfInBounds_toArray,List.set_cons_zero,List.set_cons_succ]
 refine wqi [4,5,6,8] ?_
 repeat (refine wqt (v:=?_) rfl (by kernel_rfl) (fun _ _ _ h=>h) (by rfl) (by assumption) ?_ ?_;rotate_left;(· (intro w hSw;(try dsimp only at hSw);go_simp;try with_reducible rfl));try simp only[Act.put,List.getElem_toArray,List.getElem_cons_succ,List.getElem_cons_zero,List.setIfInBounds_toArray,List.set_cons_zero,List.set_cons_succ])
 refine wqn ?_;refine wpAnyH_ready (rs:=[7]) (by kernel_rfl) (by simp) ?_
 refine AllReadyH.cons rfl (fun K hK=>?_) AllReadyH.nil
 refine Qi (by rfl) 9 #[.pointer (some ⟨sb,0,none⟩)] (by go_simp) _ (QZ S sb n1 ns1 w11 HST11.out) ?_
 rintro v12 w12 ⟨⟨a12,c12,rfl,hN12⟩,hb12⟩;refine hK.out _ _ (HC11.out w12 hb12) (fun hHeld=>?_)
 clear hK K
 try simp only[Act.put,List.getElem_toArray,List.getElem_cons_succ,List.getElem_cons_zero,List.setIfInBounds_toArray,List.set_cons_zero,List.set_cons_succ]
 refine wpAnyH_ready (rs:=[9]) (by kernel_rfl) (by simp) ?_
 refine AllReadyH.cons rfl (fun K hK=>?_) AllReadyH.nil
 refine Qi (by rfl) 9 #[.pointer (some ⟨ob,0,none⟩)] (by go_simp) _ (QZ T11 ob n1 ns1 w12 (HO11.out.later hb12)) ?_
 rintro v13 w13 ⟨⟨a13,c13,rfl,hN13⟩,hb13⟩;have hb1113:=hb12.trans (hb13.mono hb12.size);refine hK.out _ _ (HC11.out w13 hb1113) (fun hHeld=>?_)
 clear hK K
 try simp only[Act.put,List.getElem_toArray,List.getElem_cons_succ,List.getElem_cons_zero,List.setIfInBounds_toArray,List.set_cons_zero,List.set_cons_succ]
 refine wpAnyH_ready (rs:=[10]) (by kernel_rfl) (by simp) ?_
 refine AllReadyH.cons rfl (fun K hK=>?_) AllReadyH.nil
 refine Qi (by rfl) 8 #[.agg #[.slice a12 ns1.length c12],.agg #[.slice a13 ns1.length c13]] (by go_simp) _ (J8 _ _ _ _ ns1 w13 (qu.later hN12 hb13) hN13 HG1.out) ?_
 rintro v14 w14 ⟨rfl,hb14⟩;have hb1114:=hb1113.trans (hb14.mono hb1113.size);refine hK.out _ _ (HC11.out w14 hb1114) (fun hHeld=>?_)
 clear hK K
 try simp only[Act.put,List.getElem_toArray,List.getElem_cons_succ,List.getElem_cons_zero,List.setIfInBounds_toArray,List.set_cons_zero,List.set_cons_succ]
 refine wqi [11,12] ?_
 repeat (refine wqt (v:=?_) rfl (by kernel_rfl) (fun _ _ _ h=>h) (by rfl) (by assumption) ?_ ?_;rotate_left;(· (intro w hSw;(try dsimp only at hSw);go_simp;try with_reducible rfl));try simp only[Act.put,List.getElem_toArray,List.getElem_cons_succ,List.getElem_cons_zero,List.setIfInBounds_toArray,List.set_cons_zero,List.set_cons_succ])
 refine wqn ?_;refine wpAnyH_done (by kernel_rfl) ?_ _
 have HST14:Hid (Sto S w14 sb ns1 n1):=HST11.out.later hb1114;have HO14:Hid (Sto T11 w14 ob ns1 n1):=HO11.out.later hb1114;have HP14:Hid _:=(hb1114.block p (qe HP11.out)).trans HP11.out;have HCF14:Hid (CFr ob W w14):=HCF11.out.trans (Zv hb1114 (nR9 _));have HDC:Hid _:=Yu S sb n1 ns1 w14 HST14.out;clear hHeld HC11 HDO HCC hb12 hb13 hb14 hb1113 hb1114 hN12 hN13 HST11 HO11 HP11 HCF11 HCF HST HOT HSR HA3 HR3 HP3 hbn hBn hB3 hBw11;go_wp2_with fail;refine Calls.mono HDC.out ?_;rintro e w16 ⟨g,cap,rfl,⟨ms,hD,hOw⟩,hb16⟩;have HSP:Hid (Spl w14 g cap ns1.length w16.heap.size ms (w16.alloc (.cells #[.slice (some ⟨g,0,none⟩) ns1.length cap] 29))):=Spl.start hD hOw hb16;have hml:=hD.len;have hn80:ns1.length≤80:=(jA HG1.out).1;clear hD hOw hb16 HDC;go_wp2_with fail
 generalize w16.alloc (.cells #[.slice (some ⟨g,0,none⟩) ns1.length cap] 29)=W17 at *
 generalize w16.heap.size=db at *
 go_loopg [32] ns1.length (fun gh vi wr=>∃ k:Nat,k+gh=ns1.length∧vi=.int .i64 (k:Int)∧Spl w14 g cap ns1.length db ms wr)
 case atStart => exact ⟨0,by omega,rfl,HSP.out⟩
 case round =>
  obtain ⟨k,hkg,rfl,hS⟩:=hrel;have HS:Hid (Spl w14 g cap ns1.length db ms wr):=hS;clear hS HSP
  by_cases hlt:k<ns1.length
  · have hlti : (k : Int) < (ns1.length : Int) := by omega
    obtain ⟨r,hr⟩:∃ r,ms[k]?=some r:=⟨ms[k]'(by omega),by simp⟩
    have HR:Hid (ms[k]?=some r):=hr;obtain ⟨x0,xa,_,_,_⟩:=HS.out.at hr
    obtain ⟨⟨aa,na,ca,hva,hac,hacm,_⟩,⟨ka,nk,ck,hvk,hkc,hkcm,_⟩⟩:=HS.out.own k r hr;rw[hva]at xa
    have HVA:Hid (r.va=.slice aa na ca):=hva;have HVK:Hid (r.vk=.slice ka nk ck):=hvk;unfold maxLen at hacm hkcm
    clear hva hvk hr;go_wp2_with fail
    go_loopg [42] na (fun gh vi wr=>∃ q:Nat,q+gh=na∧vi=.int .i64 (q:Int)∧Spl w14 g cap ns1.length db ms wr)
    case atStart => exact ⟨0,by omega,rfl,HS.out⟩
    case round =>
     obtain ⟨q,hqg,rfl,hS⟩:=hrel;clear x0 xa HS;have HS:Hid (Spl w14 g cap ns1.length db ms wr):=hS;clear hS;obtain ⟨x0,xa,xk,_,_⟩:=HS.out.at HR.out
     by_cases hql:q<na
     · have hqi : (q : Int) < (na : Int) := by omega
       rw[HVA.out]at xa
       have oa:=(HS.out.own k r HR.out).1;rw[HVA.out]at oa
       obtain ⟨b,rfl,hb1,hb2,hb3,⟨z,hz⟩,hzf⟩:=oa.at hql (q:=1) (by omega)
       have HS3:Hid _:=HS.out.set (o:=q*2+1) hb1 hb2 hb3 (.string ⟨#[115,112,111,105,108,116]⟩);clear oa xk;go_wp2_with fail
       go_roundg (na-(q+1))
       case measure => omega
       case rel => exact ⟨q+1,by omega,by go_num,HS3.out⟩
     · have hqi : ¬ ((q : Int) < (na : Int)) := by omega
       rw[HVK.out]at xk
       clear xa;go_wp2_with fail
       go_loopg [62] nk (fun gh vi wr=>∃ q:Nat,q+gh=nk∧vi=.int .i64 (q:Int)∧Spl w14 g cap ns1.length db ms wr)
       case atStart => exact ⟨0,by omega,rfl,HS.out⟩
       case round =>
        obtain ⟨q2,hqg2,rfl,hS⟩:=hrel;clear x0 xk HS hqi hqg;have HS:Hid (Spl w14 g cap ns1.length db ms wr):=hS;clear hS;obtain ⟨x0,xa,xk,⟨xs,x1⟩,f1⟩:=HS.out.at HR.out
        by_cases hql2:q2<nk
        · have hqi : (q2 : Int) < (nk : Int) := by omega
          rw[HVK.out]at xk
          have ok:=(HS.out.own k r HR.out).2;rw[HVK.out]at ok
          obtain ⟨b,rfl,hb1,hb2,hb3,⟨z,hz⟩,hzf⟩:=ok.at hql2 (q:=0) (by omega)
          have HS3:Hid _:=HS.out.set (o:=q2) hb1 hb2 hb3 (.int .i64 (-1));simp only[Nat.mul_one,Nat.add_zero]at hz hzf
          clear ok xa x1 f1;go_wp2_with fail
          go_roundg (nk-(q2+1))
          case measure => omega
          case rel => exact ⟨q2+1,by omega,by go_num,HS3.out⟩
        · have hqi : ¬ ((q2 : Int) < (nk : Int)) := by omega
          have HS3:Hid _:=HS.out.setS k (.string ⟨#[115,112,111,105,108,116]⟩);clear xa xk;go_wp2_with fail
          go_roundg (ns1.length-(k+1))
          case measure => omega
          case rel => exact ⟨k+1,by omega,by go_num,HS3.out⟩
  · have hlti : ¬ ((k : Int) < (ns1.length : Int)) := by omega
    have hb17:=HS.out.below;have HST17:Hid (Sto S wr sb ns1 n1):=HST14.out.later hb17;have HO17:Hid (Sto T11 wr ob ns1 n1):=HO14.out.later hb17;have HP17:Hid _:=(hb17.block p (qe HP14.out)).trans HP14.out;have HCF17:Hid (CFr ob W wr):=HCF14.out.trans (Zv hb17 (nR9 _))
    have HCP:Hid (∀ V,Below wr.heap.size wr V→V.cell? ⟨p,0,none⟩=some (.pointer (some ⟨ob,0,none⟩))):=by
     intro V hV;have e1:=(hV.block p (qe HP17.out)).trans HP17.out;rw[cH9 e1];rfl
    clear HST14 HO14 HP14 HCF14 HS hb17;go_wp2_with fail;have hbn:Below wr.heap.size wr wr.drew:=(Below.refl _ wr).drew;refine wp_region_held_drew (S:=fun V:World=>V.cell? ⟨p,0,none⟩=some (.pointer (some ⟨ob,0,none⟩))) (by kernel_rfl) (HCP.out _ hbn) (fun hHeld=>?_)
    refine wqi [0,2] ?_
    repeat (refine wqt (v:=?_) rfl (by kernel_rfl) (fun _ _ _ h=>h) (by rfl) (by assumption) ?_ ?_;rotate_left;(· (intro w hSw;(try dsimp only at hSw);go_simp;try with_reducible rfl));try simp only[Act.put,List.getElem_toArray,List.getElem_cons_succ,List.getElem_cons_zero,List.setIfInBounds_toArray,List.set_cons_zero,List.set_cons_succ])
    refine wqn ?_;refine wpAnyH_ready (rs:=[1]) (by kernel_rfl) (by simp) ?_
    refine AllReadyH.cons rfl (fun K hK=>?_) AllReadyH.nil
    refine qK (by rfl) 9 #[.pointer (some ⟨sb,0,none⟩)] (by go_simp) _ (QZ S sb n1 ns1 wr.drew (HST17.out.later hbn)) ?_
    rintro v12 w12 ⟨⟨a12,c12,rfl,hN12⟩,hb12⟩;have hbq:=hbn.trans (hb12.mono hbn.size);refine hK.out _ _ (HCP.out w12 hbq) (fun hHeld=>?_)
    clear hK K
    try simp only[Act.put,List.getElem_toArray,List.getElem_cons_succ,List.getElem_cons_zero,List.setIfInBounds_toArray,List.set_cons_zero,List.set_cons_succ]
    refine wpAnyH_ready (rs:=[3]) (by kernel_rfl) (by simp) ?_
    refine AllReadyH.cons rfl (fun K hK=>?_) AllReadyH.nil
    refine qK (by rfl) 9 #[.pointer (some ⟨ob,0,none⟩)] (by go_simp) _ (QZ T11 ob n1 ns1 w12 (HO17.out.later hbq)) ?_
    rintro v13 w13 ⟨⟨a13,c13,rfl,hN13⟩,hb13⟩;have hbq:=hbq.trans (hb13.mono hbq.size);refine hK.out _ _ (HCP.out w13 hbq) (fun hHeld=>?_)
    clear hK K
    try simp only[Act.put,List.getElem_toArray,List.getElem_cons_succ,List.getElem_cons_zero,List.setIfInBounds_toArray,List.set_cons_zero,List.set_cons_succ]
    refine wpAnyH_ready (rs:=[4]) (by kernel_rfl) (by simp) ?_
    refine AllReadyH.cons rfl (fun K hK=>?_) AllReadyH.nil
    refine qK (by rfl) 8 #[.agg #[.slice a12 ns1.length c12],.agg #[.slice a13 ns1.length c13]] (by go_simp) _ (J8 _ _ _ _ ns1 w13 (qu.later hN12 hb13) hN13 HG1.out) ?_
    rintro v14 w20 ⟨rfl,hb14⟩;have hbq:=hbq.trans (hb14.mono hbq.size);refine hK.out _ _ (HCP.out w20 hbq) (fun hHeld=>?_)
    clear hK K
    try simp only[Act.put,List.getElem_toArray,List.getElem_cons_succ,List.getElem_cons_zero,List.setIfInBounds_toArray,List.set_cons_zero,List.set_cons_succ]
    refine wqi [5] ?_
    repeat (refine wqt (v:=?_) rfl (by kernel_rfl) (fun _ _ _ h=>h) (by rfl) (by assumption) ?_ ?_;rotate_left;(· (intro w hSw;(try dsimp only at hSw);go_simp;try with_reducible rfl));try simp only[Act.put,List.getElem_toArray,List.getElem_cons_succ,List.getElem_cons_zero,List.setIfInBounds_toArray,List.set_cons_zero,List.set_cons_succ])
    refine wqn ?_;refine wpAnyH_done (by kernel_rfl) ?_ _
    have HFIN:Hid (CFr ob W w20∧xg p ob sb l (i+1) w20):=⟨HCF17.out.trans (Zv hbq (nR9 _)),HPO.out _ ⟨T11,HT11.out,HO17.out.later hbq,(hbq.block p (qe HP17.out)).trans HP17.out⟩⟩;clear hHeld HCP hbq;go_wp2_with fail;go_ret;exact ⟨rfl,HFIN.out⟩
set_option maxHeartbeats 1000000 in
theorem Jr (S0:Nat→Prop)(vl:Value)(l:List Ac)(w:World)(hL:Zq S0 w vl l)(hS0:∀ b,S0 b→b<w.heap.size)(hz:Xj l)(hE:yU w) :
 Calls Tryz.prog 3 #[vl] w fun e w'=>e=.returned (.bool true)∧Below w.heap.size w w':=by
 obtain ⟨la,lc,rfl,_,_⟩:=hL.shape;have HL:Hid (Zq S0 w (.slice la l.length lc) l):=hL;have HE:Hid _:=hE;have HZ:Hid _:=hz;have HS0:Hid _:=hS0;clear hL hE hz hS0
 go_enter Tryz.func3,Tryz.ntmps3
 go_wp2_with fail;refine Calls.mono (XC w) ?_;rintro e w1 ⟨ob,T,rfl,hob,hol,hT,hSt,hb1⟩;have hb2:=Below.alloc1 w1 (.cells #[.pointer (some ⟨ob,0,none⟩)] 23);have hB2:=hb1.trans (hb2.mono hb1.size);have hs2:w1.heap.size<(w1.alloc (.cells #[.pointer (some ⟨ob,0,none⟩)] 23)).heap.size:=by simp
 have HPL:Hid _:=qbl 6 w1.heap.size ob (fun _ _=>rfl) S0 T (.slice la l.length lc) l w _ HL.out HS0.out HZ.out HE.out hB2 hob (fun b hb=>by have:=(hSt.here b hb).1;omega) (hSt.later hb2) (heap_alloc_new _ _) (Kx w1.heap.size ob w _ S0 l HS0.out HZ.out HE.out hob (by omega) hs2 (by omega))
 clear hSt hT hb2 hB2 hs2;go_wp2_with fail;refine Calls.mono HPL.out ?_;rintro e w3 ⟨sb,rfl,hb3⟩;go_wp2_with fail;go_ret;exact ⟨rfl,hb3⟩
end
end Go.Proofs.YtchkbffgancidaaGreatDoor
