/- Bundled: AimW StoM StrsL ChW DocCp StoG StoW StoX StoD AliveM AliveW PlayW TopS StoP StoL TRefN. What each says stands ahead of it. -/
import Derived.Test.YtcedemhafgledaaGreatDoorBundle38
namespace Go.Proofs.YtcedemhafgledaaGreatDoor
open Go.ChangeShapes Go.WideShapes Go.ChangeAt Go.RowKit
set_option maxRecDepth 100000
section
attribute [local go_sem] qd
def Yx (o:Opn)(l:List Int):List Opn:=l.map fun n=>{ o with target:=n }
def xF (o:Opn)(ca:Option Addr)(cc:Nat)(l:List Int):List Orw:=l.map fun n=>⟨o.kind,n,ca,o.content.length,cc,o.name,o.s⟩
theorem XY {w w':World}{B:Nat}{e:TypeId}{k n:Nat}{v:Value}{xs:List Value}(h:w.ownsRow B e k v n xs)(hk:∀ g,v.ownBlock=some g→w'.heap[g]?=w.heap[g]?):w'.ownsRow B e k v n xs:=by
 refine ⟨h.1,?_⟩
 rcases h.2 with ⟨rfl,hz⟩|⟨g,cap,cur,rfl,hB,hh,hc,hm,hs,ht⟩
 · exact Or.inl ⟨rfl,hz⟩
 · exact Or.inr ⟨g,cap,cur,rfl,hB,(hk g rfl).trans hh,hc,hm,hs,ht⟩
theorem QP {w:World}{B B':Nat}{e:TypeId}{k n:Nat}{v:Value}{xs:List Value}(h:w.ownsRow B e k v n xs)(hB:B'≤B):w.ownsRow B' e k v n xs:=by
 refine ⟨h.1,?_⟩
 rcases h.2 with ⟨rfl,hz⟩|⟨g,cap,cur,rfl,hB1,hh,hc,hm,hs,ht⟩
 · exact Or.inl ⟨rfl,hz⟩
 · exact Or.inr ⟨g,cap,cur,rfl,Nat.le_trans hB hB1,hh,hc,hm,hs,ht⟩
theorem qbb (o:Opn)(ca:Option Addr)(cc:Nat){l:List Int}{k:Nat}{t:Int}(h:l[k]?=some t):qD (xF o ca cc (l.take (k+1)))=qD (xF o ca cc (l.take k))++[.int .i64 o.kind,.int .i64 t,.slice ca o.content.length cc,.string o.name,.string o.s]:=by
 have hk:=qh h;have e:l[k]=t:=by simpa[hk] using h
 rw[List.take_succ_eq_append_getElem hk,e];unfold xF qD;rw[List.map_append,List.flatMap_append];rfl
structure qeQ (w:World) (o:Opn) (ca:Option Addr) (cc:Nat) (l:List Int) (k:Nat) (v:Value) (wr:World):Prop where
 below:Below w.heap.size w wr
 box:∃ t:Int,wr.heap[w.heap.size]?=some (.cells #[.int .i64 o.kind,.int .i64 t,.slice ca o.content.length cc,.string o.name,.string o.s] 114 (0,0))
 row:wr.ownsRow (w.heap.size+1) 114 5 v k (qD (xF o ca cc (l.take k)))
set_option maxHeartbeats 1000000 in
theorem qbc (T:Nat→Prop)(o:Opn)(ca:Option Addr)(cc:Nat)(vi:Value)(l:List Int)(w:World)(hI:q5 T w vi l)(hl:l.length≤1048576) :
 Calls Tryz.prog 51 #[.agg #[.int .i64 o.kind,.int .i64 o.target,.slice ca o.content.length cc,.string o.name,.string o.s],vi] w fun e w'=>∃ v,e=.returned v∧w'.ownsRow w.heap.size 114 5 v l.length (qD (xF o ca cc l))∧Below w.heap.size w w':=by
 obtain ⟨ia,ic,rfl,hil,hic⟩:=hI.shape;obtain ⟨i0,hi,hz0,hz1,hz2⟩:=info_parts opInfo;have HI:Hid _:=hI;have HI0:Hid (qeQ w o ca cc l 0 (.slice none 0 0) (w.alloc (.cells #[.int .i64 o.kind,.int .i64 o.target,.slice ca o.content.length cc,.string o.name,.string o.s] 114))):=⟨Below.alloc1 w _,⟨_,heap_alloc_new w _⟩,World.ownsRow_nil _ _ _ _⟩;unfold maxLen at hic
 clear hI
 go_enter Tryz.func51,Tryz.ntmps51
 go_wp2_with fail
 go_loopg [10,5] l.length (fun g i u wr=>∃ (k:Nat) (v:Value),k+g=l.length∧i=.int .i64 k∧v=u∧qeQ w o ca cc l k v wr)
 case atStart => exact ⟨0,_,by omega,rfl,rfl,HI0.out⟩
 case round =>
  clear HI0;obtain ⟨k,v,hk,rfl,hvu,hA⟩:=hrel;subst hvu;obtain ⟨t0,hbx⟩:=hA.box;have HB:Hid _:=hA.below;have HRW:Hid _:=hA.row
  by_cases hlt:k<l.length
  · have hlti : (k : Int) < (l.length : Int) := by omega
    obtain ⟨t,ht⟩:∃ t,l[k]?=some t:=⟨l[k],by simp[hlt]⟩
    obtain ⟨b1,o1,c1,hv1,_,_,e1⟩:=(q5.later HI.out HB.out).at ht
    injection hv1 with hv1 hv1l hv1c
    subst hv1 hv1c;clear hv1l;have HSN:Hid _:=qbb o ca cc ht;have q0:wr.cell? ⟨w.heap.size,0,none⟩=some (.int .i64 o.kind):=by rw[cH9 hbx];rfl
    have q1:wr.cell? ⟨w.heap.size,1,none⟩=some (.int .i64 t0):=by rw[cH9 hbx];rfl
    have q2:wr.cell? ⟨w.heap.size,2,none⟩=some (.slice ca o.content.length cc):=by rw[cH9 hbx];rfl
    have q3:wr.cell? ⟨w.heap.size,3,none⟩=some (.string o.name):=by rw[cH9 hbx];rfl
    have q4:wr.cell? ⟨w.heap.size,4,none⟩=some (.string o.s):=by rw[cH9 hbx];rfl
    have qf:wr.frozen? ⟨w.heap.size,1,none⟩=false:=fH9 hbx _
    have hbx1:(wr.setCell ⟨w.heap.size,1,none⟩ (.int .i64 t)).heap[w.heap.size]?=some (.cells #[.int .i64 o.kind,.int .i64 t,.slice ca o.content.length cc,.string o.name,.string o.s] 114 (0,0)):=by
     simp[World.setCell,Array.getElem?_modify,hbx]
    have hrow1:(wr.setCell ⟨w.heap.size,1,none⟩ (.int .i64 t)).ownsRow (w.heap.size+1) 114 5 v k (qD (xF o ca cc (l.take k))):=XY HRW.out (fun g hg=>qb (by have:=(World.ownsRow.lt HRW.out g hg).1;omega))
    have hB1:Below w.heap.size w (wr.setCell ⟨w.heap.size,1,none⟩ (.int .i64 t)):=HB.out.setCell (p:=⟨w.heap.size,1,none⟩) (nR9 _) _;have p0:(wr.setCell ⟨w.heap.size,1,none⟩ (.int .i64 t)).cell? ⟨w.heap.size,0,none⟩=some (.int .i64 o.kind):=by rw[cH9 hbx1];rfl
    have p1:(wr.setCell ⟨w.heap.size,1,none⟩ (.int .i64 t)).cell? ⟨w.heap.size,1,none⟩=some (.int .i64 t):=by rw[cH9 hbx1];rfl
    have p2:(wr.setCell ⟨w.heap.size,1,none⟩ (.int .i64 t)).cell? ⟨w.heap.size,2,none⟩=some (.slice ca o.content.length cc):=by rw[cH9 hbx1];rfl
    have p3:(wr.setCell ⟨w.heap.size,1,none⟩ (.int .i64 t)).cell? ⟨w.heap.size,3,none⟩=some (.string o.name):=by rw[cH9 hbx1];rfl
    have p4:(wr.setCell ⟨w.heap.size,1,none⟩ (.int .i64 t)).cell? ⟨w.heap.size,4,none⟩=some (.string o.s):=by rw[cH9 hbx1];rfl
    have HX1:Hid _:=hbx1;have HW1:Hid _:=hrow1;have HB1:Hid _:=hB1;have hszw:w.heap.size<wr.heap.size:=qe hbx;clear hbx hbx1 hrow1 hB1 ht hA HRW;go_wp2_with (at_builtin;refine wpList_append_own_at _ rfl _ _ 92 rfl (w.heap.size+1) 114 i0 _ 5 72 Tryz.underlying92 hi hz0 hz1 hz2 rfl (by decide) v k (qD (xF o ca cc (l.take k))) rfl ?qc0 ⟨wr.heap.size,0,none⟩ 1 1 [.int .i64 o.kind,.int .i64 t,.slice ca o.content.length cc,.string o.name,.string o.s] rfl ?qc1 ?qc2 ?qc3 ?qc4 ?qc5 ?qc6 ?_)
    case qc0 => exact World.ownsRow.alloc HW1.out _
    case qc1 => rfl
    case qc2 =>
     intro j u hj;have hnew:=heap_alloc_new (wr.setCell ⟨w.heap.size,1,none⟩ (.int .i64 t)) (.cells #[.int .i64 o.kind,.int .i64 t,.slice ca o.content.length cc,.string o.name,.string o.s] 114);rw[World.size_setCell]at hnew
     rw[Addr.add_lit,Nat.zero_add,cH9 hnew]
     simpa using hj
    case qc3 =>
     intro u hu;simp only[List.mem_cons,List.not_mem_nil,or_false]at hu
     rcases hu with rfl|rfl|rfl|rfl|rfl<;>rfl
    case qc4 => unfold maxLen;omega
    case qc5 => omega
    case qc6 => simp;omega
    intro v2 W2 hown hgr _ _;have hbA:=Below.alloc1 (wr.setCell ⟨w.heap.size,1,none⟩ (.int .i64 t)) (.cells #[.int .i64 o.kind,.int .i64 t,.slice ca o.content.length cc,.string o.name,.string o.s] 114)
    have HI2:Hid (qeQ w o ca cc l (k+1) v2 W2):=by
     have hB2:Below (w.heap.size+1) ((wr.setCell ⟨w.heap.size,1,none⟩ (.int .i64 t)).alloc (.cells #[.int .i64 o.kind,.int .i64 t,.slice ca o.content.length cc,.string o.name,.string o.s] 114)) W2:=(Below.refl _ _).grown hgr (by simp;omega) (fun z hz=>(World.ownsRow.lt HW1.out z hz).1)
     have hBA:Below w.heap.size w ((wr.setCell ⟨w.heap.size,1,none⟩ (.int .i64 t)).alloc (.cells #[.int .i64 o.kind,.int .i64 t,.slice ca o.content.length cc,.string o.name,.string o.s] 114)):=HB1.out.alloc HB1.out.size _;refine ⟨hBA.trans (hB2.mono (by omega)),⟨t,?_⟩,?_⟩
     · exact (hB2.block _ (by omega)).trans ((hbA.block _ (qe HX1.out)).trans HX1.out)
     · rw[HSN.out];exact hown
    clear hown hgr hbA HX1 HW1 HB1 HSN p0 p1 p2 p3 p4 q0 q1 q2 q3 q4 qf;go_wp2_with fail
    go_roundg (l.length-(k+1))
    case measure => omega
    case rel => exact ⟨k+1,v2,by omega,by go_num,rfl,HI2.out⟩
  · have hlti : ¬ ((k : Int) < (l.length : Int)) := by omega
    have hkk:k=l.length:=by omega
    subst hkk;clear hA;go_wp2_with fail;go_ret;refine ⟨v,rfl,?_,HB.out⟩;have:=HRW.out;rw[List.take_length]at this
    exact QP this (by omega)
end
end Go.Proofs.YtcedemhafgledaaGreatDoor
namespace Go.Proofs.YtcedemhafgledaaGreatDoor
open Go.RowKit
set_option maxRecDepth 100000
abbrev Rep:=Int × Int × ByteArray
def q9 (c:Int):Rep:=(c,0,⟨#[]⟩)
def qM (ns:List Nd):List ByteArray→List Opn × Int
 | []=>([],0)
 | s :: r =>
   if (qX s.data.toList).2.2≠0 then ([],(qX s.data.toList).2.2)
   else if ZB ns (qX s.data.toList).2.1≠0 then ([],ZB ns (qX s.data.toList).2.1)
   else if Qu ns (qX s.data.toList).2.1=[] then ([],3)
   else if (qM ns r).2≠0 then ([],(qM ns r).2)
   else (Yx (qX s.data.toList).1 (Qu ns (qX s.data.toList).2.1)++(qM ns r).1,0)
def xX (l:List ByteArray)(ns:List Nd):Rep × List Nd :=
 match l with
 | [s]=>if (qu s.data.toList).2≠0 then (q9 (qu s.data.toList).2,ns) else ((0,((yi s.data.toList.length (qu s.data.toList).1).length:Int),⟨#[]⟩),yi s.data.toList.length (qu s.data.toList).1)
 | _=>(q9 1,ns)
def Za (ns:List Nd):Rep :=
 if (jx ns 0).2≠0 then q9 (jx ns 0).2
 else if (qO ns.length (jx ns 0).1).2≠0 then q9 (qO ns.length (jx ns 0).1).2
 else (0,(ns.length:Int),(qO ns.length (jx ns 0).1).1)
def jI (l:List ByteArray)(ns:List Nd):Rep × List Nd :=
 if 6<l.length then (q9 2,ns)
 else if (qM ns l).2≠0 then (q9 (qM ns l).2,ns)
 else if yB ns (qM ns l).1≠0 then (q9 (yB ns (qM ns l).1),ns)
 else ((0,((qM ns l).1.length:Int),⟨#[]⟩),yA ns (qM ns l).1)
structure Ac where
 kind:Int
 lines:List ByteArray
def yE (a:Ac)(ns:List Nd):Rep × List Nd :=
 if a.kind=1 then xX a.lines ns else if a.kind=2 then jI a.lines ns else if a.kind=3 then (Za ns,ns) else (q9 4,ns)
def zG (a:Ac)(ns:List Nd)(n:Nat):Rep × List Nd × Nat :=
 if 100≤n then (q9 7,ns,n) else ((yE a ns).1,(yE a ns).2,n+1)
def newD:List Nd:=[⟨false,⟨#[100,111,99]⟩,[],-1,[]⟩]
theorem K5 (s:ByteArray):Qz (yo s):=by
 intro x hx;unfold yo at hx
 cases hp:xS s.data.toList with
 | none=>rw[hp]at hx;simp[asS]at hx
 | some l =>
   rw[hp]at hx
   simp only[Option.getD_some]at hx
   have hl:Y9 l=true:=by
    unfold xS at hp
    split at hp
    · split at hp
      · cases hp
      · split at hp
        · rename_i h;cases hp;exact h
        · cases hp
    · cases hp
   rw[←qa0]at hl
   simp only[y9,Bool.and_eq_true,List.all_eq_true]at hl
   have h1:=hl.2 x hx;simp only[zY,Bool.and_eq_true,Bool.or_eq_true,decide_eq_true_eq]at h1
   rcases h1.2 with (h|h)|h
   · rw[h];exact nZ9 _
   · rw[h];show 1≤maxLen;unfold maxLen;omega
   · have:=Zw h;unfold maxLen;omega
theorem V8 (s:List UInt8):Qz (qX s).2.1:=by
 have h0:Qz []:=by intro x hx;cases hx
 unfold qX
 split
 · exact h0
 · split
   · exact h0
   · split
     · exact h0
     · split
       · exact h0
       · exact K5 _
theorem qeB {ns:List Nd}{l:List St}:(Qu ns l).length≤80:=by
 unfold Qu
 split
 · rename_i h
   simp only[Bool.and_eq_true]at h
   have hne:l≠[]:=by
    intro e;have:=h.2;rw[e]at this
    simp[y9]at this
   exact Nat.le_trans (Yp h.1 (qdx h.1 hne)) (Qn h.1)
 · exact nZ9 _
end Go.Proofs.YtcedemhafgledaaGreatDoor
namespace Go.Proofs.YtcedemhafgledaaGreatDoor
open Go.ChangeShapes Go.WideShapes Go.ChangeAt Go.RowKit
set_option maxRecDepth 100000
def Strs (S:Nat→Prop)(w:World)(v:Value)(l:List ByteArray):Prop :=
  ∃ a cap, v = .slice a l.length cap ∧ l.length ≤ cap ∧ cap ≤ maxLen ∧
    (l≠[]→∃ b o,a=some ⟨b,o,none⟩∧S b∧∀ (i:Nat) (x:ByteArray),l[i]?=some x→w.cell? ⟨b,o+i,none⟩=some (.string x))
theorem Strs.carry {S S':Nat→Prop}{w w':World}{v:Value}{l:List ByteArray}(h:Strs S w v l)(hw:∀ b,S b→S' b∧w'.heap[b]?=w.heap[b]?):Strs S' w' v l:=by
 obtain ⟨a,cap,h1,h2,h3,h4⟩:=h;refine ⟨a,cap,h1,h2,h3,fun hne=>?_⟩
 obtain ⟨b,o,ha,hs,hc⟩:=h4 hne;refine ⟨b,o,ha,(hw b hs).1,fun i x hx=>?_⟩
 rw[World.cell?_of_block (a:=⟨b,o+i,none⟩) (hw b hs).2];exact hc i x hx
theorem Strs.bounded {S:Nat→Prop}{w:World}{v:Value}{l:List ByteArray}(h:Strs S w v l):Strs (fun b=>S b∧b<w.heap.size) w v l:=by
 obtain ⟨a,cap,h1,h2,h3,h4⟩:=h;refine ⟨a,cap,h1,h2,h3,fun hne=>?_⟩
 obtain ⟨b,o,ha,hs,hc⟩:=h4 hne;refine ⟨b,o,ha,⟨hs,?_⟩,hc⟩;cases l with
 | nil=>exact absurd rfl hne
 | cons x r=>exact World.block_lt_of_cell? w _ (hc 0 x rfl)
theorem Strs.later {S:Nat→Prop}{w w':World}{v:Value}{l:List ByteArray}(h:Strs S w v l)(hb:Below w.heap.size w w'):Strs S w' v l :=
 h.bounded.carry fun b hb'=>⟨hb'.1,hb.block b hb'.2⟩
theorem Strs.shape {S:Nat→Prop}{w:World}{v:Value}{l:List ByteArray}(h:Strs S w v l):∃ a c,v=.slice a l.length c∧l.length≤c∧c≤maxLen:=by
 obtain ⟨a,cap,h1,h2,h3,_⟩:=h;exact ⟨a,cap,h1,h2,h3⟩
theorem Strs.at {S:Nat→Prop}{w:World}{v:Value}{l:List ByteArray}(h:Strs S w v l){i:Nat}{x:ByteArray}(hx:l[i]?=some x):∃ b o cap,v=.slice (some ⟨b,o,none⟩) l.length cap∧S b∧b<w.heap.size∧w.cell? ⟨b,o+i,none⟩=some (.string x):=by
 obtain ⟨a,cap,h1,h2,h3,h4⟩:=h;have hne:l≠[]:=by intro e;subst e;simp at hx
 obtain ⟨b,o,rfl,hs,hc⟩:=h4 hne;exact ⟨b,o,cap,h1,hs,World.block_lt_of_cell? w _ (hc i x hx),hc i x hx⟩
theorem Strs.nil {S:Nat→Prop}{w:World}:Strs S w (.slice none 0 0) []:=⟨none,0,rfl,nR9 _,nZ9 _,fun h=>absurd rfl h⟩
section
attribute [local go_sem] qd
def xw (acc:List Opn)(p:List Opn × Int):List Opn × Int:=if p.2≠0 then ([],p.2) else (acc++p.1,0)
theorem qdX (ns:List Nd):∀ l:List ByteArray,(qM ns l).2≠0→(qM ns l).1=[]:=by
 intro l h;cases l with
 | nil=>rfl
 | cons s r =>
   unfold qM at h ⊢
   split
   · rfl
   · split
     · rfl
     · split
       · rfl
       · split
         · rfl
         · rename_i h1 h2 h3 h4
           rw[if_neg h1,if_neg h2,if_neg h3,if_neg h4]at h
           exact absurd rfl h
theorem qcU (ns:List Nd)(l:List ByteArray):xw [] (qM ns l)=qM ns l:=by
 unfold xw
 split
 · rename_i h
   exact Prod.ext (qdX ns l h).symm rfl
 · rename_i h
   exact Prod.ext (by simp) (by simpa using (Classical.not_not.1 h).symm)
theorem qbE (a b:List Opn)(p:List Opn × Int):xw a (xw b p)=xw (a++b) p:=by
 unfold xw
 by_cases h:p.2≠0
 · rw[if_pos h,if_pos h,if_pos h]
 · rw[if_neg h,if_neg h,if_neg (by simp),List.append_assoc]
theorem qcC {ns:List Nd}{s:ByteArray}{r:List ByteArray}(h1:(qX s.data.toList).2.2=0)(h2:ZB ns (qX s.data.toList).2.1=0)(h3:Qu ns (qX s.data.toList).2.1≠[]):qM ns (s::r)=xw (Yx (qX s.data.toList).1 (Qu ns (qX s.data.toList).2.1)) (qM ns r):=by
 rw[qM,if_neg (by simpa using h1),if_neg (by simpa using h2),if_neg h3]
 rfl
structure ChI (w:World) (ns:List Nd) (vd:Value) (ls:List ByteArray) (k:Nat) (v:Value) (wr:World):Prop where
 below:Below w.heap.size w wr
 box:wr.heap[w.heap.size]?=some (.cells #[vd] 29 (0,0))
 rest:∃ (acc:List Opn) (rs:List Orw),wr.ownsRow (w.heap.size+1) 114 5 v acc.length (qD rs)∧rs.length=acc.length ∧
  (∀ (i:Nat) r x,rs[i]?=some r→acc[i]?=some x→Jr (fun b=>w.heap.size+1≤b∧b<wr.heap.size∧v.ownBlock≠some b) wr 2501 r x)∧acc.length≤80*k∧qM ns ls=xw acc (qM ns (ls.drop k))
theorem qdP {T:Nat→Prop}{w:World}{n:Nat}{o:Opn}{ca:Option Addr}{cc:Nat}(l:List Int)(hT:qa T w n (.slice ca o.content.length cc) o.content):∀ (i:Nat) r x,(xF o ca cc l)[i]?=some r→(Yx o l)[i]?=some x→Jr T w n r x:=by
 intro i r x hr hx;unfold xF at hr
 unfold Yx at hx
 rw[List.getElem?_map]at hr hx
 cases hl:l[i]? with
 | none=>rw[hl]at hr;simp at hr
 | some t =>
   rw[hl]at hr hx
   simp only[Option.map_some,Option.some.injEq]at hr hx
   subst hr hx;exact ⟨rfl,rfl,rfl,rfl,ca,cc,rfl,hT⟩
theorem Jr.carry {T T':Nat→Prop}{w w':World}{n:Nat}{r:Orw}{x:Opn}(h:Jr T w n r x)(hw:∀ b,T b→T' b∧w'.heap[b]?=w.heap[b]?):Jr T' w' n r x:=by
 obtain ⟨e1,e2,e3,e4,ca,cc,e5,hT⟩:=h;exact ⟨e1,e2,e3,e4,ca,cc,e5,qa.carry hw n hT⟩
set_option maxHeartbeats 2000000 in
theorem KH (S:Nat→Prop)(vd vl:Value)(ns:List Nd)(ls:List ByteArray)(w:World)(hD:QT S w vd ns)(hL:Strs S w vl ls)(hE:yz w)(h6:ls.length≤6)(hT:∀ s∈ls,s.size≤maxLen) :
 Calls Tryz.prog 37 #[.agg #[vd],vl] w fun e w'=>∃ v,e=.returned (.tuple #[v,.int .i64 (qM ns ls).2])∧Ops (fun b=>w.heap.size≤b) w' 2501 v (qM ns ls).1∧Below w.heap.size w w':=by
 obtain ⟨la,lc,rfl,hll,hlc⟩:=hL.shape;obtain ⟨na,nc,rfl,hnl,hnc⟩:=hD.nodes.shape;obtain ⟨i0,hi,hz0,hz1,hz2⟩:=info_parts opInfo;have HD:Hid _:=hD;have HL:Hid (Strs S w (.slice la ls.length lc) ls):=hL;have HT:Hid _:=hT;have HEV:Hid (∀ W,Below w.heap.size w W→yz W):=fun W hW=>hE.later hW
 have HI0:Hid (ChI w ns (.slice na ns.length nc) ls 0 (.slice none 0 0) (w.alloc (.cells #[.slice na ns.length nc] 29))):=⟨Below.alloc1 w _,heap_alloc_new w _,[],[],World.ownsRow_nil _ _ _ _,rfl,by intro i r x hr;simp at hr,nR9 _,by rw[List.drop_zero,qcU]⟩
 unfold maxLen at hlc hnc
 clear hD hL hE hT;have noOps:∀ W:World,Ops (fun b=>w.heap.size≤b) W 2501 (.slice none 0 0) []:=fun W=>⟨none,0,rfl,nR9 _,nZ9 _,fun h=>absurd rfl h⟩
 have HNO:Hid _:=noOps;clear noOps
 go_enter Tryz.func37,Tryz.ntmps37
 go_wp2_with fail
 go_loopg [15,6] ls.length (fun g i u wr=>∃ (k:Nat) (v:Value),k+g=ls.length∧i=.int .i64 k∧v=u∧ChI w ns (.slice na ns.length nc) ls k v wr)
 case atStart => exact ⟨0,_,by omega,rfl,rfl,HI0.out⟩
 case round =>
  clear HI0;obtain ⟨k,v,hk,rfl,hvu,hA⟩:=hrel;subst hvu;have HB:Hid _:=hA.below;have HBX:Hid _:=hA.box;obtain ⟨acc,rs,hrow,hrl,hraw,hal,hst⟩:=hA.rest;have HRW:Hid _:=hrow;have HRR:Hid _:=hraw;have HST:Hid _:=hst;clear hrow hraw hst hA
  by_cases hlt:k<ls.length
  · have hlti : (k : Int) < (ls.length : Int) := by omega
    obtain ⟨s,hs⟩:∃ s,ls[k]?=some s:=⟨ls[k],by simp[hlt]⟩
    have hdr:ls.drop k=s::ls.drop (k+1):=by
     rw[List.drop_eq_getElem_cons hlt];congr 1;simpa[hlt] using hs
    rw[hdr]at HST
    obtain ⟨b1,o1,c1,hv1,_,_,e1⟩:=(Strs.later HL.out HB.out).at hs
    injection hv1 with hv1 hv1l hv1c
    subst hv1 hv1c;clear hv1l;have hsz:=HT.out s (List.mem_of_getElem? hs)
    have HLN:Hid (Calls Tryz.prog 49 #[.string s] wr fun e w'=>Qc s.data.toList wr e w'):=by
     have:=qc9 s.data.toList wr (HEV.out wr HB.out) (by rw[yx];unfold maxLen at hsz;omega)
     rw[jf]at this
     exact this
    clear hs hdr hsz;go_wp2_with fail;refine Calls.mono HLN.out ?_;rintro e w1 ⟨a1,cc1,vs1,rfl,htg,hT1,hS1,hb1⟩;obtain ⟨sa,sc,rfl,_,_⟩:=hS1.shape;have HNM:Hid _:=V8 s.data.toList;obtain ⟨Q,hQ⟩:∃ Q,qX s.data.toList=Q:=⟨_,rfl⟩
    have HCC:Hid (Q.2.2=0→ZB ns Q.2.1=0→Qu ns Q.2.1≠[]→qM ns (s::ls.drop (k+1))=xw (Yx Q.1 (Qu ns Q.2.1)) (qM ns (ls.drop (k+1)))):=by
     rw[←hQ];exact qcC
    have HC1:Hid (Q.2.2≠0→qM ns ls=([],Q.2.2)):=by
     intro h;rw[HST.out,qM,hQ,if_pos h];unfold xw;rw[if_pos h]
    have HC2:Hid (Q.2.2=0→ZB ns Q.2.1≠0→qM ns ls=([],ZB ns Q.2.1)):=by
     intro h h2;rw[HST.out,qM,hQ,if_neg (by simpa using h),if_pos h2];unfold xw;rw[if_pos h2]
    have HC3:Hid (Q.2.2=0→ZB ns Q.2.1=0→Qu ns Q.2.1=[]→qM ns ls=([],3)):=by
     intro h h2 h3;rw[HST.out,qM,hQ,if_neg (by simpa using h),if_neg (by simpa using h2),if_pos h3];unfold xw;rw[if_pos (by decide)]
    rw[hQ]at htg hT1 hS1 HNM ⊢
    clear hQ HLN;obtain ⟨o,st,le⟩:=Q;simp only at htg hT1 hS1 HNM HCC HC1 HC2 HC3 ⊢
    have hb2:=Below.alloc1 w1 (.cells #[.int .i64 o.kind,.int .i64 0,.slice a1 o.content.length cc1,.string o.name,.string o.s] 114);have hb12:=hb1.trans (hb2.mono hb1.size);have HO2:Hid _:=heap_alloc_new w1 (.cells #[.int .i64 o.kind,.int .i64 0,.slice a1 o.content.length cc1,.string o.name,.string o.s] 114);have HT1:Hid (qa (fun b=>wr.heap.size≤b∧b<w1.heap.size) (w1.alloc (.cells #[.int .i64 o.kind,.int .i64 0,.slice a1 o.content.length cc1,.string o.name,.string o.s] 114)) 2501 (.slice a1 o.content.length cc1) o.content):=qa.carry (fun b hb=>⟨hb,hb2.block b hb.2⟩) _ (qa.bounded _ hT1)
    have HT2:Hid True:=trivial;have HOV:Hid (∀ z,v.ownBlock=some z→w.heap.size+1≤z∧z<wr.heap.size):=fun z hz=>World.ownsRow.lt HRW.out z hz
    have HS2:Hid _:=zO.later hS1 hb2;have hB2:=HB.out.trans (hb12.mono HB.out.size);have HBX2:Hid _:=(hb12.block _ (qe HBX.out)).trans HBX.out;have HRW2:Hid _:=qn HRW.out hb12;have x2:(w1.alloc (.cells #[.int .i64 o.kind,.int .i64 0,.slice a1 o.content.length cc1,.string o.name,.string o.s] 114)).cell? ⟨w.heap.size,0,none⟩=some (.slice na ns.length nc):=by rw[cH9 HBX2.out];rfl
    have hs12:wr.heap.size≤(w1.alloc (.cells #[.int .i64 o.kind,.int .i64 0,.slice a1 o.content.length cc1,.string o.name,.string o.s] 114)).heap.size:=hb12.size;have HB12:Hid _:=hb12;have hw1:wr.heap.size≤w1.heap.size:=hb1.size;have hw12:w1.heap.size≤(w1.alloc (.cells #[.int .i64 o.kind,.int .i64 0,.slice a1 o.content.length cc1,.string o.name,.string o.s] 114)).heap.size:=hb2.size;have hwr0:w.heap.size<wr.heap.size:=qe HBX.out;clear hT1 hS1 hb1 hb2 HBX HRW e1 hb12
    by_cases hle:le=0
    case neg =>
     have hleb:(le==0)=false:=by simpa using hle
     have HE:Hid _:=HC1.out hle;clear HC1 HC2 HC3 HCC hle;go_wp2_with fail
     go_ret2
     exact ⟨.slice none 0 0,by rw[HE.out];rfl,by rw[HE.out];exact HNO.out _,hB2⟩
    case pos =>
     subst hle;have HSL:Hid _:=qao (fun b=>b<(w1.alloc (.cells #[.int .i64 o.kind,.int .i64 0,.slice a1 o.content.length cc1,.string o.name,.string o.s] 114)).heap.size) _ _ ns st _ ⟨(HD.out.later hB2).nodes.carry fun b hb=>⟨(HD.out.later hB2).here b hb,rfl⟩,fun b hb=>hb,HD.out.few,HD.out.short⟩ ((zO.bounded HS2.out).carry fun b hb=>⟨hb.2,rfl⟩) HNM.out
     go_wp2_with fail
     generalize w1.alloc (.cells #[.int .i64 o.kind,.int .i64 0,.slice a1 o.content.length cc1,.string o.name,.string o.s] 114)=W2 at *
     refine Calls.mono HSL.out ?_;rintro e w3 ⟨v3,rfl,hI3,hb3⟩;obtain ⟨ia,ic,rfl,_,hic⟩:=hI3.shape;have HI3:Hid _:=hI3;have hB3:=hB2.trans (hb3.mono hB2.size);have HO3:Hid _:=(hb3.block _ (qe HO2.out)).trans HO2.out;have hsl:(Qu ns st).length≤80:=qeB;obtain ⟨E,hE⟩:∃ E,ZB ns st=E:=⟨_,rfl⟩;obtain ⟨D,hD⟩:∃ D,Qu ns st=D:=⟨_,rfl⟩;rw[hE]at HCC HC2 HC3 ⊢
     rw[hD]at HCC HC3 HI3 hsl ⊢
     clear hE hD HSL hI3
     by_cases hE0:E=0
     case neg =>
      have hEb:(E==0)=false:=by simpa using hE0
      have HE:Hid _:=HC2.out (by trivial) hE0
      clear HC1 HC2 HC3 HCC hE0;go_wp2_with fail
      go_ret2
      exact ⟨.slice none 0 0,by rw[HE.out];rfl,by rw[HE.out];exact HNO.out _,hB3⟩
     case pos =>
      subst hE0
      by_cases hD0:D=[]
      · have HE : Hid _ := HC3.out (by trivial) (by trivial) hD0
        subst hD0;clear HC1 HC2 HC3 HCC;go_wp2_with fail
        go_ret2
        exact ⟨.slice none 0 0,by rw[HE.out];rfl,by rw[HE.out];exact HNO.out _,hB3⟩
      · have hDl : 0 < D.length := List.length_pos_iff.2 hD0;have hDb:((D.length:Int)==0)=false:=beq_eq_false_iff_ne.2 (by omega)
        have HE:Hid _:=HCC.out (by trivial) (by trivial) hD0
        have z0:w3.cell? ⟨w1.heap.size,0,none⟩=some (.int .i64 o.kind):=by rw[cH9 HO3.out];rfl
        have z1:w3.cell? ⟨w1.heap.size,1,none⟩=some (.int .i64 0):=by rw[cH9 HO3.out];rfl
        have z2:w3.cell? ⟨w1.heap.size,2,none⟩=some (.slice a1 o.content.length cc1):=by rw[cH9 HO3.out];rfl
        have z3:w3.cell? ⟨w1.heap.size,3,none⟩=some (.string o.name):=by rw[cH9 HO3.out];rfl
        have z4:w3.cell? ⟨w1.heap.size,4,none⟩=some (.string o.s):=by rw[cH9 HO3.out];rfl
        have HAM:Hid (Calls Tryz.prog 51 #[.agg #[.int .i64 o.kind,.int .i64 0,.slice a1 o.content.length cc1,.string o.name,.string o.s],.slice ia D.length ic] w3 fun e w'=>∃ v,e=.returned v∧w'.ownsRow w3.heap.size 114 5 v D.length (qD (xF o a1 cc1 D))∧Below w3.heap.size w3 w'):=by
         have:=qbc _ o a1 cc1 _ D w3 HI3.out (by omega)
         rw[htg]at this
         exact this
        clear HC1 HC2 HC3 HCC;go_wp2_with fail;refine Calls.mono HAM.out ?_;rintro e w4 ⟨v4,rfl,hw4,hb4⟩;have hB4:=hB3.trans (hb4.mono hB3.size)
        obtain ⟨g4,cap4,rfl,hg4a,hg4b⟩:∃ g cap,v4=.slice (some ⟨g,0,none⟩) D.length cap∧w3.heap.size≤g∧g<w4.heap.size:=by
         rcases hw4.2 with ⟨_,h0⟩|⟨g,cap,cur,rfl,hg,hh,hc,hm,hs,ht⟩
         · omega
         · exact ⟨g,cap,rfl,hg,qe hh⟩
        have hb24:=hb3.trans (hb4.mono hb3.size);have HRW4:Hid _:=qn HRW2.out hb24;have HBX4:Hid _:=(hb24.block _ (qe HBX2.out)).trans HBX2.out;have hcl:=zK (xF o a1 cc1 D);have hal2:(xF o a1 cc1 D).length=D.length:=List.length_map _
        have HCE:Hid (∀ j u,(qD (xF o a1 cc1 D))[j]?=some u→w4.cell? ((⟨g4,0,none⟩:Addr).add j)=some u):=by
         intro j u hj;have hjl:=qh hj;rw[Addr.add_lit,Nat.zero_add,World.ownsRow.cellAt hw4 j (by omega)]
         exact hj
        have H1C:Hid (∀ u∈qD (xF o a1 cc1 D),u.oneCell'=true):=by
         intro u hu;obtain ⟨r,hr,hu⟩:=List.mem_flatMap.1 hu;exact YM r u hu
        have HRAW:Hid (∀ (i:Nat) r x,(rs++xF o a1 cc1 D)[i]?=some r→(acc++Yx o D)[i]?=some x→Jr (fun b=>(w.heap.size+1≤b∧b<wr.heap.size∧v.ownBlock≠some b)∨(wr.heap.size≤b∧b<w1.heap.size)) w4 2501 r x):=by
         have hbr4:Below wr.heap.size wr w4:=HB12.out.trans (hb24.mono hs12);intro i r x hr hx
         by_cases hil:i<rs.length
         · rw[List.getElem?_append_left hil]at hr
           rw[List.getElem?_append_left (by omega)]at hx
           exact (HRR.out i r x hr hx).carry fun b hb=>⟨Or.inl hb,hbr4.block b hb.2.1⟩
         · rw[List.getElem?_append_right (by omega)]at hr
           rw[List.getElem?_append_right (by omega),←hrl]at hx
           refine (qdP (T:=fun b=>wr.heap.size≤b∧b<w1.heap.size) D ?_ _ r x hr hx).carry (fun b hb=>⟨Or.inr hb,rfl⟩)
           exact qa.carry (fun b hb=>⟨hb,hb24.block b (by have:=hb.2;omega)⟩) _ HT1.out
        have hszA:w.heap.size+1≤w4.heap.size:=by have:=qe HBX4.out;omega
        have hov:∀ z,v.ownBlock=some z→w.heap.size+1≤z∧z<wr.heap.size:=fun z hz=>HOV.out z hz
        have HOV4:Hid _:=hov;have hsz14:w1.heap.size≤w4.heap.size:=Nat.le_trans hw12 hb24.size;have hszr4:wr.heap.size≤w4.heap.size:=by omega
        clear hw4 hb4 hb3 hb24 HRW2 HBX2 HO2 HO3 HT2 HS2 HI3 HAM z0 z1 z2 z3 z4 hov HNM x2;go_wp2_with (at_builtin;refine wpList_append_own_at _ rfl _ _ 92 rfl (w.heap.size+1) 114 i0 _ 5 72 Tryz.underlying92 hi hz0 hz1 hz2 rfl (by decide) v acc.length (qD rs) rfl ?qc0 ⟨g4,0,none⟩ D.length cap4 (qD (xF o a1 cc1 D)) rfl ?qc1 ?qc2 ?qc3 ?qc4 ?qc5 ?qc6 ?_)
        case qc0 => exact HRW4.out
        case qc1 => omega
        case qc2 => exact HCE.out
        case qc3 => exact H1C.out
        case qc4 => unfold maxLen;omega
        case qc5 => omega
        case qc6 => exact hszA
        intro v5 W5 hown hgr _ hob
        have HI5:Hid (ChI w ns (.slice na ns.length nc) ls (k+1) v5 W5):=by
         have hB5:Below (w.heap.size+1) w4 W5:=(Below.refl _ _).grown hgr hszA (fun z hz=>(HOV4.out z hz).1)
         refine ⟨hB4.trans (hB5.mono (by omega)),(hB5.block _ (by omega)).trans HBX4.out,acc++Yx o D,rs++xF o a1 cc1 D,?_,?_,?_,?_,?_⟩
         · have : qD (rs ++ xF o a1 cc1 D) = qD rs ++ qD (xF o a1 cc1 D) := List.flatMap_append;rw[this,List.length_append,show (Yx o D).length=D.length from List.length_map _]
           exact hown
         · rw[List.length_append,List.length_append,hrl,hal2,show (Yx o D).length=D.length from List.length_map _]
         · intro i r x hr hx;refine (HRAW.out i r x hr hx).carry fun b hb=>?_
           have hbl:b<w4.heap.size:=by rcases hb with hb|hb<;>omega
           have hne:v.ownBlock≠some b:=by
            rcases hb with hb|hb
            · exact hb.2.2
            · intro he;have:=(HOV4.out b he).2;omega
           refine ⟨⟨by rcases hb with hb|hb;exact hb.1;have:=hB2.size;omega,Nat.lt_of_lt_of_le hbl hgr.size,?_⟩,hgr.block b hbl (fun e=>hne e.symm)⟩
           rcases hob with h|h
           · rw[h];exact hne
           · rw[h];intro e;injection e with e;omega
         · rw[List.length_append,show (Yx o D).length=D.length from List.length_map _];omega
         · rw[HST.out,HE.out,qbE]
        clear hown hgr hob HRAW HCE H1C HRW4 HBX4 HE HST HOV4;go_wp2_with fail
        go_roundg (ls.length-(k+1))
        case measure => omega
        case rel => exact ⟨k+1,v5,by omega,by go_num,rfl,HI5.out⟩
  · have hlti : ¬ ((k : Int) < (ls.length : Int)) := by omega
    have hkk:k=ls.length:=by omega
    subst hkk
    have HE:Hid (qM ns ls=(acc,0)):=by
     show _=_
     rw[HST.out,List.drop_length];unfold xw qM;simp
    go_wp2_with fail
    go_ret2
    refine ⟨v,by rw[HE.out];rfl,?_,HB.out⟩
    rw[HE.out];obtain ⟨a',c',h1,h2,h3,h4⟩:=Vd HRW.out hrl HRR.out;refine ⟨a',c',h1,h2,h3,fun hne=>?_⟩
    obtain ⟨b',o',q1,q2,q3⟩:=h4 hne;refine ⟨b',o',q1,?_,fun i x hx=>?_⟩
    · have := (World.ownsRow.lt HRW.out b' q2).1;omega
    · obtain ⟨ca', cc', d0, d1, d2, d3, d4, dT⟩ := q3 i x hx;exact ⟨ca',cc',d0,d1,d2,d3,d4,qa.carry (fun b hb=>⟨by have:=hb.1;omega,rfl⟩) _ dT⟩
end
section
attribute [local go_sem] qd
structure Sto (S:Nat→Prop) (w:World) (sb:Nat) (ns:List Nd) (n:Nat):Prop where
 here:∀ b,S b→b<w.heap.size∧b≠sb
 good:qq ns=true
 box:∃ a c,w.heap[sb]?=some (.cells #[.slice a ns.length c,.int .i64 (n:Int)] 59 (0,0))∧qp S w (.slice a ns.length c) ns∧c≤maxLen
theorem Zm {ns:List Nd}(hg:qq ns=true):(∀ x∈ns,x.attrs.length≤4398046511104)∧j9 ns:=by
 refine ⟨fun x hx=>Nat.le_trans ((xq hg).2 x hx).2 (by omega),fun x hx=>⟨Nat.le_trans (YT hg x hx) (by unfold maxLen;omega),fun y hy=>?_⟩⟩
 obtain ⟨n,hn⟩:=List.mem_iff_getElem?.1 hx;obtain ⟨d,T,u,fs,hz⟩:=Yt hg (qh hn);obtain ⟨x',hx',e1,_,e3⟩:=hz.get;rw[hn]at hx'
 obtain rfl:=Option.some.inj hx';rw[e3]at hy
 have hr:=hz.right;cases ht:u.text with
 | true =>
   unfold qy at hr
   rw[ht]at hr
   simp at hr
   rw[hr.1.2]at hy
   cases hy
 | false =>
   have hA:=(jw hr ht).2;have key:=(QX hA).2 y hy;exact ⟨Nat.le_trans (Zw key.1) (by unfold maxLen;omega),Nat.le_trans (ZA key.2) (by unfold maxLen;omega)⟩
theorem Sto.doc {S:Nat→Prop}{w:World}{sb n:Nat}{ns:List Nd}(h:Sto S w sb ns n){a:Option Addr}{c:Nat}(hN:qp S w (.slice a ns.length c) ns):QT S w (.slice a ns.length c) ns :=
 ⟨hN,fun b hb=>(h.here b hb).1,(Zm h.good).1,(Zm h.good).2⟩
theorem Sto.keep {S:Nat→Prop}{w w':World}{sb n:Nat}{ns:List Nd}(h:Sto S w sb ns n)(hs:w.heap.size≤w'.heap.size)(hb:∀ b,S b∨b=sb→w'.heap[b]?=w.heap[b]?):Sto S w' sb ns n:=by
 obtain ⟨a,c,h1,h2,h3⟩:=h.box;exact ⟨fun b hb=>⟨Nat.lt_of_lt_of_le (h.here b hb).1 hs,(h.here b hb).2⟩,h.good,a,c,(hb sb (Or.inr rfl)).trans h1,h2.carry fun b hb'=>⟨hb',hb b (Or.inl hb')⟩,h3⟩
theorem Sto.later {S:Nat→Prop}{w w':World}{sb n:Nat}{ns:List Nd}(h:Sto S w sb ns n)(hb:Below w.heap.size w w'):Sto S w' sb ns n:=by
 obtain ⟨a,c,h1,_⟩:=h.box;refine h.keep hb.size fun b hb'=>hb.block b ?_
 rcases hb' with hb'|rfl
 · exact (h.here b hb').1
 · exact qe h1
structure DcI (w:World) (v:Value) (ns:List Nd) (i:Nat) (ms:List Rw) (wr:World):Prop where
 below:Below w.heap.size w wr
 res:wr.heap[w.heap.size]?=some (.cells #[.slice none 0 0] 29 (0,0))
 len:ms.length=ns.length
 row:wr.ownsRow (w.heap.size+1) 57 5 v ns.length (rawCells ms)
 each:∀ (j:Nat) r x,ms[j]?=some r→ns[j]?=some x→(j<i→xn (fun b=>w.heap.size+1≤b∧b<wr.heap.size∧v.ownBlock≠some b) wr r x)∧(i≤j→xn (fun b=>b<w.heap.size) wr r x)
theorem qbR {B:Nat}{T:Nat→Prop}{w:World}{v:Value}{ns:List Nd}{ms:List Rw}(h:w.ownsRow B 57 5 v ns.length (rawCells ms))(hl:ms.length=ns.length)(hr:∀ (j:Nat) r x,ms[j]?=some r→ns[j]?=some x→xn T w r x)(hT:∀ b,T b→B≤b):qp (fun b=>B≤b) w v ns:=by
 have h0:=h
 rcases h.2 with ⟨rfl,hz⟩|⟨g,cap,cur,rfl,hB,hg,hc,hm,hs,ht⟩
 · have : ns = [] := List.eq_nil_of_length_eq_zero hz;subst this;exact ⟨none,0,rfl,nR9 _,nZ9 _,fun hne=>absurd rfl hne⟩
 · refine ⟨_, cap, rfl, hc, hm, fun _ => ⟨g, 0, rfl, hB, fun i x hx => ?_⟩⟩
   have hi:=qh hx;obtain ⟨r,hri⟩:∃ r,ms[i]?=some r:=⟨ms[i]'(by omega),List.getElem?_eq_getElem (by omega)⟩
   obtain ⟨e1,e2,e3,hA,hK⟩:=hr i r x hri hx;obtain ⟨g0,g1,g2,g3,g4⟩:=zB ms i r hri
   have cell:∀ c,c<5→w.cell? ⟨g,0+i*5+c,none⟩=(rawCells ms)[i*5+c]?:=fun c hc=>by
    rw[Nat.zero_add];exact World.ownsRow.cellAt h0 (i*5+c) (by omega)
   refine ⟨r.va,r.vk,?_,?_,?_,?_,?_,hA.carry fun b hb=>⟨hT b hb,rfl⟩,hK.carry fun b hb=>⟨hT b hb,rfl⟩⟩
   · rw[←e1,←g0];exact cell 0 (by omega)
   · rw[←e2,←g1];exact cell 1 (by omega)
   · rw[←g2];exact cell 2 (by omega)
   · rw[←e3,←g3];exact cell 3 (by omega)
   · rw[←g4];exact cell 4 (by omega)
theorem yG.attrsIn {B:Nat}{w:World}{v:Value}{l:List (ByteArray × ByteArray)}(h:yG B w v l):qj (fun b=>B≤b∧b<w.heap.size) w v l:=by
 rcases id h.2 with ⟨hv,h0⟩|⟨g,cap,cur,hv,hB,hh,hc,hm,_⟩
 · have : l = [] := List.eq_nil_of_length_eq_zero h0;subst this;exact ⟨none,0,hv,nR9 _,nZ9 _,fun hne=>absurd rfl hne⟩
 · have hrow := h;unfold yG at hrow
   subst hv;refine ⟨_,cap,rfl,hc,hm,fun _=>⟨g,0,rfl,⟨hB,qe hh⟩,fun i x hx=>?_⟩⟩
   have hi:=qh hx;obtain ⟨g0,g1⟩:=zZ l i x hx;exact ⟨by rw[Nat.zero_add,World.ownsRow.cellAt hrow (i*2) (by omega),g0],by rw[Nat.zero_add,World.ownsRow.cellAt hrow (i*2+1) (by omega),g1]⟩
theorem DcI.step {w:World}{g cap:Nat}{ns:List Nd}{i:Nat}{ms:List Rw}{W Wa Wc:World}{va vk:Value}{r:Rw}{x:Nd}(h:DcI w (.slice (some ⟨g,0,none⟩) ns.length cap) ns i ms W)(hr:ms[i]?=some r)(hx:ns[i]?=some x)
 (hA:yG W.heap.size Wa va x.attrs) (ha:Below W.heap.size W Wa) (hK:qF Wa.heap.size Wc vk x.kids) (hc:Below Wa.heap.size (Wa.setCell ⟨g,i*5+2,none⟩ va) Wc) (he:r.text=x.text∧r.s=x.s∧r.par=x.parent) :
 DcI w (.slice (some ⟨g,0,none⟩) ns.length cap) ns (i+1) (ms.set i { r with va:=va,vk:=vk }) (Wc.setCell ⟨g,i*5+4,none⟩ vk):=by
 obtain ⟨hgB,hgl⟩:=h.row.lt g rfl;have hwl:=qe h.res;have hsa:=ha.size;have hsc:=hc.size;have hss:(Wa.setCell ⟨g,i*5+2,none⟩ va).heap.size=Wa.heap.size:=by simp
 have hsd:(Wc.setCell ⟨g,i*5+4,none⟩ vk).heap.size=Wc.heap.size:=by simp
 have him:i<ms.length:=qh hr
 have old:∀ b,b<W.heap.size→b≠g→(Wc.setCell ⟨g,i*5+4,none⟩ vk).heap[b]?=W.heap[b]?:=fun b hb hne=>by
  rw[qb hne,hc.block b (by omega),qb hne,ha.block b hb]
 have rowa:Wa.ownsRow (w.heap.size+1) 57 5 (.slice (some ⟨g,0,none⟩) ns.length cap) ns.length (rawCells ms):=qn h.row ha;have rowb:=(rowa.stored (i*5+2) va).1
 have rowc:Wc.ownsRow (w.heap.size+1) 57 5 (.slice (some ⟨g,0,none⟩) ns.length cap) ns.length ((rawCells ms).set (i*5+2) va):=qk rowb (fun b hb=>by
  have:g=b:=by injection hb
  subst this;exact hc.block g (by omega))
 have rowd:=(rowc.stored (i*5+4) vk).1
 have ecell:((rawCells ms).set (i*5+2) va).set (i*5+4) vk=rawCells (ms.set i { r with va:=va,vk:=vk }):=by
  have e1:=xh ms i r va hr;have hr2:(ms.set i { r with va:=va })[i]?=some { r with va:=va }:=List.getElem?_set_self him
  have e2:=yM (ms.set i { r with va:=va }) i { r with va:=va } vk hr2
  rw[←e1,←e2,List.set_set]
 rw[ecell]at rowd
 have hBd:Below w.heap.size w (Wc.setCell ⟨g,i*5+4,none⟩ vk):=by
  have s1:Below w.heap.size w Wa:=h.below.trans (ha.mono h.below.size);have s2:=s1.setCell (p:=⟨g,i*5+2,none⟩) (by show w.heap.size≤g;omega) va
  have s3:=s2.trans (hc.mono (Nat.le_trans h.below.size hsa));exact s3.setCell (p:=⟨g,i*5+4,none⟩) (by show w.heap.size≤g;omega) vk
 have hob:∀ b,(Value.slice (some ⟨g,0,none⟩) ns.length cap).ownBlock≠some b→b≠g:=fun b hb e=>hb (by rw[e];rfl)
 have hbo:∀ b,b≠g→(Value.slice (some ⟨g,0,none⟩) ns.length cap).ownBlock≠some b:=fun b hb e=>hb (by injection e with e;exact e.symm)
 refine ⟨hBd,(old _ hwl (by omega)).trans h.res,by rw[List.length_set];exact h.len,rowd,fun j q y hq hy=>?_⟩
 by_cases hji:j=i
 · subst hji;rw[List.getElem?_set_self him]at hq
   obtain rfl:=Option.some.inj hq;rw[hx]at hy
   obtain rfl:=Option.some.inj hy;refine ⟨fun _=>⟨he.1,he.2.1,he.2.2,?_,?_⟩,fun hh=>by omega⟩
   · refine (yG.attrsIn hA).carry fun b hb => ?_
     have hne:b≠g:=by omega
     exact ⟨⟨by omega,by omega,hbo b hne⟩,by rw[qb hne,hc.block b hb.2,qb hne]⟩
   · refine (qF.ints hK).bounded.carry fun b hb => ?_
     have hne:b≠g:=by omega
     exact ⟨⟨by omega,by omega,hbo b hne⟩,qb hne⟩
 · rw[List.getElem?_set_ne (fun e => hji e.symm)]at hq
   obtain ⟨f1,f2⟩:=h.each j q y hq hy;refine ⟨fun hj=>(f1 (by omega)).carry fun b hb=>⟨⟨hb.1,by omega,hb.2.2⟩,old b hb.2.1 (hob b hb.2.2)⟩,fun hj=>(f2 (by omega)).carry fun b hb=>⟨hb,old b (by omega) (by omega)⟩⟩
set_option linter.unusedSimpArgs false in
set_option maxHeartbeats 2000000 in
theorem jF (S:Nat→Prop)(sb n:Nat)(ns:List Nd)(w:World)(h:Sto S w sb ns n) :
 Calls Tryz.prog 8 #[.pointer (some ⟨sb,0,none⟩)] w fun e w'=>∃ v,e=.returned (.agg #[v])∧qp (fun b=>w.heap.size≤b) w' v ns∧Below w.heap.size w w':=by
 obtain ⟨a,c,hbx,hN,hcm⟩:=h.box
 have hne:ns≠[]:=by
  intro e;have hg:=h.good;rw[e]at hg
  simp only[qq,Bool.and_eq_true]at hg
  have:=Q4 hg.1.2;simp at this
 have hbd:=xq h.good;have hN0:qp (fun b=>b<w.heap.size) w (.slice a ns.length c) ns:=hN.carry fun b hb=>⟨(h.here b hb).1,rfl⟩
 have hb0:=Below.alloc1 w (.cells #[.slice none 0 0] 29);have HR0:Hid _:=heap_alloc_new w (.cells #[.slice none 0 0] 29);have hsb:=qe hbx;have HX0:Hid _:=(hb0.block sb hsb).trans hbx;obtain ⟨a0,cap0,ms0,hv,ha0,hml,hraw,hcells,hone⟩:=(qp.later hN0 hb0).raw
 injection hv with hv1 _ hv2
 subst hv1 hv2;have hnl:0<ns.length:=List.length_pos_iff.2 hne;have hbl:=hbd.1;have HC:Hid _:=qaK (.slice a ns.length c) a ns.length c (rawCells ms0) _ rfl ha0 (by rw[zX,hml]) (by omega) hcells hone
 have HRW:Hid _:=hraw;have HBN:Hid _:=hbd;have x0:(w.alloc (.cells #[.slice none 0 0] 29)).cell? ⟨sb,0,none⟩=some (.slice a ns.length c):=by rw[cH9 HX0.out];rfl
 clear h hraw hcells hone ha0 hN hN0 hbd
 go_enter Tryz.func8,Tryz.ntmps8
 go_wp2_with fail
 generalize w.alloc (.cells #[.slice none 0 0] 29)=W0 at *
 refine (Calls.mono HC.out ?_);rintro e w1 ⟨v1,rfl,hown,hb1⟩;obtain ⟨g,cap,rfl,hcl,hcm1⟩:=yv hown hnl;have hsz0:w.heap.size+1≤W0.heap.size:=qe HR0.out
 have HI0:Hid (DcI w (.slice (some ⟨g,0,none⟩) ns.length cap) ns 0 ms0 w1):=by
  refine ⟨hb0.trans (hb1.mono hb0.size),(hb1.block _ (qe HR0.out)).trans HR0.out,hml,QP hown hsz0,fun j r x hr hx=>⟨fun hj=>by omega,fun _=>(HRW.out j r x hr hx).carry fun b hb=>⟨hb,hb1.block b (by omega)⟩⟩⟩
 unfold maxLen at hcm1
 clear hown HC HRW hb1 hb0 x0;go_wp2_with fail
 go_loopg [16] ns.length (fun gh vi wr=>∃ (i:Nat) (ms:List Rw),i+gh=ns.length∧vi=.int .i64 (i:Int)∧DcI w (.slice (some ⟨g,0,none⟩) ns.length cap) ns i ms wr)
 case atStart => exact ⟨0,ms0,by omega,rfl,HI0.out⟩
 case round =>
  clear HI0;obtain ⟨i,ms,hig,rfl,hN⟩:=hrel;have HN:Hid _:=hN;clear hN
  by_cases hlt:i<ns.length
  · have hlti : (i : Int) < (ns.length : Int) := by omega
    obtain ⟨x,hx⟩:∃ x,ns[i]?=some x:=⟨ns[i],by simp[hlt]⟩
    obtain ⟨r,hr⟩:∃ r,ms[i]?=some r:=⟨ms[i]'(by rw[HN.out.len];exact hlt),by simp⟩
    obtain ⟨hbk,hba⟩:=HBN.out.2 x (List.mem_of_getElem? hx);obtain ⟨e1,e2,e3,hAt,hKt⟩:=(HN.out.each i r x hr hx).2 (nR9 _);obtain ⟨_,_,h2,_,h4⟩:=zB ms i r hr;have c2:wr.cell? ⟨g,i*5+2,none⟩=some r.va:=by rw[World.ownsRow.cellAt HN.out.row (i*5+2) (by omega)];exact h2
    obtain ⟨cur,hcur,_,_,_,_⟩:=yZ HN.out.row;obtain ⟨aa,ac,hva⟩:∃ a c,r.va=.slice a x.attrs.length c:=by obtain ⟨a,c,e,_⟩:=hAt;exact ⟨a,c,e⟩
    obtain ⟨ka,kc,hvk⟩:∃ a c,r.vk=.slice a x.kids.length c:=by obtain ⟨a,c,e,_⟩:=hKt;exact ⟨a,c,e⟩
    have HA:Hid (Calls Tryz.prog 18 #[.slice aa x.attrs.length ac] wr fun e w'=>∃ v',e=.returned v'∧(yG wr.heap.size w' v' x.attrs∧Below wr.heap.size wr w')):=by
     have:=YG (fun b=>b<w.heap.size) r.va x.attrs wr hAt (by omega)
     rw[hva]at this
     exact this
    have hgl:=HN.out.row.lt g rfl;rw[hva]at c2
    have HCUR:Hid _:=hcur;have HVK:Hid _:=hvk;have HKT:Hid _:=hKt;have HR:Hid _:=hr;have HXX:Hid _:=hx;have HEE:Hid (r.text=x.text∧r.s=x.s∧r.par=x.parent):=⟨e1,e2,e3⟩;have H4:Hid _:=h4;clear hAt hKt hx hr h2 h4 hcur hva hvk e1 e2 e3;go_wp2_with fail;refine Calls.mono HA.out ?_;rintro e wa ⟨va,rfl,hAr,hba'⟩;have HCA:Hid _:=(hba'.block g hgl.2).trans HCUR.out;have c2a:wa.cell? ⟨g,i*5+2,none⟩=some (.slice aa x.attrs.length ac):=(hba'.cell (p:=⟨g,i*5+2,none⟩) hgl.2).trans c2;have f2a:wa.frozen? ⟨g,i*5+2,none⟩=false:=fH9 HCA.out _;obtain ⟨va1,va2,hvs⟩:∃ a c,va=.slice a x.attrs.length c:=by obtain ⟨a,c,e,_⟩:=yG.attrsIn hAr;exact ⟨a,c,e⟩
    have HVS:Hid _:=hvs;have c4w:wr.cell? ⟨g,i*5+4,none⟩=some r.vk:=by rw[World.ownsRow.cellAt HN.out.row (i*5+4) (by omega)];exact H4.out
    rw[HVK.out]at c4w
    have c4b:(wa.setCell ⟨g,i*5+2,none⟩ (.slice va1 x.attrs.length va2)).cell? ⟨g,i*5+4,none⟩=some (.slice ka x.kids.length kc):=by
     rw[World.cell?_setCell_other _ _ _ _ (Qk (by omega))]
     exact (hba'.cell (p:=⟨g,i*5+4,none⟩) hgl.2).trans c4w
    have HKC:Hid (Calls Tryz.prog 19 #[.slice ka x.kids.length kc] (wa.setCell ⟨g,i*5+2,none⟩ (.slice va1 x.attrs.length va2)) fun e w'=>∃ v',e=.returned v'∧qF wa.heap.size w' v' x.kids∧Below wa.heap.size (wa.setCell ⟨g,i*5+2,none⟩ (.slice va1 x.attrs.length va2)) w'):=by
     have:=YH (fun b=>b<w.heap.size) r.vk x.kids (wa.setCell ⟨g,i*5+2,none⟩ (.slice va1 x.attrs.length va2)) (q5.carry HKT.out fun b hb=>⟨hb,by rw[qb (by omega)];exact hba'.block b (by have:=HN.out.below.size;omega)⟩) (by omega)
     rw[HVK.out]at this
     simp only[World.size_setCell]at this
     exact this
    have HFB:Hid ((wa.setCell ⟨g,i*5+2,none⟩ (.slice va1 x.attrs.length va2)).frozen? ⟨g,i*5+4,none⟩=false):=by
     show _=_
     rw[World.frozen?_setCell];exact fH9 HCA.out _
    have HAR:Hid _:=hAr;have HBA:Hid _:=hba';have hgla:g<wa.heap.size:=Nat.lt_of_lt_of_le hgl.2 hba'.size;subst hvs;clear hAr hba' c4w c2 HA;go_wp2_with fail;refine Calls.mono HKC.out ?_;rintro e wc ⟨vk,rfl,hKr,hbc⟩;obtain ⟨vk1,vk2,hks⟩:∃ a c,vk=.slice a x.kids.length c:=by obtain ⟨a,c,e,_⟩:=qF.ints hKr;exact ⟨a,c,e⟩
    have c4c:wc.cell? ⟨g,i*5+4,none⟩=some (.slice ka x.kids.length kc):=(hbc.cell (p:=⟨g,i*5+4,none⟩) hgla).trans c4b
    have f4c:wc.frozen? ⟨g,i*5+4,none⟩=false:=by
     have hx':wc.heap[g]?=(wa.setCell ⟨g,i*5+2,none⟩ (.slice va1 x.attrs.length va2)).heap[g]?:=hbc.block g hgla;rw[World.frozen?_of_block (a:=⟨g,i*5+4,none⟩) hx'];exact HFB.out
    have HI2:Hid _:=HN.out.step HR.out HXX.out HAR.out HBA.out hKr hbc HEE.out;subst hks;clear hKr hbc c4b HKC HFB HAR HBA c2a f2a;go_wp2_with fail
    go_roundg (ns.length-(i+1))
    case measure => omega
    case rel => exact ⟨i+1,_,by omega,by go_num,HI2.out⟩
  · have hlti : ¬ ((i : Int) < (ns.length : Int)) := by omega
    have hii:i=ns.length:=by omega
    subst hii;have r0:wr.cell? ⟨w.heap.size,0,none⟩=some (.slice none 0 0):=by rw[cH9 HN.out.res];rfl
    have f0:wr.frozen? ⟨w.heap.size,0,none⟩=false:=fH9 HN.out.res _;go_wp2_with fail;refine bodyPost_ret (v:=.agg #[.slice (some ⟨g,0,none⟩) ns.length cap]) (by simp[results,Tryz.results8,go_sem,qd,World.cell?_setCell_other,r0]) rfl ?_
    have hN1:=qbR HN.out.row HN.out.len (fun j r x hr hx=>(HN.out.each j r x hr hx).1 (qh hx)) (fun b hb=>hb.1)
    exact ⟨_,rfl,hN1.carry fun b hb=>⟨by omega,qb (by omega)⟩,HN.out.below.setCell (p:=⟨w.heap.size,0,none⟩) (nR9 _) _⟩
end
theorem Vk {t:Tr}(h:qy t=true):Yw t:=by
 refine ⟨Nat.le_trans (Q9 h) (by unfold maxLen;omega),fun y hy=>?_⟩
 cases ht:t.text with
 | true =>
   unfold qy at h
   rw[ht]at h
   simp at h
   rw[h.1.2]at hy
   cases hy
 | false =>
   have key:=(QX (jw h ht).2).2 y hy;exact ⟨Nat.le_trans (Zw key.1) (by unfold maxLen;omega),Nat.le_trans (ZA key.2) (by unfold maxLen;omega)⟩
theorem rgt_texts:∀ {n:Nat}{ts:List Tr},(∀ N,rgt N ts=true)→TextsN n ts:=by
 intro n
 induction n with
 | zero=>intro ts _;trivial
 | succ n ih =>
   intro ts h t ht;obtain ⟨h1,_⟩:=jp _ _ (h (n+1)) t ht;refine ⟨Vk h1,ih (fun N=>?_)⟩
   obtain ⟨h3,h4⟩:=jp _ _ (h (N+1)) t ht;cases hx:t.text with
   | true=>rw[xA h3 hx];exact xV N
   | false=>rw[hx,Bool.false_or]at h4;exact h4
theorem QJ {l:List Tr}(h:qI l=true)(n:Nat):TextsN n l:=by
 have hd:Deep 8 l:=rb_deep 8 80 l (by simpa[qI] using h)
 have h2:=h;rw[jY hd]at h2
 simp only[Bool.and_eq_true,decide_eq_true_eq]at h2
 exact rgt_texts (rgt_all hd h2.2)
theorem Q2 {t:Tr}(h:qR t=true)(n:Nat):TextsN n [t]:=by
 simp only[qR,Bool.and_eq_true]at h
 exact QJ h.2 n
theorem Yb (s:List UInt8):(∃ c:Int,(c=1∨c=2)∧(qu s).2=c)∨(qR (qu s).1=true∧(qu s).2=0):=by
 unfold qu
 split
 · exact Or.inl ⟨2,Or.inr rfl,rfl⟩
 · split
   · exact Or.inl ⟨1,Or.inl rfl,rfl⟩
   · rename_i h
     simp only[Bool.or_eq_true,not_or,Bool.not_eq_true',Bool.not_eq_false]at h
     exact Or.inr ⟨by simpa using h.2,rfl⟩
theorem VM (s:List UInt8):(qP s).2≠0∧(qP s).1=[]∨qI (qP s).1=true∧(qP s).2=0:=by
 unfold qP
 split
 · exact Or.inl ⟨by show (2:Int)≠0;decide,rfl⟩
 · split
   · exact Or.inl ⟨by show (1:Int)≠0;decide,rfl⟩
   · rename_i h
     simp only[Bool.or_eq_true,not_or,Bool.not_eq_true',Bool.not_eq_false]at h
     exact Or.inr ⟨by simpa using h.2,rfl⟩
section
attribute [local go_sem] qd
def JE (w:World)(b:Nat)(v0 v1 v2:Value):World:=((w.setCell ⟨b,0,none⟩ v0).setCell ⟨b,1,none⟩ v1).setCell ⟨b,2,none⟩ v2
theorem jT {w:World}{b c:Nat}{v0 v1 v2:Value}(h:c≠b):(JE w b v0 v1 v2).heap[c]?=w.heap[c]?:=by
 unfold JE;rw[qb h,qb h,qb h]
theorem zF {B b:Nat}{w0 w:World}{v0 v1 v2:Value}(h:Below B w0 w)(hb:B≤b):Below B w0 (JE w b v0 v1 v2):=by
 unfold JE;exact ((h.setCell (p:=⟨b,0,none⟩) hb _).setCell (p:=⟨b,1,none⟩) hb _).setCell (p:=⟨b,2,none⟩) hb _
def jy (S:Nat→Prop)(sb:Nat)(w:World)(rep:Rep)(ns:List Nd)(n:Nat)(e:Ending)(w':World):Prop :=
 e=.returned (.agg #[.int .i64 rep.1,.int .i64 rep.2.1,.string rep.2.2])∧(∃ S':Nat→Prop,(∀ b,S' b→S b∨w.heap.size≤b)∧Sto S' w' sb ns n)∧CFr sb w w'
theorem zu {S:Nat→Prop}{sb n:Nat}{ns:List Nd}{w w':World}(rep:Rep)(h:Sto S w sb ns n)(hb:Below w.heap.size w w'):jy S sb w rep ns n (.returned (.agg #[.int .i64 rep.1,.int .i64 rep.2.1,.string rep.2.2])) w' :=
 ⟨rfl,⟨S,fun _ hb=>Or.inl hb,h.later hb⟩,CFr.later hb⟩
theorem YL {S:Nat→Prop}{sb n:Nat}{ns ns':List Nd}{w W:World}(rep:Rep)(h:Sto S w sb ns n)(hb:Below w.heap.size w W){S':Nat→Prop}(hS':∀ b,S' b→(S b∨w.heap.size≤b)){a:Option Addr}{c:Nat}(hN:qp S' W (.slice a ns'.length c) ns')(hc:c≤maxLen)(hg:qq ns'=true){R:Nat}(hR:w.heap.size≤R){v0 v1 v2:Value}(hSR:∀ b,S' b→b≠R) :
 jy S sb w rep ns' n (.returned (.agg #[.int .i64 rep.1,.int .i64 rep.2.1,.string rep.2.2])) (JE (W.setCell ⟨sb,0,none⟩ (.slice a ns'.length c)) R v0 v1 v2):=by
 obtain ⟨a0,c0,hbx,_,_⟩:=h.box;have hsl:=qe hbx;have hsw:w.heap.size≤W.heap.size:=hb.size;have hbx1:W.heap[sb]?=_:=(hb.block sb hsl).trans hbx
 have hset:(W.setCell ⟨sb,0,none⟩ (.slice a ns'.length c)).heap[sb]?=some (.cells #[.slice a ns'.length c,.int .i64 (n:Int)] 59 (0,0)):=by
  simp[World.setCell,Array.getElem?_modify,hbx1]
 have hne:∀ b,S' b→b≠sb:=fun b hb'=>by
  rcases hS' b hb' with h1|h1
  · exact (h.here b h1).2
  · omega
 have hsz:(JE (W.setCell ⟨sb,0,none⟩ (.slice a ns'.length c)) R v0 v1 v2).heap.size=W.heap.size:=by unfold JE;simp
 refine ⟨rfl,⟨fun b=>S' b∧b<W.heap.size,fun b hb'=>hS' b hb'.1,?_⟩,?_⟩
 · refine ⟨fun b hb' => ⟨by rw[hsz];exact hb'.2, hne b hb'.1⟩, hg, a, c, ?_, ?_, hc⟩
   · rw[jT (by omega)];exact hset
   · exact hN.bounded.carry fun b hb'=>⟨hb',by rw[jT (hSR b hb'.1),qb (hne b hb'.1)]⟩
 · have h1 : CFr sb w (W.setCell ⟨sb, 0, none⟩ (.slice a ns'.length c)) := (CFr.later hb).trans (CFr.put sb W 0 _);refine ⟨zF h1.below (nZ9 _),fun x hx hxs=>?_⟩
   rw[jT (by omega)]
   exact h1.frame x hx hxs
set_option linter.unusedSimpArgs false in
set_option maxHeartbeats 2000000 in
theorem qda (S T:Nat→Prop)(sb n:Nat)(ns:List Nd)(vl:Value)(ls:List ByteArray)(w:World)(h:Sto S w sb ns n)(hL:Strs T w vl ls)(hE:yz w)(hz:∀ s∈ls,s.size≤maxLen) :
 Calls Tryz.prog 26 #[.pointer (some ⟨sb,0,none⟩),vl] w fun e w'=>jy S sb w (xX ls ns).1 (xX ls ns).2 n e w':=by
 obtain ⟨la,lc,rfl,hll,hlc⟩:=hL.shape;have HST:Hid _:=h;have hb0:=Below.alloc1 w (.cells #[.int .i64 0,.int .i64 0,.string ⟨#[]⟩] 41);have HR0:Hid _:=heap_alloc_new w (.cells #[.int .i64 0,.int .i64 0,.string ⟨#[]⟩] 41);have HEV:Hid (∀ W,Below w.heap.size w W→yz W):=fun W hW=>hE.later hW
 have HL:Hid (Strs T w (.slice la ls.length lc) ls):=hL;unfold maxLen at hlc
 clear h hE hL
 by_cases hl1:ls.length=1
 case neg =>
  have HS:Hid (xX ls ns=(q9 1,ns)):=by
   show _=_
   match ls,hl1 with
   | [],_=>rfl
   | [_],h=>exact absurd rfl h
   | _::_::_,_=>rfl
  have hl1b:((ls.length:Int)==1)=false:=beq_eq_false_iff_ne.2 (by omega)
  rw[HS.out];clear HEV HL
  go_enter Tryz.func26,Tryz.ntmps26
  go_wp2_with fail
  generalize w.alloc (.cells #[.int .i64 0,.int .i64 0,.string ⟨#[]⟩] 41)=W0 at *
  refine Calls.mono (zQ 1 W0) ?_;rintro e wr1 ⟨rfl,hbr1⟩;have HRr:Hid _:=(hbr1.block _ (qe HR0.out)).trans HR0.out;have hBr:=hb0.trans (hbr1.mono hb0.size);have r0:wr1.cell? ⟨w.heap.size,0,none⟩=some (.int .i64 0):=by rw[cH9 HRr.out];rfl
  have r1:wr1.cell? ⟨w.heap.size,1,none⟩=some (.int .i64 0):=by rw[cH9 HRr.out];rfl
  have r2:wr1.cell? ⟨w.heap.size,2,none⟩=some (.string ⟨#[]⟩):=by rw[cH9 HRr.out];rfl
  have f0:wr1.frozen? ⟨w.heap.size,0,none⟩=false:=fH9 HRr.out _;have f1:wr1.frozen? ⟨w.heap.size,1,none⟩=false:=fH9 HRr.out _;have f2:wr1.frozen? ⟨w.heap.size,2,none⟩=false:=fH9 HRr.out _;clear hbr1 HRr;go_wp2_with fail;refine bodyPost_ret (v:=.agg #[.int .i64 (1),.int .i64 0,.string ⟨#[]⟩]) (by simp[results,Tryz.results26,go_sem,qd,World.cell?_setCell_other,r0,r1,r2]) rfl ?_
  exact zu (q9 _) HST.out (zF hBr (nR9 _))
 case pos =>
  obtain ⟨s,rfl⟩:∃ s,ls=[s]:=by
   match ls,hl1 with
   | [s],_=>exact ⟨s,rfl⟩
  obtain ⟨b1,o1,c1,hv1,_,_,e1⟩:=(Strs.later HL.out hb0).at (i:=0) (x:=s) rfl
  injection hv1 with hv1 hv1l hv1c
  subst hv1 hv1c;clear hv1l hl1;simp only[List.length_cons,List.length_nil,Nat.zero_add,Nat.add_zero]at e1 hll ⊢
  have hsz:=hz s (List.mem_cons_self)
  have HP:Hid (∀ W,Below w.heap.size w W→Calls Tryz.prog 13 #[.string s] W fun e w'=>∃ va vk,e=.returned (.tuple #[.agg #[.bool (qu s.data.toList).1.text,.string (qu s.data.toList).1.s,va,vk],.int .i64 (qu s.data.toList).2])∧qj (fun b=>W.heap.size≤b) w' va (qu s.data.toList).1.attrs∧qa (fun b=>W.heap.size≤b) w' s.data.toList.length vk (qu s.data.toList).1.kids∧Below W.heap.size W w'):=by
   intro W hW;have:=Xo s.data.toList W (HEV.out W hW).marks (by rw[yx];unfold maxLen at hsz;omega)
   rw[jf]at this
   exact this
  have hpc:=Yb s.data.toList;have HS:Hid (xX [s] ns=if (qu s.data.toList).2≠0 then (q9 (qu s.data.toList).2,ns) else ((0,((yi s.data.toList.length (qu s.data.toList).1).length:Int),⟨#[]⟩),yi s.data.toList.length (qu s.data.toList).1)):=rfl
  obtain ⟨Q,hQ⟩:∃ Q,qu s.data.toList=Q:=⟨_,rfl⟩;rw[hQ]at HP HS hpc
  clear hQ hsz HEV HL hz;obtain ⟨t,E⟩:=Q;simp only at HP HS hpc
  generalize s.data.toList.length=N at *
  rcases hpc with ⟨c,hc,rfl⟩|⟨hg,rfl⟩
  · have hc0 : ¬ E = 0 := by rcases hc with rfl | rfl <;> decide
    have hcb:(E==0)=false:=by simpa using hc0
    rw[if_pos hc0]at HS
    rw[HS.out];clear hc hc0
    go_enter Tryz.func26,Tryz.ntmps26
    go_wp2_with fail
    generalize w.alloc (.cells #[.int .i64 0,.int .i64 0,.string ⟨#[]⟩] 41)=W0 at *
    refine Calls.mono (HP.out W0 hb0) ?_;rintro e w1 ⟨va,vk,rfl,hA1,hK1,hb1⟩;obtain ⟨aa,ac,rfl⟩:=hA1.shape;obtain ⟨ka,kc,rfl,_,_⟩:=qa.shape N hK1;have hb2:=Below.alloc1 w1 (.cells #[.bool t.text,.string t.s,.slice aa t.attrs.length ac,.slice ka t.kids.length kc] 34);have hb12:=hb1.trans (hb2.mono hb1.size);have hB2:=hb0.trans (hb12.mono hb0.size);have HR2:Hid _:=(hb12.block _ (qe HR0.out)).trans HR0.out;clear hA1 hK1 hb1 hb2 hb12 HP;go_wp2_with fail
    generalize w1.alloc (.cells #[.bool t.text,.string t.s,.slice aa t.attrs.length ac,.slice ka t.kids.length kc] 34)=W2 at *
    refine Calls.mono (zQ E W2) ?_;rintro e wr1 ⟨rfl,hbr1⟩;have HRr:Hid _:=(hbr1.block _ (qe HR2.out)).trans HR2.out;have hBr:=hB2.trans (hbr1.mono hB2.size);have r0:wr1.cell? ⟨w.heap.size,0,none⟩=some (.int .i64 0):=by rw[cH9 HRr.out];rfl
    have r1:wr1.cell? ⟨w.heap.size,1,none⟩=some (.int .i64 0):=by rw[cH9 HRr.out];rfl
    have r2:wr1.cell? ⟨w.heap.size,2,none⟩=some (.string ⟨#[]⟩):=by rw[cH9 HRr.out];rfl
    have f0:wr1.frozen? ⟨w.heap.size,0,none⟩=false:=fH9 HRr.out _;have f1:wr1.frozen? ⟨w.heap.size,1,none⟩=false:=fH9 HRr.out _;have f2:wr1.frozen? ⟨w.heap.size,2,none⟩=false:=fH9 HRr.out _;clear hbr1 HRr;go_wp2_with fail;refine bodyPost_ret (v:=.agg #[.int .i64 (E),.int .i64 0,.string ⟨#[]⟩]) (by simp[results,Tryz.results26,go_sem,qd,World.cell?_setCell_other,r0,r1,r2]) rfl ?_
    exact zu (q9 _) HST.out (zF hBr (nR9 _))
  · rw[if_neg (by simp)]at HS
    rw[HS.out];obtain ⟨D,hD⟩:∃ D,yi N t=D:=⟨_,rfl⟩;rw[hD]
    go_enter Tryz.func26,Tryz.ntmps26
    go_wp2_with fail
    generalize w.alloc (.cells #[.int .i64 0,.int .i64 0,.string ⟨#[]⟩] 41)=W0 at *
    refine Calls.mono (HP.out W0 hb0) ?_;rintro e w1 ⟨va,vk,rfl,hA1,hK1,hb1⟩;obtain ⟨aa,ac,rfl⟩:=hA1.shape;obtain ⟨ka,kc,rfl,_,_⟩:=qa.shape N hK1;have hb2:=Below.alloc1 w1 (.cells #[.bool t.text,.string t.s,.slice aa t.attrs.length ac,.slice ka t.kids.length kc] 34);have hb12:=hb1.trans (hb2.mono hb1.size);have hB2:=hb0.trans (hb12.mono hb0.size);have HR2:Hid _:=(hb12.block _ (qe HR0.out)).trans HR0.out;have hdp:=qa.deep N hK1;have HMK:Hid _:=YZ (fun b=>b<(w1.alloc (.cells #[.bool t.text,.string t.s,.slice aa t.attrs.length ac,.slice ka t.kids.length kc] 34)).heap.size) N _ _ t _ ((qj.later hA1 hb2).bounded.carry fun b hb=>⟨hb.2,rfl⟩) (qa.carry (fun b hb=>⟨hb.2,rfl⟩) N (qa.bounded N (qa.later hb2 N hK1))) (Q2 hg _) (fun b hb=>hb)
    have HMG:Hid (qq (yi N t)=true):=by
     show _=_
     unfold yi;rw[if_pos hg];exact (ZP hdp hg).1
    have hme:x5 t=0:=by unfold x5;rw[if_pos hg]
    rw[hme]at HMK
    rw[hD]at HMK HMG
    clear hA1 hK1 hb1 hb2 hb12 HP hme hdp hg HS hD;go_wp2_with fail
    generalize w1.alloc (.cells #[.bool t.text,.string t.s,.slice aa t.attrs.length ac,.slice ka t.kids.length kc] 34)=W2 at *
    refine Calls.mono HMK.out ?_;rintro e w3 ⟨v3,rfl,hN3,hb3⟩;obtain ⟨a3,c3,rfl,_,hc3⟩:=hN3.shape;have hb4:=Below.alloc1 w3 (.cells #[.slice a3 D.length c3] 29);have hb34:=hb3.trans (hb4.mono hb3.size);have hB4:=hB2.trans (hb34.mono hB2.size);have HR4:Hid _:=(hb34.block _ (qe HR2.out)).trans HR2.out;have HN4:Hid _:=qp.later hN3 hb4;have hrw2:w.heap.size<W2.heap.size:=qe HR2.out;obtain ⟨a0,c0,hbx,_,_⟩:=HST.out.box;have hsbl:=qe hbx;have HX4:Hid _:=(hB4.block sb hsbl).trans hbx;have x4:(w3.alloc (.cells #[.slice a3 D.length c3] 29)).cell? ⟨sb,0,none⟩=some (.slice a0 ns.length c0):=by rw[cH9 HX4.out];rfl
    have xf4:(w3.alloc (.cells #[.slice a3 D.length c3] 29)).frozen? ⟨sb,0,none⟩=false:=fH9 HX4.out _;have HRs:Hid (((w3.alloc (.cells #[.slice a3 D.length c3] 29)).setCell ⟨sb,0,none⟩ (.slice a3 D.length c3)).heap[w.heap.size]?=_):=(qb (by omega)).trans HR4.out
    have HD4:Hid _:=heap_alloc_new w3 (.cells #[.slice a3 D.length c3] 29);have hd4ne:sb≠w3.heap.size:=by have:=hB4.size;have:=hb34.size;have:=hb3.size;omega
    have d4:((w3.alloc (.cells #[.slice a3 D.length c3] 29)).setCell ⟨sb,0,none⟩ (.slice a3 D.length c3)).cell? ⟨w3.heap.size,0,none⟩=some (.slice a3 D.length c3):=by
     rw[World.cell?_of_block (a:=⟨w3.heap.size,0,none⟩) (qb (fun e=>hd4ne e.symm)),cH9 HD4.out];rfl
    have r0:((w3.alloc (.cells #[.slice a3 D.length c3] 29)).setCell ⟨sb,0,none⟩ (.slice a3 D.length c3)).cell? ⟨w.heap.size,0,none⟩=some (.int .i64 0):=by rw[cH9 HRs.out];rfl
    have r1:((w3.alloc (.cells #[.slice a3 D.length c3] 29)).setCell ⟨sb,0,none⟩ (.slice a3 D.length c3)).cell? ⟨w.heap.size,1,none⟩=some (.int .i64 0):=by rw[cH9 HRs.out];rfl
    have r2:((w3.alloc (.cells #[.slice a3 D.length c3] 29)).setCell ⟨sb,0,none⟩ (.slice a3 D.length c3)).cell? ⟨w.heap.size,2,none⟩=some (.string ⟨#[]⟩):=by rw[cH9 HRs.out];rfl
    have f0:((w3.alloc (.cells #[.slice a3 D.length c3] 29)).setCell ⟨sb,0,none⟩ (.slice a3 D.length c3)).frozen? ⟨w.heap.size,0,none⟩=false:=fH9 HRs.out _;have f1:((w3.alloc (.cells #[.slice a3 D.length c3] 29)).setCell ⟨sb,0,none⟩ (.slice a3 D.length c3)).frozen? ⟨w.heap.size,1,none⟩=false:=fH9 HRs.out _;have f2:((w3.alloc (.cells #[.slice a3 D.length c3] 29)).setCell ⟨sb,0,none⟩ (.slice a3 D.length c3)).frozen? ⟨w.heap.size,2,none⟩=false:=fH9 HRs.out _;clear hN3 hb3 hb4 hb34 HR2 HMK HRs HX4 hbx;go_wp2_with fail;refine bodyPost_ret (v:=.agg #[.int .i64 0,.int .i64 (D.length:Int),.string ⟨#[]⟩]) (by simp[results,Tryz.results26,go_sem,qd,World.cell?_setCell_other,r0,r1,r2]) rfl ?_
    exact YL (0,(D.length:Int),⟨#[]⟩) HST.out hB4 (fun b hb=>Or.inr (by omega)) HN4.out hc3 HMG.out (nR9 _) (fun b hb=>by omega)
end
section
attribute [local go_sem] qd
theorem yh {ns:List Nd}(hg:qq ns=true):jx ns 0=(growF ns.length ns 0,0)∧qR (growF ns.length ns 0)=true:=by
 have h:=hg;simp only[qq,Bool.and_eq_true]at h
 have h0:=Q4 h.1.2;have hq:jz ns 0=true:=by unfold jz;simp;omega
 refine ⟨?_,h.2⟩;unfold jx;rw[hg,hq];rfl
set_option linter.unusedSimpArgs false in
set_option maxHeartbeats 2000000 in
theorem qdy (S:Nat→Prop)(sb n:Nat)(ns:List Nd)(w:World)(h:Sto S w sb ns n)(hE:yz w) :
 Calls Tryz.prog 28 #[.pointer (some ⟨sb,0,none⟩)] w fun e w'=>jy S sb w (Za ns) ns n e w':=by
 have HST:Hid _:=h;have hb0:=Below.alloc1 w (.cells #[.int .i64 0,.int .i64 0,.string ⟨#[]⟩] 41);have HR0:Hid _:=heap_alloc_new w (.cells #[.int .i64 0,.int .i64 0,.string ⟨#[]⟩] 41);have HEV:Hid (∀ W,Below w.heap.size w W→yz W):=fun W hW=>hE.later hW
 obtain ⟨a,c,hbx,hN,hcm⟩:=h.box;have hsl:=qe hbx
 have HX:Hid (∀ W,Below w.heap.size w W→W.cell? ⟨sb,0,none⟩=some (.slice a ns.length c)):=fun W hW=>by
  rw[cH9 ((hW.block sb hsl).trans hbx)];rfl
 have x0:=HX.out _ hb0;obtain ⟨htd,hgt⟩:=yh h.good;have HT:Hid _:=xD S (.slice a ns.length c) ns 0 _ ((h.doc hN).later hb0)
 have HS:Hid (Za ns=if (qO ns.length (growF ns.length ns 0)).2≠0 then q9 (qO ns.length (growF ns.length ns 0)).2 else (0,(ns.length:Int),(qO ns.length (growF ns.length ns 0)).1)):=by
  show _=_
  unfold Za;rw[htd];rfl
 rw[htd]at HT
 generalize growF ns.length ns 0=t at *
 have HPR:Hid (∀ (U:Nat→Prop) (va vk:Value) (W:World),Below w.heap.size w W→qj U W va t.attrs→qa U W ns.length vk t.kids→Calls Tryz.prog 10 #[.agg #[.bool t.text,.string t.s,va,vk]] W fun e w'=>e=.returned (.tuple #[.string (qO ns.length t).1,.int .i64 (qO ns.length t).2])∧Below W.heap.size W w') :=
  fun U va vk W hW hA hK=>Yc U ns.length va vk t W hA hK (HEV.out W hW).marks (Q2 hgt _)
 obtain ⟨P,E,hPE⟩:∃ P E,qO ns.length t=(P,E):=⟨_,_,rfl⟩;rw[hPE]at HS HPR
 simp only at HS HPR
 unfold maxLen at hcm
 clear h hE htd hgt hbx hN hPE HEV;have main:True:=trivial;clear main
 by_cases hE0:E=0
 · subst hE0;rw[if_neg (by simp)]at HS
   rw[HS.out]
   go_enter Tryz.func28,Tryz.ntmps28
   go_wp2_with fail
   generalize w.alloc (.cells #[.int .i64 0,.int .i64 0,.string ⟨#[]⟩] 41)=W0 at *
   refine Calls.mono HT.out ?_;rintro e w1 ⟨va,vk,rfl,hA1,hK1,hb1⟩;obtain ⟨aa,ac,rfl⟩:=hA1.shape;obtain ⟨ka,kc,rfl,_,_⟩:=qa.shape ns.length hK1;have hb2:=Below.alloc1 w1 (.cells #[.bool t.text,.string t.s,.slice aa t.attrs.length ac,.slice ka t.kids.length kc] 34);have hb12:=hb1.trans (hb2.mono hb1.size);have hB2:=hb0.trans (hb12.mono hb0.size);have HR2:Hid _:=(hb12.block _ (qe HR0.out)).trans HR0.out;have HP2:Hid _:=HPR.out _ _ _ _ hB2 (qj.later hA1 hb2) (qa.later hb2 ns.length hK1);clear hA1 hK1 hb1 hb2 hb12 HT HPR HS;go_wp2_with fail
   generalize w1.alloc (.cells #[.bool t.text,.string t.s,.slice aa t.attrs.length ac,.slice ka t.kids.length kc] 34)=W2 at *
   refine Calls.mono HP2.out ?_;rintro e w3 ⟨rfl,hb3⟩;have hB3:=hB2.trans (hb3.mono hB2.size);have HR3:Hid _:=(hb3.block _ (qe HR2.out)).trans HR2.out;have x3:=HX.out w3 hB3;have r0:w3.cell? ⟨w.heap.size,0,none⟩=some (.int .i64 0):=by rw[cH9 HR3.out];rfl
   have r1:w3.cell? ⟨w.heap.size,1,none⟩=some (.int .i64 0):=by rw[cH9 HR3.out];rfl
   have r2:w3.cell? ⟨w.heap.size,2,none⟩=some (.string ⟨#[]⟩):=by rw[cH9 HR3.out];rfl
   have f0:w3.frozen? ⟨w.heap.size,0,none⟩=false:=fH9 HR3.out _;have f1:w3.frozen? ⟨w.heap.size,1,none⟩=false:=fH9 HR3.out _;have f2:w3.frozen? ⟨w.heap.size,2,none⟩=false:=fH9 HR3.out _;clear hb3 HR2 HR3 HP2 HX x0;go_wp2_with fail;refine bodyPost_ret (v:=.agg #[.int .i64 0,.int .i64 (ns.length:Int),.string P]) (by simp[results,Tryz.results28,go_sem,qd,World.cell?_setCell_other,r0,r1,r2]) rfl ?_
   exact zu (0,(ns.length:Int),P) HST.out (zF hB3 (nR9 _))
 · have hEb : (E == 0) = false := by simpa using hE0
   rw[if_pos hE0]at HS
   rw[HS.out]
   go_enter Tryz.func28,Tryz.ntmps28
   go_wp2_with fail
   generalize w.alloc (.cells #[.int .i64 0,.int .i64 0,.string ⟨#[]⟩] 41)=W0 at *
   refine Calls.mono HT.out ?_;rintro e w1 ⟨va,vk,rfl,hA1,hK1,hb1⟩;obtain ⟨aa,ac,rfl⟩:=hA1.shape;obtain ⟨ka,kc,rfl,_,_⟩:=qa.shape ns.length hK1;have hb2:=Below.alloc1 w1 (.cells #[.bool t.text,.string t.s,.slice aa t.attrs.length ac,.slice ka t.kids.length kc] 34);have hb12:=hb1.trans (hb2.mono hb1.size);have hB2:=hb0.trans (hb12.mono hb0.size);have HR2:Hid _:=(hb12.block _ (qe HR0.out)).trans HR0.out;have HP2:Hid _:=HPR.out _ _ _ _ hB2 (qj.later hA1 hb2) (qa.later hb2 ns.length hK1);clear hA1 hK1 hb1 hb2 hb12 HT HPR HS hE0;go_wp2_with fail
   generalize w1.alloc (.cells #[.bool t.text,.string t.s,.slice aa t.attrs.length ac,.slice ka t.kids.length kc] 34)=W2 at *
   refine Calls.mono HP2.out ?_;rintro e w3 ⟨rfl,hb3⟩;have hB3:=hB2.trans (hb3.mono hB2.size);have HR3:Hid _:=(hb3.block _ (qe HR2.out)).trans HR2.out;clear hb3 HR2 HP2 HX x0;go_wp2_with fail;refine Calls.mono (zQ E w3) ?_;rintro e wr1 ⟨rfl,hbr1⟩;have HRr:Hid _:=(hbr1.block _ (qe HR3.out)).trans HR3.out;have hBr:=hB3.trans (hbr1.mono hB3.size);have r0:wr1.cell? ⟨w.heap.size,0,none⟩=some (.int .i64 0):=by rw[cH9 HRr.out];rfl
   have r1:wr1.cell? ⟨w.heap.size,1,none⟩=some (.int .i64 0):=by rw[cH9 HRr.out];rfl
   have r2:wr1.cell? ⟨w.heap.size,2,none⟩=some (.string ⟨#[]⟩):=by rw[cH9 HRr.out];rfl
   have f0:wr1.frozen? ⟨w.heap.size,0,none⟩=false:=fH9 HRr.out _;have f1:wr1.frozen? ⟨w.heap.size,1,none⟩=false:=fH9 HRr.out _;have f2:wr1.frozen? ⟨w.heap.size,2,none⟩=false:=fH9 HRr.out _;clear hbr1 HRr;go_wp2_with fail;refine bodyPost_ret (v:=.agg #[.int .i64 (E),.int .i64 0,.string ⟨#[]⟩]) (by simp[results,Tryz.results28,go_sem,qd,World.cell?_setCell_other,r0,r1,r2]) rfl ?_
   exact zu (q9 _) HST.out (zF hBr (nR9 _))
theorem XK (k:Int)(said:List UInt8)(hs:said.length≤2500)(n:Nat):TextsN n (qt k said).1.content∧(qt k said).1.name.size≤maxLen∧(qt k said).1.s.size≤maxLen:=by
 have h0:TextsN n []:=by cases n with|zero=>trivial|succ n=>intro t ht;cases ht
 have hz:(⟨#[]⟩:ByteArray).size≤maxLen:=nZ9 _
 have hc:TextsN n (qP said).1:=by
  rcases VM said with ⟨_,h⟩|⟨h,_⟩
  · rw[h];exact h0
  · exact QJ h n
 have ht:∀ s:List UInt8,s.length≤2500→(qc (zN s).1).size≤maxLen:=by
  intro s hs;rw[ql];unfold zN
  split
  · exact nZ9 _
  · split
    · exact nZ9 _
    · exact Nat.le_trans (ZR textEnds _ _) (by unfold Rs.left maxLen;simp;omega)
 have hcs:=jK 61 said;unfold qt
 split
 · exact ⟨hc,hz,hz⟩
 · split
   · exact ⟨h0,hz,ht said hs⟩
   · split
     · exact ⟨h0,by rw[ql];unfold maxLen;omega,hz⟩
     · split
       · split
         · exact ⟨h0,by rw[ql];unfold maxLen;omega,ht _ (by omega)⟩
         · exact ⟨h0,hz,hz⟩
       · exact ⟨h0,hz,hz⟩
theorem V0 (s:List UInt8)(n:Nat):TextsN n (qX s).1.content∧(qX s).1.name.size≤maxLen∧(qX s).1.s.size≤maxLen:=by
 have h00:TextsN n []:=by cases n with|zero=>trivial|succ n=>intro t ht;cases ht
 have h0:TextsN n noOp.content∧noOp.name.size≤maxLen∧noOp.s.size≤maxLen:=⟨h00,nZ9 _,nZ9 _⟩;unfold qX
 split
 · exact h0
 · rename_i hl
   have h1:=jK 32 s;have h2:=jK 32 (zy s);have hsl:(zW s).length≤2500:=by have:=h1.2;have:=h2.2;unfold zW;unfold zy at *;omega
   split
   · exact h0
   · split
     · exact h0
     · split
       · exact h0
       · exact XK _ _ hsl n
theorem qbo (ns:List Nd)(n:Nat):∀ ls:List ByteArray,QV n (qM ns ls).1:=by
 intro ls
 induction ls with
 | nil=>intro x hx;cases hx
 | cons s r ih =>
   intro x hx;unfold qM at hx
   split at hx
   · cases hx
   · split at hx
     · cases hx
     · split at hx
       · cases hx
       · split at hx
         · cases hx
         · rcases List.mem_append.1 hx with hx | hx
           · unfold Yx at hx
             obtain ⟨t,_,rfl⟩:=List.mem_map.1 hx;exact V0 s.data.toList n
           · exact ih x hx
set_option linter.unusedSimpArgs false in
set_option maxHeartbeats 2000000 in
theorem qbg (S T:Nat→Prop)(sb n:Nat)(ns:List Nd)(vl:Value)(ls:List ByteArray)(w:World)(h:Sto S w sb ns n)(hL:Strs T w vl ls)(hE:yz w)(hz:∀ s∈ls,s.size≤maxLen) :
 Calls Tryz.prog 27 #[.pointer (some ⟨sb,0,none⟩),vl] w fun e w'=>jy S sb w (jI ls ns).1 (jI ls ns).2 n e w':=by
 obtain ⟨la,lc,rfl,hll,hlc⟩:=hL.shape;have HST:Hid _:=h;have hb0:=Below.alloc1 w (.cells #[.int .i64 0,.int .i64 0,.string ⟨#[]⟩] 41);have HR0:Hid _:=heap_alloc_new w (.cells #[.int .i64 0,.int .i64 0,.string ⟨#[]⟩] 41);have HEV:Hid (∀ W,Below w.heap.size w W→yz W):=fun W hW=>hE.later hW
 obtain ⟨a,c,hbx,hN,hcm⟩:=h.box;have hsl:=qe hbx;have HBX:Hid _:=hbx
 have HX:Hid (∀ W,Below w.heap.size w W→W.cell? ⟨sb,0,none⟩=some (.slice a ns.length c)):=fun W hW=>by
  rw[cH9 ((hW.block sb hsl).trans hbx)];rfl
 have x0:=HX.out _ hb0;have HD:Hid _:=h.doc hN;unfold maxLen at hcm hlc
 clear hbx hN
 by_cases h6:6<ls.length
 · have h6i : (6 : Int) < (ls.length : Int) := by omega
   have HS:Hid (jI ls ns=(q9 2,ns)):=by show _=_;unfold jI;rw[if_pos h6]
   rw[HS.out];clear h hE HEV hL HX x0 HD HBX
   go_enter Tryz.func27,Tryz.ntmps27
   go_wp2_with fail
   generalize w.alloc (.cells #[.int .i64 0,.int .i64 0,.string ⟨#[]⟩] 41)=W0 at *
   refine Calls.mono (zQ 2 W0) ?_;rintro e wr1 ⟨rfl,hbr1⟩;have HRr:Hid _:=(hbr1.block _ (qe HR0.out)).trans HR0.out;have hBr:=hb0.trans (hbr1.mono hb0.size);have r0:wr1.cell? ⟨w.heap.size,0,none⟩=some (.int .i64 0):=by rw[cH9 HRr.out];rfl
   have r1:wr1.cell? ⟨w.heap.size,1,none⟩=some (.int .i64 0):=by rw[cH9 HRr.out];rfl
   have r2:wr1.cell? ⟨w.heap.size,2,none⟩=some (.string ⟨#[]⟩):=by rw[cH9 HRr.out];rfl
   have f0:wr1.frozen? ⟨w.heap.size,0,none⟩=false:=fH9 HRr.out _;have f1:wr1.frozen? ⟨w.heap.size,1,none⟩=false:=fH9 HRr.out _;have f2:wr1.frozen? ⟨w.heap.size,2,none⟩=false:=fH9 HRr.out _;clear hbr1 HRr;go_wp2_with fail;refine bodyPost_ret (v:=.agg #[.int .i64 (2),.int .i64 0,.string ⟨#[]⟩]) (by simp[results,Tryz.results27,go_sem,qd,World.cell?_setCell_other,r0,r1,r2]) rfl ?_
   exact zu (q9 _) HST.out (zF hBr (nR9 _))
 · have h6i : ¬ (6 : Int) < (ls.length : Int) := by omega
   have HS:Hid (jI ls ns=if (qM ns ls).2≠0 then (q9 (qM ns ls).2,ns) else if yB ns (qM ns ls).1≠0 then (q9 (yB ns (qM ns ls).1),ns) else ((0,((qM ns ls).1.length:Int),⟨#[]⟩),yA ns (qM ns ls).1)):=by show _=_;unfold jI;rw[if_neg h6]
   have HCH:Hid _:=KH (fun b=>b<(w.alloc (.cells #[.int .i64 0,.int .i64 0,.string ⟨#[]⟩] 41)).heap.size) (.slice a ns.length c) (.slice la ls.length lc) ns ls _ ⟨(HD.out.later hb0).nodes.carry fun b hb=>⟨(HD.out.later hb0).here b hb,rfl⟩,fun b hb=>hb,HD.out.few,HD.out.short⟩ ((hL.later hb0).bounded.carry fun b hb=>⟨hb.2,rfl⟩) (HEV.out _ hb0) (by omega) hz
   have HTX:Hid _:=qbo ns 2501 ls;obtain ⟨L,hLL⟩:∃ L,(qM ns ls).1=L:=⟨_,rfl⟩;obtain ⟨E,hEE⟩:∃ E,(qM ns ls).2=E:=⟨_,rfl⟩;rw[hLL,hEE]at HCH HS
   rw[hLL]at HTX
   clear h hE HEV hL hLL hEE
   by_cases hE0:E=0
   case neg =>
    have hEb:(E==0)=false:=by simpa using hE0
    rw[if_pos hE0]at HS
    rw[HS.out];clear hE0
    go_enter Tryz.func27,Tryz.ntmps27
    go_wp2_with fail
    generalize w.alloc (.cells #[.int .i64 0,.int .i64 0,.string ⟨#[]⟩] 41)=W0 at *
    refine Calls.mono HCH.out ?_;rintro e w1 ⟨v1,rfl,hO1,hb1⟩;obtain ⟨oa,oc,rfl,_,_⟩:=hO1.shape;have hB1:=hb0.trans (hb1.mono hb0.size);have HR1:Hid _:=(hb1.block _ (qe HR0.out)).trans HR0.out;clear hO1 hb1 HCH HX x0;go_wp2_with fail;refine Calls.mono (zQ E w1) ?_;rintro e wr1 ⟨rfl,hbr1⟩;have HRr:Hid _:=(hbr1.block _ (qe HR1.out)).trans HR1.out;have hBr:=hB1.trans (hbr1.mono hB1.size);have r0:wr1.cell? ⟨w.heap.size,0,none⟩=some (.int .i64 0):=by rw[cH9 HRr.out];rfl
    have r1:wr1.cell? ⟨w.heap.size,1,none⟩=some (.int .i64 0):=by rw[cH9 HRr.out];rfl
    have r2:wr1.cell? ⟨w.heap.size,2,none⟩=some (.string ⟨#[]⟩):=by rw[cH9 HRr.out];rfl
    have f0:wr1.frozen? ⟨w.heap.size,0,none⟩=false:=fH9 HRr.out _;have f1:wr1.frozen? ⟨w.heap.size,1,none⟩=false:=fH9 HRr.out _;have f2:wr1.frozen? ⟨w.heap.size,2,none⟩=false:=fH9 HRr.out _;clear hbr1 HRr;go_wp2_with fail;refine bodyPost_ret (v:=.agg #[.int .i64 (E),.int .i64 0,.string ⟨#[]⟩]) (by simp[results,Tryz.results27,go_sem,qd,World.cell?_setCell_other,r0,r1,r2]) rfl ?_
    exact zu (q9 _) HST.out (zF hBr (nR9 _))
   case pos =>
    subst hE0;rw[if_neg (by simp)]at HS
    obtain ⟨F,hF⟩:∃ F,yB ns L=F:=⟨_,rfl⟩;obtain ⟨D,hD⟩:∃ D,yA ns L=D:=⟨_,rfl⟩
    have HGD:Hid (F=0→qq D=true):=by
     intro h0;rw[←hD];exact (VE (hF.trans h0)).1
    rw[hF,hD]at HS
    have HAP:Hid (∀ (w1:World) (v:Value),Below (w.alloc (.cells #[.int .i64 0,.int .i64 0,.string ⟨#[]⟩] 41)).heap.size (w.alloc (.cells #[.int .i64 0,.int .i64 0,.string ⟨#[]⟩] 41)) w1→Ops (fun b=>(w.alloc (.cells #[.int .i64 0,.int .i64 0,.string ⟨#[]⟩] 41)).heap.size≤b) w1 2501 v L→Calls Tryz.prog 38 #[.agg #[.slice a ns.length c],v] w1 fun e w'=>∃ v',e=.returned (.tuple #[.agg #[v'],.int .i64 F])∧qp (fun b=>(S b∨(w.alloc (.cells #[.int .i64 0,.int .i64 0,.string ⟨#[]⟩] 41)).heap.size≤b)∧b<w'.heap.size) w' v' D∧Below w1.heap.size w1 w'):=by
     intro w1 v hb1 hO;have hB1:=hb0.trans (hb1.mono hb0.size);have hD1:=HD.out.later hB1;have:=XH (fun b=>(S b∨(w.alloc (.cells #[.int .i64 0,.int .i64 0,.string ⟨#[]⟩] 41)).heap.size≤b)∧b<w1.heap.size) 2501 _ v ns L w1 (hD1.nodes.carry fun b hb=>⟨⟨Or.inl hb,hD1.here b hb⟩,rfl⟩) (fun b hb=>hb.2) hD1.few hD1.short (hO.bounded.carry fun b hb=>⟨⟨Or.inr hb.1,hb.2⟩,rfl⟩) HTX.out
     rw[hF,hD]at this
     refine this.mono ?_;rintro e w' ⟨v',rfl,h1,h2⟩;refine ⟨v',rfl,h1.bounded.carry fun b hb=>⟨⟨?_,hb.2⟩,rfl⟩,h2⟩
     rcases hb.1 with h|h
     · exact h.1
     · exact Or.inr (Nat.le_trans hb1.size h)
    clear hF hD
    by_cases hF0:F=0
    case neg =>
     have hFb:(F==0)=false:=by simpa using hF0
     rw[if_pos hF0]at HS
     rw[HS.out];clear hF0 HGD
     go_enter Tryz.func27,Tryz.ntmps27
     go_wp2_with fail
     generalize w.alloc (.cells #[.int .i64 0,.int .i64 0,.string ⟨#[]⟩] 41)=W0 at *
     refine Calls.mono HCH.out ?_;rintro e w1 ⟨v1,rfl,hO1,hb1⟩;obtain ⟨oa,oc,rfl,_,_⟩:=hO1.shape;have hB1:=hb0.trans (hb1.mono hb0.size);have HR1:Hid _:=(hb1.block _ (qe HR0.out)).trans HR0.out;have x1:=HX.out w1 hB1;have HA1:Hid _:=HAP.out w1 _ hb1 hO1;clear hO1 hb1 HCH x0 HAP;go_wp2_with fail;refine Calls.mono HA1.out ?_;rintro e w2 ⟨v2,rfl,hN2,hb2⟩;obtain ⟨a2,c2,rfl,_,_⟩:=hN2.shape;have hb3:=Below.alloc1 w2 (.cells #[.slice a2 D.length c2] 29);have hb23:=hb2.trans (hb3.mono hb2.size);have hB3:=hB1.trans (hb23.mono hB1.size);have HR3:Hid _:=(hb23.block _ (qe HR1.out)).trans HR1.out;clear hN2 hb2 hb3 hb23 HR1 x1 HX HA1;go_wp2_with fail
     generalize w2.alloc (.cells #[.slice a2 D.length c2] 29)=W3 at *
     refine Calls.mono (zQ F W3) ?_;rintro e wr1 ⟨rfl,hbr1⟩;have HRr:Hid _:=(hbr1.block _ (qe HR3.out)).trans HR3.out;have hBr:=hB3.trans (hbr1.mono hB3.size);have r0:wr1.cell? ⟨w.heap.size,0,none⟩=some (.int .i64 0):=by rw[cH9 HRr.out];rfl
     have r1:wr1.cell? ⟨w.heap.size,1,none⟩=some (.int .i64 0):=by rw[cH9 HRr.out];rfl
     have r2:wr1.cell? ⟨w.heap.size,2,none⟩=some (.string ⟨#[]⟩):=by rw[cH9 HRr.out];rfl
     have f0:wr1.frozen? ⟨w.heap.size,0,none⟩=false:=fH9 HRr.out _;have f1:wr1.frozen? ⟨w.heap.size,1,none⟩=false:=fH9 HRr.out _;have f2:wr1.frozen? ⟨w.heap.size,2,none⟩=false:=fH9 HRr.out _;clear hbr1 HRr;go_wp2_with fail;refine bodyPost_ret (v:=.agg #[.int .i64 (F),.int .i64 0,.string ⟨#[]⟩]) (by simp[results,Tryz.results27,go_sem,qd,World.cell?_setCell_other,r0,r1,r2]) rfl ?_
     exact zu (q9 _) HST.out (zF hBr (nR9 _))
    case pos =>
     subst hF0;rw[if_neg (by simp)]at HS
     rw[HS.out];have hgD:=HGD.out rfl;have HGG:Hid _:=hgD;clear HGD hgD
     go_enter Tryz.func27,Tryz.ntmps27
     go_wp2_with fail
     generalize w.alloc (.cells #[.int .i64 0,.int .i64 0,.string ⟨#[]⟩] 41)=W0 at *
     refine Calls.mono HCH.out ?_;rintro e w1 ⟨v1,rfl,hO1,hb1⟩;obtain ⟨oa,oc,rfl,_,hocm⟩:=hO1.shape;have hB1:=hb0.trans (hb1.mono hb0.size);have HR1:Hid _:=(hb1.block _ (qe HR0.out)).trans HR0.out;have x1:=HX.out w1 hB1;have HA1:Hid _:=HAP.out w1 _ hb1 hO1;have hrw0:w.heap.size<W0.heap.size:=qe HR0.out;clear hO1 hb1 HCH x0 HAP;go_wp2_with fail;refine Calls.mono HA1.out ?_;rintro e w2 ⟨v2,rfl,hN2,hb2⟩;obtain ⟨a2,c2,rfl,_,hc2⟩:=hN2.shape;have hb3:=Below.alloc1 w2 (.cells #[.slice a2 D.length c2] 29);have hb23:=hb2.trans (hb3.mono hb2.size);have hB3:=hB1.trans (hb23.mono hB1.size);have HR3:Hid _:=(hb23.block _ (qe HR1.out)).trans HR1.out;have HN3:Hid _:=qp.later hN2 hb3;have HX3:Hid _:=(hB3.block sb hsl).trans HBX.out;have x3:(w2.alloc (.cells #[.slice a2 D.length c2] 29)).cell? ⟨sb,0,none⟩=some (.slice a ns.length c):=by rw[cH9 HX3.out];rfl
     have xf3:(w2.alloc (.cells #[.slice a2 D.length c2] 29)).frozen? ⟨sb,0,none⟩=false:=fH9 HX3.out _;have HRs:Hid (((w2.alloc (.cells #[.slice a2 D.length c2] 29)).setCell ⟨sb,0,none⟩ (.slice a2 D.length c2)).heap[w.heap.size]?=_):=(qb (by omega)).trans HR3.out
     have hSw:∀ b,S b→b<w.heap.size:=fun b hb=>(HST.out.here b hb).1
     have HSW:Hid _:=hSw;have r0:((w2.alloc (.cells #[.slice a2 D.length c2] 29)).setCell ⟨sb,0,none⟩ (.slice a2 D.length c2)).cell? ⟨w.heap.size,0,none⟩=some (.int .i64 0):=by rw[cH9 HRs.out];rfl
     have r1:((w2.alloc (.cells #[.slice a2 D.length c2] 29)).setCell ⟨sb,0,none⟩ (.slice a2 D.length c2)).cell? ⟨w.heap.size,1,none⟩=some (.int .i64 0):=by rw[cH9 HRs.out];rfl
     have r2:((w2.alloc (.cells #[.slice a2 D.length c2] 29)).setCell ⟨sb,0,none⟩ (.slice a2 D.length c2)).cell? ⟨w.heap.size,2,none⟩=some (.string ⟨#[]⟩):=by rw[cH9 HRs.out];rfl
     have f0:((w2.alloc (.cells #[.slice a2 D.length c2] 29)).setCell ⟨sb,0,none⟩ (.slice a2 D.length c2)).frozen? ⟨w.heap.size,0,none⟩=false:=fH9 HRs.out _;have f1:((w2.alloc (.cells #[.slice a2 D.length c2] 29)).setCell ⟨sb,0,none⟩ (.slice a2 D.length c2)).frozen? ⟨w.heap.size,1,none⟩=false:=fH9 HRs.out _;have f2:((w2.alloc (.cells #[.slice a2 D.length c2] 29)).setCell ⟨sb,0,none⟩ (.slice a2 D.length c2)).frozen? ⟨w.heap.size,2,none⟩=false:=fH9 HRs.out _;clear hN2 hb2 hb3 hb23 HR1 x1 HX HA1 HRs HX3 hSw;go_wp2_with fail;refine bodyPost_ret (v:=.agg #[.int .i64 0,.int .i64 (L.length:Int),.string ⟨#[]⟩]) (by simp[results,Tryz.results27,go_sem,qd,World.cell?_setCell_other,r0,r1,r2]) rfl ?_
     exact YL (0,(L.length:Int),⟨#[]⟩) HST.out hB3 (fun b hb=>by rcases hb.1 with h|h;exact Or.inl h;exact Or.inr (by omega)) HN3.out hc2 HGG.out (nR9 _) (fun b hb=>by
      rcases hb.1 with h|h
      · have:=HSW.out b h;omega
      · omega)
end
section
attribute [local go_sem] qd
theorem Sto.acts {S:Nat→Prop}{w W:World}{sb n:Nat}{ns:List Nd}(h:Sto S w sb ns n)(hb:Below w.heap.size w W)(m:Nat):Sto S (W.setCell ⟨sb,1,none⟩ (.int .i64 (m:Int))) sb ns m:=by
 obtain ⟨a,c,h1,h2,h3⟩:=h.box;have hbx:W.heap[sb]?=_:=(hb.block sb (qe h1)).trans h1;refine ⟨fun b hb'=>⟨by simpa using Nat.lt_of_lt_of_le (h.here b hb').1 hb.size,(h.here b hb').2⟩,h.good,a,c,?_,?_,h3⟩
 · simp[World.setCell,Array.getElem?_modify,hbx]
 · exact h2.carry fun b hb'=>⟨hb',by rw[qb (h.here b hb').2];exact hb.block b (h.here b hb').1⟩
theorem j0 {S:Nat→Prop}{sb n m R:Nat}{ns ns':List Nd}{w W1 w2:World}{rep:Rep}{e:Ending}{v0 v1 v2:Value}(h:Sto S w sb ns n)(hF1:CFr sb w W1)(hR:w.heap.size≤R)(hRl:R<W1.heap.size)(hP:jy S sb W1 rep ns' m e w2):jy S sb w rep ns' m e (JE w2 R v0 v1 v2):=by
 obtain ⟨h1,⟨S',hS',hSt⟩,hF⟩:=hP;obtain ⟨a,c,hbx,_,_⟩:=h.box;have hsl:=qe hbx;have hs1:=hF1.below.size;have hsz2:(JE w2 R v0 v1 v2).heap.size=w2.heap.size:=by unfold JE;simp
 refine ⟨h1,⟨S',fun b hb'=>?_,hSt.keep (by rw[hsz2];exact nR9 _) fun b hb'=>jT ?_⟩,?_⟩
 · rcases hS' b hb' with h2 | h2
   · exact Or.inl h2
   · exact Or.inr (Nat.le_trans hs1 h2)
 · rcases hb' with hb' | rfl
   · rcases hS' b hb' with h2 | h2
     · have:=(h.here b h2).1;omega
     · omega
   · omega
 · refine ⟨zF (B := 0) (hF1.below.trans hF.below) (nZ9 _), fun x hx hxs => ?_⟩
   rw[jT (by omega),hF.frame x (Nat.lt_of_lt_of_le hx hs1) hxs]
   exact hF1.frame x hx hxs
set_option linter.unusedSimpArgs false in
set_option maxHeartbeats 4000000 in
theorem Qi (S T:Nat→Prop)(sb n:Nat)(ns:List Nd)(vl:Value)(a:Ac)(w0 w:World)(h:Sto S w sb ns n)(hL:Strs T w vl a.lines)(hT:∀ b,T b→b≠sb)(hE:yz w0)(hB0:Below w0.heap.size w0 w)(hsb:w0.heap.size≤sb)(hz:∀ s∈a.lines,s.size≤maxLen) :
 Calls Tryz.prog 11 #[.pointer (some ⟨sb,0,none⟩),.agg #[.int .i64 a.kind,vl]] w fun e w'=>jy S sb w (zG a ns n).1 (zG a ns n).2.1 (zG a ns n).2.2 e w':=by
 obtain ⟨la,lc,rfl,hll,hlc⟩:=hL.shape;have HST:Hid _:=h;have hb0:Below w.heap.size w ((w.alloc (.cells #[.int .i64 a.kind,.slice la a.lines.length lc] 45)).alloc (.cells #[.int .i64 0,.int .i64 0,.string ⟨#[]⟩] 41)):=(Below.alloc1 w _).alloc (by simp) _
 have HA0:Hid (((w.alloc (.cells #[.int .i64 a.kind,.slice la a.lines.length lc] 45)).alloc (.cells #[.int .i64 0,.int .i64 0,.string ⟨#[]⟩] 41)).heap[w.heap.size]?=some (.cells #[.int .i64 a.kind,.slice la a.lines.length lc] 45 (0,0))):=by
  show _=_
  rw[heap_alloc_old _ _ (by simp)];exact heap_alloc_new _ _
 have HR0:Hid (((w.alloc (.cells #[.int .i64 a.kind,.slice la a.lines.length lc] 45)).alloc (.cells #[.int .i64 0,.int .i64 0,.string ⟨#[]⟩] 41)).heap[w.heap.size+1]?=some (.cells #[.int .i64 0,.int .i64 0,.string ⟨#[]⟩] 41 (0,0))):=by
  have:=heap_alloc_new (w.alloc (.cells #[.int .i64 a.kind,.slice la a.lines.length lc] 45)) (.cells #[.int .i64 0,.int .i64 0,.string ⟨#[]⟩] 41);rw[World.size_alloc]at this
  exact this
 obtain ⟨da,dc,hbx,_,_⟩:=h.box;have hsl:=qe hbx;have HBX:Hid (((w.alloc (.cells #[.int .i64 a.kind,.slice la a.lines.length lc] 45)).alloc (.cells #[.int .i64 0,.int .i64 0,.string ⟨#[]⟩] 41)).heap[sb]?=_):=(hb0.block sb hsl).trans hbx;have x1:((w.alloc (.cells #[.int .i64 a.kind,.slice la a.lines.length lc] 45)).alloc (.cells #[.int .i64 0,.int .i64 0,.string ⟨#[]⟩] 41)).cell? ⟨sb,1,none⟩=some (.int .i64 (n:Int)):=by rw[cH9 HBX.out];rfl
 have xf1:((w.alloc (.cells #[.int .i64 a.kind,.slice la a.lines.length lc] 45)).alloc (.cells #[.int .i64 0,.int .i64 0,.string ⟨#[]⟩] 41)).frozen? ⟨sb,1,none⟩=false:=fH9 HBX.out _
 by_cases hn:100≤n
 · have hni : (100 : Int) ≤ (n : Int) := by omega
   have HS:Hid (zG a ns n=(q9 7,ns,n)):=by show _=_;unfold zG;rw[if_pos hn]
   rw[HS.out];clear h hL hE hbx
   go_enter Tryz.func11,Tryz.ntmps11
   go_wp2_with fail
   generalize ((w.alloc (.cells #[.int .i64 a.kind,.slice la a.lines.length lc] 45)).alloc (.cells #[.int .i64 0,.int .i64 0,.string ⟨#[]⟩] 41))=W0 at *
   refine Calls.mono (zQ 7 W0) ?_;rintro e wr1 ⟨rfl,hbr1⟩;have HRr:Hid _:=(hbr1.block _ (qe HR0.out)).trans HR0.out;have hBr:=hb0.trans (hbr1.mono hb0.size);have r0:wr1.cell? ⟨w.heap.size+1,0,none⟩=some (.int .i64 0):=by rw[cH9 HRr.out];rfl
   have r1:wr1.cell? ⟨w.heap.size+1,1,none⟩=some (.int .i64 0):=by rw[cH9 HRr.out];rfl
   have r2:wr1.cell? ⟨w.heap.size+1,2,none⟩=some (.string ⟨#[]⟩):=by rw[cH9 HRr.out];rfl
   have f0:wr1.frozen? ⟨w.heap.size+1,0,none⟩=false:=fH9 HRr.out _;have f1:wr1.frozen? ⟨w.heap.size+1,1,none⟩=false:=fH9 HRr.out _;have f2:wr1.frozen? ⟨w.heap.size+1,2,none⟩=false:=fH9 HRr.out _;clear hbr1 HRr x1 xf1;go_wp2_with fail;refine bodyPost_ret (v:=.agg #[.int .i64 7,.int .i64 0,.string ⟨#[]⟩]) (by simp[results,Tryz.results11,go_sem,qd,World.cell?_setCell_other,r0,r1,r2]) rfl ?_
   exact zu (q9 7) HST.out (zF hBr (by omega))
 · have hni : ¬ (100 : Int) ≤ (n : Int) := by omega
   have HS:Hid (zG a ns n=((yE a ns).1,(yE a ns).2,n+1)):=by show _=_;unfold zG;rw[if_neg hn]
   rw[HS.out];have hcast:((n+1:Nat):Int)=(n:Int)+1:=by omega
   have hbA:Below (w.setCell ⟨sb,1,none⟩ (.int .i64 ((n:Int)+1))).heap.size (w.setCell ⟨sb,1,none⟩ (.int .i64 ((n:Int)+1))) (((w.setCell ⟨sb,1,none⟩ (.int .i64 ((n:Int)+1))).alloc (.cells #[.int .i64 a.kind,.slice la a.lines.length lc] 45)).alloc (.cells #[.int .i64 0,.int .i64 0,.string ⟨#[]⟩] 41)):=(Below.alloc1 _ _).alloc (by simp) _
   have hszs:(w.setCell ⟨sb,1,none⟩ (.int .i64 ((n:Int)+1))).heap.size=w.heap.size:=by simp
   have HF1:Hid (CFr sb w (((w.setCell ⟨sb,1,none⟩ (.int .i64 ((n:Int)+1))).alloc (.cells #[.int .i64 a.kind,.slice la a.lines.length lc] 45)).alloc (.cells #[.int .i64 0,.int .i64 0,.string ⟨#[]⟩] 41))):=(CFr.put sb w 1 _).trans (CFr.later hbA);have hE1:Below w0.heap.size w0 (((w.setCell ⟨sb,1,none⟩ (.int .i64 ((n:Int)+1))).alloc (.cells #[.int .i64 a.kind,.slice la a.lines.length lc] 45)).alloc (.cells #[.int .i64 0,.int .i64 0,.string ⟨#[]⟩] 41)):=(hB0.setCell (p:=⟨sb,1,none⟩) hsb _).trans (hbA.mono (by rw[hszs];exact hB0.size))
   have HSE:Hid _:=hE.later hE1;have HL1:Hid (Strs T (((w.setCell ⟨sb,1,none⟩ (.int .i64 ((n:Int)+1))).alloc (.cells #[.int .i64 a.kind,.slice la a.lines.length lc] 45)).alloc (.cells #[.int .i64 0,.int .i64 0,.string ⟨#[]⟩] 41)) (.slice la a.lines.length lc) a.lines):=Strs.later (hL.carry fun b hb=>⟨hb,qb (hT b hb)⟩) hbA
   have HS1:Hid (Sto S (((w.setCell ⟨sb,1,none⟩ (.int .i64 ((n:Int)+1))).alloc (.cells #[.int .i64 a.kind,.slice la a.lines.length lc] 45)).alloc (.cells #[.int .i64 0,.int .i64 0,.string ⟨#[]⟩] 41)) sb ns (n+1)):=by
    have:=h.acts (Below.refl _ w) (n+1);rw[hcast]at this
    exact this.later hbA
   have HA1:Hid ((((w.setCell ⟨sb,1,none⟩ (.int .i64 ((n:Int)+1))).alloc (.cells #[.int .i64 a.kind,.slice la a.lines.length lc] 45)).alloc (.cells #[.int .i64 0,.int .i64 0,.string ⟨#[]⟩] 41)).heap[w.heap.size]?=some (.cells #[.int .i64 a.kind,.slice la a.lines.length lc] 45 (0,0))):=by
    have h1:=heap_alloc_new (w.setCell ⟨sb,1,none⟩ (.int .i64 ((n:Int)+1))) (.cells #[.int .i64 a.kind,.slice la a.lines.length lc] 45);rw[hszs]at h1
    show _=_
    rw[heap_alloc_old _ _ (by simp)]
    exact h1
   have HR1:Hid ((((w.setCell ⟨sb,1,none⟩ (.int .i64 ((n:Int)+1))).alloc (.cells #[.int .i64 a.kind,.slice la a.lines.length lc] 45)).alloc (.cells #[.int .i64 0,.int .i64 0,.string ⟨#[]⟩] 41)).heap[w.heap.size+1]?=some (.cells #[.int .i64 0,.int .i64 0,.string ⟨#[]⟩] 41 (0,0))):=by
    have h1:=heap_alloc_new ((w.setCell ⟨sb,1,none⟩ (.int .i64 ((n:Int)+1))).alloc (.cells #[.int .i64 a.kind,.slice la a.lines.length lc] 45)) (.cells #[.int .i64 0,.int .i64 0,.string ⟨#[]⟩] 41);rw[World.size_alloc,hszs]at h1
    exact h1
   have hwr:IntKind.i64.wrap ((n:Int)+1)=(n:Int)+1:=IntWalk.i64_in _ (by omega)
   have y1:w.cell? ⟨sb,1,none⟩=some (.int .i64 (n:Int)):=by rw[cH9 hbx];rfl
   have yf1:w.frozen? ⟨sb,1,none⟩=false:=fH9 hbx _;have q0:(((w.setCell ⟨sb,1,none⟩ (.int .i64 ((n:Int)+1))).alloc (.cells #[.int .i64 a.kind,.slice la a.lines.length lc] 45)).alloc (.cells #[.int .i64 0,.int .i64 0,.string ⟨#[]⟩] 41)).cell? ⟨w.heap.size,0,none⟩=some (.int .i64 a.kind):=by rw[cH9 HA1.out];rfl
   have q1:(((w.setCell ⟨sb,1,none⟩ (.int .i64 ((n:Int)+1))).alloc (.cells #[.int .i64 a.kind,.slice la a.lines.length lc] 45)).alloc (.cells #[.int .i64 0,.int .i64 0,.string ⟨#[]⟩] 41)).cell? ⟨w.heap.size,1,none⟩=some (.slice la a.lines.length lc):=by rw[cH9 HA1.out];rfl
   clear hbA hszs hcast HA0 HR0 HBX x1 xf1 hb0;clear h hL hE hbx hT hE1
   by_cases hk1:a.kind=1
   · have HK : Hid (yE a ns = xX a.lines ns) := by show _ = _;unfold yE;rw[if_pos hk1]
     have HCL:Hid _:=qda S T sb (n+1) ns _ a.lines _ HS1.out HL1.out HSE.out hz;rw[HK.out];obtain ⟨rep,D,hrd⟩:∃ rep D,xX a.lines ns=(rep,D):=⟨_,_,rfl⟩;rw[hrd]at HCL ⊢
     clear hrd HK;rw[hk1]at q0 HF1 HL1 HS1 HA1 HR1 HSE HCL q1
     have HK1:Hid _:=hk1;rw[HK1.out];simp only at HCL
     go_enter Tryz.func11,Tryz.ntmps11
     go_wp2_with fail
     generalize (((w.setCell ⟨sb,1,none⟩ (.int .i64 ((n:Int)+1))).alloc (.cells #[.int .i64 1,.slice la a.lines.length lc] 45)).alloc (.cells #[.int .i64 0,.int .i64 0,.string ⟨#[]⟩] 41))=W1 at *
     refine Calls.mono HCL.out ?_;rintro e w2 hP;obtain ⟨rfl,hSt,hF⟩:=hP;have HPP:Hid (jy S sb W1 rep D (n+1) _ w2):=⟨rfl,hSt,hF⟩;have HRr:Hid (w2.heap[w.heap.size+1]?=_):=(hF.frame _ (qe HR1.out) (by omega)).trans HR1.out
     have r0:w2.cell? ⟨w.heap.size+1,0,none⟩=some (.int .i64 0):=by rw[cH9 HRr.out];rfl
     have r1:w2.cell? ⟨w.heap.size+1,1,none⟩=some (.int .i64 0):=by rw[cH9 HRr.out];rfl
     have r2:w2.cell? ⟨w.heap.size+1,2,none⟩=some (.string ⟨#[]⟩):=by rw[cH9 HRr.out];rfl
     have f0:w2.frozen? ⟨w.heap.size+1,0,none⟩=false:=fH9 HRr.out _;have f1:w2.frozen? ⟨w.heap.size+1,1,none⟩=false:=fH9 HRr.out _;have f2:w2.frozen? ⟨w.heap.size+1,2,none⟩=false:=fH9 HRr.out _;clear hSt hF HRr;go_wp2_with fail;refine bodyPost_ret (v:=.agg #[.int .i64 rep.1,.int .i64 rep.2.1,.string rep.2.2]) (by simp[results,Tryz.results11,go_sem,qd,World.cell?_setCell_other,r0,r1,r2]) rfl ?_
     exact j0 HST.out HF1.out (by omega) (qe HR1.out) HPP.out
   · have hk1b : (a.kind == 1) = false := by simpa using hk1
     by_cases hk2:a.kind=2
     · have HK : Hid (yE a ns = jI a.lines ns) := by show _ = _;unfold yE;rw[if_neg hk1, if_pos hk2]
       have HCL:Hid _:=qbg S T sb (n+1) ns _ a.lines _ HS1.out HL1.out HSE.out hz;rw[HK.out];obtain ⟨rep,D,hrd⟩:∃ rep D,jI a.lines ns=(rep,D):=⟨_,_,rfl⟩;rw[hrd]at HCL ⊢
       clear hrd HK hk1 hk1b;rw[hk2]at q0 HF1 HL1 HS1 HA1 HR1 HSE HCL q1
       have HK1:Hid _:=hk2;rw[HK1.out];simp only at HCL
       go_enter Tryz.func11,Tryz.ntmps11
       go_wp2_with fail
       generalize (((w.setCell ⟨sb,1,none⟩ (.int .i64 ((n:Int)+1))).alloc (.cells #[.int .i64 2,.slice la a.lines.length lc] 45)).alloc (.cells #[.int .i64 0,.int .i64 0,.string ⟨#[]⟩] 41))=W1 at *
       refine Calls.mono HCL.out ?_;rintro e w2 hP;obtain ⟨rfl,hSt,hF⟩:=hP;have HPP:Hid (jy S sb W1 rep D (n+1) _ w2):=⟨rfl,hSt,hF⟩;have HRr:Hid (w2.heap[w.heap.size+1]?=_):=(hF.frame _ (qe HR1.out) (by omega)).trans HR1.out
       have r0:w2.cell? ⟨w.heap.size+1,0,none⟩=some (.int .i64 0):=by rw[cH9 HRr.out];rfl
       have r1:w2.cell? ⟨w.heap.size+1,1,none⟩=some (.int .i64 0):=by rw[cH9 HRr.out];rfl
       have r2:w2.cell? ⟨w.heap.size+1,2,none⟩=some (.string ⟨#[]⟩):=by rw[cH9 HRr.out];rfl
       have f0:w2.frozen? ⟨w.heap.size+1,0,none⟩=false:=fH9 HRr.out _;have f1:w2.frozen? ⟨w.heap.size+1,1,none⟩=false:=fH9 HRr.out _;have f2:w2.frozen? ⟨w.heap.size+1,2,none⟩=false:=fH9 HRr.out _;clear hSt hF HRr;go_wp2_with fail;refine bodyPost_ret (v:=.agg #[.int .i64 rep.1,.int .i64 rep.2.1,.string rep.2.2]) (by simp[results,Tryz.results11,go_sem,qd,World.cell?_setCell_other,r0,r1,r2]) rfl ?_
       exact j0 HST.out HF1.out (by omega) (qe HR1.out) HPP.out
     · have hk2b : (a.kind == 2) = false := by simpa using hk2
       by_cases hk3:a.kind=3
       · have HK : Hid (yE a ns = (Za ns, ns)) := by show _ = _;unfold yE;rw[if_neg hk1, if_neg hk2, if_pos hk3]
         have HCL:Hid _:=qdy S sb (n+1) ns _ HS1.out HSE.out;rw[HK.out];obtain ⟨rep,hrd⟩:∃ rep,Za ns=rep:=⟨_,rfl⟩;obtain ⟨D,hDD⟩:∃ D,ns=D:=⟨_,rfl⟩;rw[hrd]at HCL ⊢
         clear hrd HK hk1 hk1b hk2 hk2b;rw[hk3]at q0 HF1 HL1 HS1 HA1 HR1 HSE HCL q1
         have HK1:Hid _:=hk3;rw[HK1.out];subst hDD
         go_enter Tryz.func11,Tryz.ntmps11
         go_wp2_with fail
         generalize (((w.setCell ⟨sb,1,none⟩ (.int .i64 ((n:Int)+1))).alloc (.cells #[.int .i64 3,.slice la a.lines.length lc] 45)).alloc (.cells #[.int .i64 0,.int .i64 0,.string ⟨#[]⟩] 41))=W1 at *
         refine Calls.mono HCL.out ?_;rintro e w2 hP;obtain ⟨rfl,hSt,hF⟩:=hP;have HPP:Hid (jy S sb W1 rep ns (n+1) _ w2):=⟨rfl,hSt,hF⟩;have HRr:Hid (w2.heap[w.heap.size+1]?=_):=(hF.frame _ (qe HR1.out) (by omega)).trans HR1.out
         have r0:w2.cell? ⟨w.heap.size+1,0,none⟩=some (.int .i64 0):=by rw[cH9 HRr.out];rfl
         have r1:w2.cell? ⟨w.heap.size+1,1,none⟩=some (.int .i64 0):=by rw[cH9 HRr.out];rfl
         have r2:w2.cell? ⟨w.heap.size+1,2,none⟩=some (.string ⟨#[]⟩):=by rw[cH9 HRr.out];rfl
         have f0:w2.frozen? ⟨w.heap.size+1,0,none⟩=false:=fH9 HRr.out _;have f1:w2.frozen? ⟨w.heap.size+1,1,none⟩=false:=fH9 HRr.out _;have f2:w2.frozen? ⟨w.heap.size+1,2,none⟩=false:=fH9 HRr.out _;clear hSt hF HRr;go_wp2_with fail;refine bodyPost_ret (v:=.agg #[.int .i64 rep.1,.int .i64 rep.2.1,.string rep.2.2]) (by simp[results,Tryz.results11,go_sem,qd,World.cell?_setCell_other,r0,r1,r2]) rfl ?_
         exact j0 HST.out HF1.out (by omega) (qe HR1.out) HPP.out
       · have hk3b : (a.kind == 3) = false := by simpa using hk3
         have HK:Hid (yE a ns=(q9 4,ns)):=by show _=_;unfold yE;rw[if_neg hk1,if_neg hk2,if_neg hk3]
         rw[HK.out];clear HK hk1 hk2 hk3
         go_enter Tryz.func11,Tryz.ntmps11
         go_wp2_with fail
         generalize (((w.setCell ⟨sb,1,none⟩ (.int .i64 ((n:Int)+1))).alloc (.cells #[.int .i64 a.kind,.slice la a.lines.length lc] 45)).alloc (.cells #[.int .i64 0,.int .i64 0,.string ⟨#[]⟩] 41))=W1 at *
         refine Calls.mono (zQ 4 _) ?_;rintro e w2 ⟨rfl,hbr⟩;have hP:jy S sb W1 (q9 4) ns (n+1) (.returned (.agg #[.int .i64 4,.int .i64 0,.string ⟨#[]⟩])) w2:=zu (q9 4) HS1.out hbr;have HPP:Hid _:=hP;have HRr:Hid (w2.heap[w.heap.size+1]?=_):=(hbr.block _ (qe HR1.out)).trans HR1.out;have r0:w2.cell? ⟨w.heap.size+1,0,none⟩=some (.int .i64 0):=by rw[cH9 HRr.out];rfl
         have r1:w2.cell? ⟨w.heap.size+1,1,none⟩=some (.int .i64 0):=by rw[cH9 HRr.out];rfl
         have r2:w2.cell? ⟨w.heap.size+1,2,none⟩=some (.string ⟨#[]⟩):=by rw[cH9 HRr.out];rfl
         have f0:w2.frozen? ⟨w.heap.size+1,0,none⟩=false:=fH9 HRr.out _;have f1:w2.frozen? ⟨w.heap.size+1,1,none⟩=false:=fH9 HRr.out _;have f2:w2.frozen? ⟨w.heap.size+1,2,none⟩=false:=fH9 HRr.out _;clear hbr HRr hP;go_wp2_with fail;refine bodyPost_ret (v:=.agg #[.int .i64 4,.int .i64 0,.string ⟨#[]⟩]) (by simp[results,Tryz.results11,go_sem,qd,World.cell?_setCell_other,r0,r1,r2]) rfl ?_
         exact j0 HST.out HF1.out (by omega) (qe HR1.out) HPP.out
theorem new_make:yi 0 ⟨false,⟨#[100,111,99]⟩,[],[]⟩=newD∧x5 ⟨false,⟨#[100,111,99]⟩,[],[]⟩=0∧qq newD=true:=by
 refine ⟨?_,?_,?_⟩<;>kernel_rfl
set_option maxHeartbeats 1000000 in
theorem qaW (w:World) :
 Calls Tryz.prog 16 #[] w fun e w'=>∃ (sb:Nat) (S:Nat→Prop),e=.returned (.pointer (some ⟨sb,0,none⟩))∧w.heap.size≤sb∧sb<w'.heap.size∧(∀ b,S b→w.heap.size≤b)∧Sto S w' sb newD 0∧Below w.heap.size w w':=by
 obtain ⟨e1,e2,e3⟩:=new_make
 have HM:Hid _:=YZ (fun _=>False) 0 (.slice none 0 0) (.slice none 0 0) ⟨false,⟨#[100,111,99]⟩,[],[]⟩ w qj.nil ⟨rfl,none,0,rfl,nZ9 _⟩ (by
  intro t ht;rw[List.mem_singleton.1 ht];exact ⟨⟨by show 3≤maxLen;unfold maxLen;omega,by intro y hy;cases hy⟩,trivial⟩) (fun _ h=>h.elim)
 rw[e1,e2]at HM
 have HG:Hid _:=e3;clear e1 e2 e3
 go_enter Tryz.func16,Tryz.ntmps16
 go_wp2_with fail;refine Calls.mono HM.out ?_;rintro e w1 ⟨v1,rfl,hN1,hb1⟩;obtain ⟨a1,c1,rfl,_,hc1⟩:=hN1.shape;have hb2:=Below.alloc1 w1 (.cells #[.slice a1 newD.length c1] 29);have hb12:=hb1.trans (hb2.mono hb1.size);have HN2:Hid _:=qp.later hN1.bounded hb2;clear hN1 HM;go_wp2_with fail;go_ret;have hb3:=Below.alloc1 (w1.alloc (.cells #[.slice a1 newD.length c1] 29)) (.cells #[.slice a1 newD.length c1,.int .i64 0] 59);have hs1:=hb1.size;refine ⟨w1.heap.size+1,fun b=>w.heap.size≤b∧b<w1.heap.size,rfl,by omega,by simp,fun b hb=>hb.1,⟨fun b hb=>⟨by simp;omega,by omega⟩,HG.out,a1,c1,?_,?_,hc1⟩,hb12.trans (hb3.mono hb12.size)⟩
 · have := heap_alloc_new (w1.alloc (.cells #[.slice a1 newD.length c1] 29)) (.cells #[.slice a1 newD.length c1, .int .i64 0] 59);rw[World.size_alloc]at this
   exact this
 · exact qp.later HN2.out hb3
end
end Go.Proofs.YtcedemhafgledaaGreatDoor
namespace Go.Proofs.YtcedemhafgledaaGreatDoor
open Go.RowKit
set_option maxRecDepth 100000
def aliveL1:ByteArray:=⟨#[108,97,115,116,32,47,100,111,99,32,60,97,62,120,60,47,97,62]⟩
def aliveL2:ByteArray:=⟨#[115,101,116,32,47,100,111,99,32,107,61,118]⟩
def aliveT:ByteArray:=⟨#[60,100,111,99,32,107,61,34,118,34,62,60,97,62,120,60,47,97,62,60,47,100,111,99,62]⟩
def aliveD:List Nd:=[⟨false,⟨#[100,111,99]⟩,[(⟨#[107]⟩,⟨#[118]⟩)],-1,[1]⟩,⟨false,⟨#[97]⟩,[],0,[2]⟩,⟨true,⟨#[120]⟩,[],1,[]⟩]
theorem alive_one:zG ⟨2,[aliveL1,aliveL2]⟩ newD 0=((0,2,⟨#[]⟩),aliveD,1):=by kernel_rfl
theorem alive_two:zG ⟨3,[]⟩ aliveD 1=((0,3,aliveT),aliveD,2):=by kernel_rfl
end Go.Proofs.YtcedemhafgledaaGreatDoor
namespace Go.Proofs.YtcedemhafgledaaGreatDoor
open Go.ChangeShapes Go.WideShapes Go.ChangeAt Go.RowKit
set_option maxRecDepth 100000
section
attribute [local go_sem] qd
theorem Kt (w:World):Strs (fun b=>b=w.heap.size) (w.alloc (.cells #[.string ⟨#[108,97,115,116,32,47,100,111,99,32,60,97,62,120,60,47,97,62]⟩,.string ⟨#[115,101,116,32,47,100,111,99,32,107,61,118]⟩] 9)) (.slice (some ⟨w.heap.size,0,none⟩) 2 2) [aliveL1,aliveL2]:=by
 have hh:=heap_alloc_new w (.cells #[.string ⟨#[108,97,115,116,32,47,100,111,99,32,60,97,62,120,60,47,97,62]⟩,.string ⟨#[115,101,116,32,47,100,111,99,32,107,61,118]⟩] 9);refine ⟨_,2,rfl,nR9 _,by unfold maxLen;omega,fun _=>⟨w.heap.size,0,rfl,rfl,fun i x hx=>?_⟩⟩
 match i,hx with
 | 0,hx=>simp at hx;subst hx;rw[cH9 hh];rfl
 | 1,hx=>simp at hx;subst hx;rw[cH9 hh];rfl
 | i+2,hx=>simp at hx
theorem z7 {sb:Nat}{w0 w w':World}(h:Below w0.heap.size w0 w)(hF:CFr sb w w')(hs:w0.heap.size≤sb):Below w0.heap.size w0 w' :=
 ⟨hF.below.os.trans h.os,hF.below.tape.trans h.tape,hF.below.output.trans h.output,Nat.le_trans h.size hF.below.size,fun k hk=>(hF.frame k (Nat.lt_of_lt_of_le hk h.size) (by omega)).trans (h.block k hk)⟩
set_option linter.unusedSimpArgs false in
set_option maxHeartbeats 2000000 in
theorem qbd (w:World)(hE:yz w):Calls Tryz.prog 15 #[] w fun e w'=>e=.returned (.bool true)∧Below w.heap.size w w':=by
 have HE:Hid _:=hE;clear hE
 go_enter Tryz.func15,Tryz.ntmps15
 go_wp2_with fail;refine Calls.mono (qaW w) ?_;rintro e w1 ⟨sb,S,rfl,hsb,hsl,hSw,hSt,hb1⟩;have hpn:(Value.pointer (some ⟨sb,0,none⟩)=Value.pointer none)=False:=by simp
 have HD1:Hid _:=Qi S (fun b=>b=w1.heap.size) sb 0 newD _ ⟨2,[aliveL1,aliveL2]⟩ w (w1.alloc (.cells #[.string ⟨#[108,97,115,116,32,47,100,111,99,32,60,97,62,120,60,47,97,62]⟩,.string ⟨#[115,101,116,32,47,100,111,99,32,107,61,118]⟩] 9)) (hSt.later (Below.alloc1 w1 _)) (Kt w1) (fun b hb=>by omega) HE.out (hb1.alloc hb1.size _) hsb (by
  intro s hs;simp only[List.mem_cons,List.not_mem_nil,or_false]at hs
  rcases hs with rfl|rfl
  · show 18≤maxLen;unfold maxLen;omega
  · show 12≤maxLen;unfold maxLen;omega)
 rw[alive_one]at HD1
 simp only at HD1
 have hbA:Below w.heap.size w (w1.alloc (.cells #[.string ⟨#[108,97,115,116,32,47,100,111,99,32,60,97,62,120,60,47,97,62]⟩,.string ⟨#[115,101,116,32,47,100,111,99,32,107,61,118]⟩] 9)):=hb1.alloc hb1.size _;have hs12:w1.heap.size≤(w1.alloc (.cells #[.string ⟨#[108,97,115,116,32,47,100,111,99,32,60,97,62,120,60,47,97,62]⟩,.string ⟨#[115,101,116,32,47,100,111,99,32,107,61,118]⟩] 9)).heap.size:=by simp
 clear hSt hb1;go_wp2_with fail
 generalize w1.alloc (.cells #[.string ⟨#[108,97,115,116,32,47,100,111,99,32,60,97,62,120,60,47,97,62]⟩,.string ⟨#[115,101,116,32,47,100,111,99,32,107,61,118]⟩] 9)=W2 at *
 refine Calls.mono HD1.out ?_;rintro e w3 ⟨rfl,⟨S3,hS3,hSt3⟩,hF3⟩;have hB3:=z7 hbA hF3 hsb;have hs13:w1.heap.size≤w3.heap.size:=Nat.le_trans hs12 hF3.below.size;have hb4:=Below.alloc1 w3 (.cells #[.int .i64 0,.int .i64 2,.string ⟨#[]⟩] 41);have hB4:=hB3.trans (hb4.mono hB3.size);have HR4:Hid _:=heap_alloc_new w3 (.cells #[.int .i64 0,.int .i64 2,.string ⟨#[]⟩] 41);have HD2:Hid _:=Qi S3 (fun _=>False) sb 1 aliveD (.slice none 0 0) ⟨3,[]⟩ w (w3.alloc (.cells #[.int .i64 0,.int .i64 2,.string ⟨#[]⟩] 41)) (hSt3.later hb4) Strs.nil (fun _ h=>h.elim) HE.out hB4 hsb (by intro s hs;cases hs)
 rw[alive_two]at HD2
 simp only[aliveT]at HD2
 clear HD1 hSt3 hF3 hb4 hbA;go_wp2_with fail
 generalize w3.alloc (.cells #[.int .i64 0,.int .i64 2,.string ⟨#[]⟩] 41)=W4 at *
 refine Calls.mono HD2.out ?_;rintro e w5 ⟨rfl,⟨S5,hS5,hSt5⟩,hF5⟩;have hB5:=z7 hB4 hF5 hsb;have hb6:=Below.alloc1 w5 (.cells #[.int .i64 0,.int .i64 3,.string ⟨#[60,100,111,99,32,107,61,34,118,34,62,60,97,62,120,60,47,97,62,60,47,100,111,99,62]⟩] 41);have hB6:=hB5.trans (hb6.mono hB5.size);have hne:w3.heap.size≠sb:=by omega
 have HR6:Hid _:=(hb6.block _ (Nat.lt_of_lt_of_le (qe HR4.out) hF5.below.size)).trans ((hF5.frame _ (qe HR4.out) hne).trans HR4.out);have HQ6:Hid _:=heap_alloc_new w5 (.cells #[.int .i64 0,.int .i64 3,.string ⟨#[60,100,111,99,32,107,61,34,118,34,62,60,97,62,120,60,47,97,62,60,47,100,111,99,62]⟩] 41);have r0:(w5.alloc (.cells #[.int .i64 0,.int .i64 3,.string ⟨#[60,100,111,99,32,107,61,34,118,34,62,60,97,62,120,60,47,97,62,60,47,100,111,99,62]⟩] 41)).cell? ⟨w3.heap.size,0,none⟩=some (.int .i64 0):=by rw[cH9 HR6.out];rfl
 have r1:(w5.alloc (.cells #[.int .i64 0,.int .i64 3,.string ⟨#[60,100,111,99,32,107,61,34,118,34,62,60,97,62,120,60,47,97,62,60,47,100,111,99,62]⟩] 41)).cell? ⟨w3.heap.size,1,none⟩=some (.int .i64 2):=by rw[cH9 HR6.out];rfl
 have HDC:Hid _:=jF S5 sb 2 aliveD _ (hSt5.later hb6);clear HD2 hSt5 hF5 hb6 HR6;go_wp2_with fail;refine Calls.mono HDC.out ?_;rintro e w7 ⟨v7,rfl,hN7,hb7⟩;obtain ⟨a7,c7,rfl,_,_⟩:=hN7.shape;have hB7:=hB6.trans (hb7.mono hB6.size)
 have hfd:(Instr.field 29 (.agg #[.slice a7 aliveD.length c7]) 0).run Tryz.prog w7=.ok (.slice a7 aliveD.length c7) w7:=by
  simp[Instr.field,part,asAgg,go_sem]
 have hl3:aliveD.length=3:=rfl;rw[hl3]at hfd ⊢
 clear hN7 hb7 HDC;go_wp2_with fail;go_ret;exact ⟨rfl,hB7⟩
end
section
attribute [local go_sem] qd
def QH (S:Nat→Prop)(w:World)(v:Value)(l:List Ac):Prop :=
  ∃ a cap, v = .slice a l.length cap ∧ l.length ≤ cap ∧ cap ≤ maxLen ∧
    (l≠[]→∃ b o,a=some ⟨b,o,none⟩∧S b∧∀ (i:Nat) (x:Ac),l[i]?=some x→∃ vs,w.cell? ⟨b,o+i*2,none⟩=some (.int .i64 x.kind)∧w.cell? ⟨b,o+i*2+1,none⟩=some vs∧Strs S w vs x.lines)
theorem QH.carry {S S':Nat→Prop}{w w':World}{v:Value}{l:List Ac}(h:QH S w v l)(hw:∀ b,S b→S' b∧w'.heap[b]?=w.heap[b]?):QH S' w' v l:=by
 obtain ⟨a,cap,h1,h2,h3,h4⟩:=h;refine ⟨a,cap,h1,h2,h3,fun hne=>?_⟩
 obtain ⟨b,o,ha,hs,hc⟩:=h4 hne;refine ⟨b,o,ha,(hw b hs).1,fun i x hx=>?_⟩
 obtain ⟨vs,c0,c1,hS⟩:=hc i x hx;refine ⟨vs,?_,?_,hS.carry hw⟩
 · rw[World.cell?_of_block (a:=⟨b,o+i*2,none⟩) (hw b hs).2];exact c0
 · rw[World.cell?_of_block (a:=⟨b,o+i*2+1,none⟩) (hw b hs).2];exact c1
theorem QH.shape {S:Nat→Prop}{w:World}{v:Value}{l:List Ac}(h:QH S w v l):∃ a c,v=.slice a l.length c∧l.length≤c∧c≤maxLen:=by
 obtain ⟨a,cap,h1,h2,h3,_⟩:=h;exact ⟨a,cap,h1,h2,h3⟩
theorem QH.at {S:Nat→Prop}{w:World}{v:Value}{l:List Ac}(h:QH S w v l){i:Nat}{x:Ac}(hx:l[i]?=some x):∃ b o cap vs,v=.slice (some ⟨b,o,none⟩) l.length cap∧S b∧b<w.heap.size∧w.cell? ⟨b,o+i*2,none⟩=some (.int .i64 x.kind)∧w.cell? ⟨b,o+i*2+1,none⟩=some vs∧Strs S w vs x.lines:=by
 obtain ⟨a,cap,h1,h2,h3,h4⟩:=h;obtain ⟨b,o,rfl,hs,hc⟩:=h4 (by intro e;subst e;simp at hx)
 obtain ⟨vs,c0,c1,hS⟩:=hc i x hx;exact ⟨b,o,cap,vs,h1,hs,World.block_lt_of_cell? w _ c0,c0,c1,hS⟩
def ZG (l:List Ac):Prop:=∀ x∈l,∀ s∈x.lines,s.size≤maxLen
def qQ (l:List Ac):List Nd × Nat:=l.foldl (fun p a=>((zG a p.1 p.2).2.1,(zG a p.1 p.2).2.2)) (newD,0)
theorem qdu {l:List Ac}{i:Nat}{a:Ac}(h:l[i]?=some a):qQ (l.take (i+1))=((zG a (qQ (l.take i)).1 (qQ (l.take i)).2).2.1,(zG a (qQ (l.take i)).1 (qQ (l.take i)).2).2.2):=by
 have hi:=qh h;have e:l[i]=a:=by simpa[hi] using h
 unfold qQ;rw[List.take_succ_eq_append_getElem hi,e,List.foldl_append];rfl
def qcn (fm:Nat)(w:World)(S0:Nat→Prop)(l:List Ac):Prop :=
  ∀ (S : Nat → Prop) (sb i : Nat) (a : Ac) (vd vs : Value) (W : World), l[i]? = some a → i < 50 → Below w.heap.size w W → w.heap.size ≤ sb → (∀ b, S b → w.heap.size ≤ b) → Sto S W sb (qQ (l.take (i + 1))).1 (qQ (l.take (i + 1))).2 → qp (fun b => w.heap.size ≤ b ∧ b ≠ sb) W vd (qQ (l.take i)).1 → qq (qQ (l.take i)).1 = true → Strs S0 W vs a.lines →
    Calls Tryz.prog fm #[.pointer (some ⟨sb,0,none⟩),.agg #[vd],.agg #[.int .i64 a.kind,vs],.agg #[.int .i64 (zG a (qQ (l.take i)).1 (qQ (l.take i)).2).1.1,.int .i64 (zG a (qQ (l.take i)).1 (qQ (l.take i)).2).1.2.1,.string (zG a (qQ (l.take i)).1 (qQ (l.take i)).2).1.2.2]] W fun e w'=>e=.returned (.bool true)∧Below W.heap.size W w'
def Kp (w:World)(l:List Ac)(e:Ending)(w':World):Prop :=
 ∃ (sb:Nat) (S:Nat→Prop),e=.returned (.tuple #[.pointer (some ⟨sb,0,none⟩),.bool true])∧w.heap.size≤sb∧(∀ b,S b→w.heap.size≤b)∧Sto S w' sb (qQ (l.take 50)).1 (qQ (l.take 50)).2∧Below w.heap.size w w'
set_option linter.unusedSimpArgs false in
set_option maxHeartbeats 2000000 in
theorem qdo (fm:Nat)(eg:∀ args w,(callFunc fm args).run Tryz.prog w=.ok (.enter fm args) w)(S0:Nat→Prop)(vl:Value)(l:List Ac)(w:World)(hL:QH S0 w vl l)(hS0:∀ b,S0 b→b<w.heap.size)(hz:ZG l)(hE:yz w)(hlook:qcn fm w S0 l) :
 Calls Tryz.prog 6 #[vl,.func (.func fm) #[] #[]] w fun e w'=>Kp w l e w':=by
 obtain ⟨la,lc,rfl,hll,hlc⟩:=hL.shape;have HL:Hid (QH S0 w (.slice la l.length lc) l):=hL;have HE:Hid _:=hE;have HLK:Hid _:=hlook;have HZ:Hid _:=hz;have HS0:Hid _:=hS0;unfold maxLen at hlc
 clear hL hE hlook hz hS0
 go_enter Tryz.func6,Tryz.ntmps6
 go_wp2_with fail;refine Calls.mono (qbd w HE.out) ?_;rintro e w1 ⟨rfl,hb1⟩;go_wp2_with fail;refine Calls.mono (qaW w1) ?_;rintro e w2 ⟨sb,S2,rfl,hsb2,hsl2,hSw2,hSt2,hb2⟩;have hsb:w.heap.size≤sb:=Nat.le_trans hb1.size hsb2;have HI0:Hid (∃ S:Nat→Prop,(∀ b,S b→w.heap.size≤b)∧Sto S w2 sb (qQ (l.take 0)).1 (qQ (l.take 0)).2∧Below w.heap.size w w2):=⟨S2,fun b hb=>Nat.le_trans hb1.size (hSw2 b hb),hSt2,hb1.trans (hb2.mono hb1.size)⟩
 clear hsb2 hsl2 hSw2 hSt2 hb2 hb1;go_wp2_with fail
 go_loopg [7] (min l.length 50) (fun g vi wr=>∃ i:Nat,i+g=min l.length 50∧vi=.int .i64 (i:Int)∧∃ S:Nat→Prop,(∀ b,S b→w.heap.size≤b)∧Sto S wr sb (qQ (l.take i)).1 (qQ (l.take i)).2∧Below w.heap.size w wr)
 case atStart => exact ⟨0,by omega,rfl,HI0.out⟩
 case round =>
  clear HI0;obtain ⟨i,hig,rfl,S,hSw,hSt,hB⟩:=hrel;have HSW:Hid _:=hSw;have HST:Hid _:=hSt;clear hSw hSt
  by_cases hil:i<l.length
  · have hili : (i : Int) < (l.length : Int) := by omega
    by_cases hi50:i<50
    · have hi5i : (i : Int) < 50 := by omega
      obtain ⟨a,ha⟩:∃ a,l[i]?=some a:=⟨l[i],by simp[hil]⟩
      have HAA:Hid _:=ha;have HLB:Hid (∀ W,Below w.heap.size w W→QH S0 W (.slice la l.length lc) l):=fun W hW=>HL.out.carry fun b hb=>⟨hb,hW.block b (HS0.out b hb)⟩
      obtain ⟨lb,lo,lc2,vs,hlv,hSb,hlbl,c0,c1,hstr⟩:=(HLB.out wr hB).at ha
      injection hlv with hla hll2 hlc2
      subst hla hlc2;obtain ⟨sa,sc,rfl,_,_⟩:=hstr.shape;have hlbw:lb<w.heap.size:=HS0.out lb hSb
      have HSB:Hid (∀ W,Below w.heap.size w W→Strs S0 W (.slice sa a.lines.length sc) a.lines∧W.cell? ⟨lb,lo+i*2,none⟩=some (.int .i64 a.kind)∧W.cell? ⟨lb,lo+i*2+1,none⟩=some (.slice sa a.lines.length sc)):=by
       intro W hW;have hc0:W.heap[lb]?=wr.heap[lb]?:=(hW.block lb hlbw).trans (hB.block lb hlbw).symm;refine ⟨hstr.carry fun b hb=>⟨hb,(hW.block b (HS0.out b hb)).trans (hB.block b (HS0.out b hb)).symm⟩,?_,?_⟩
       · rw[World.cell?_of_block (a:=⟨lb,lo+i*2,none⟩) hc0];exact c0
       · rw[World.cell?_of_block (a:=⟨lb,lo+i*2+1,none⟩) hc0];exact c1
      have HSN:Hid _:=qdu ha;have HLO:Hid _:=fun S' vd W=>HLK.out S' sb i a vd (.slice sa a.lines.length sc) W ha hi50
      have hza:=HZ.out a (List.mem_of_getElem? ha);have HGD:Hid _:=HST.out.good
      generalize hP0:qQ (l.take i)=P0 at *
      generalize hP1:qQ (l.take (i+1))=P1 at *
      obtain ⟨ns0,n0⟩:=P0;simp only at HST HSN HLO HGD
      have HDC:Hid _:=jF S sb n0 ns0 wr HST.out;clear hstr ha hll2 c0 c1;go_wp2_with fail;refine Calls.mono HDC.out ?_;rintro e w3 ⟨v3,rfl,hN3,hb3⟩;obtain ⟨a3,c3,rfl,_,hc3⟩:=hN3.shape;have hb4:=Below.alloc1 w3 (.cells #[.slice a3 ns0.length c3] 29);have hb34:=hb3.trans (hb4.mono hb3.size);have hB4:=hB.trans (hb34.mono hB.size);have HW4:Hid _:=heap_alloc_new w3 (.cells #[.slice a3 ns0.length c3] 29);obtain ⟨q0,q1,q2⟩:=HSB.out _ hB4;obtain ⟨_,_,hbx,_,_⟩:=HST.out.box;have hsbl:=qe hbx;have HDO:Hid _:=Qi S S0 sb n0 ns0 _ a w _ (HST.out.later hb34) q0 (fun b hb=>by have:=HS0.out b hb;omega) HE.out hB4 hsb hza
      have HN4:Hid _:=qp.later hN3 hb4;have hsz4:wr.heap.size≤(w3.alloc (.cells #[.slice a3 ns0.length c3] 29)).heap.size:=hb34.size;have hsz3:wr.heap.size≤w3.heap.size:=hb3.size;obtain ⟨rep,ns1,n1,hrd⟩:∃ rep ns1 n1,zG a ns0 n0=(rep,ns1,n1):=⟨_,_,_,rfl⟩;rw[hrd]at HDO HSN HLO
      simp only at HDO HSN HLO
      clear hN3 hb3 hb4 hb34 q0 hbx HDC hrd hza;go_wp2_with fail
      generalize w3.alloc (.cells #[.slice a3 ns0.length c3] 29)=W4 at *
      refine Calls.mono HDO.out ?_;rintro e w5 ⟨rfl,⟨S5,hS5,hSt5⟩,hF5⟩;have hB5:=z7 hB4 hF5 hsb;have hb6:=Below.alloc1 w5 (.cells #[.int .i64 rep.1,.int .i64 rep.2.1,.string rep.2.2] 41);have hB6:=hB5.trans (hb6.mono hB5.size)
      have hSw5:∀ b,S5 b→w.heap.size≤b:=fun b hb=>by
       rcases hS5 b hb with h|h
       · exact HSW.out b h
       · have:=hB.size;omega
      have HW6:Hid _:=(hb6.block _ (Nat.lt_of_lt_of_le (qe HW4.out) hF5.below.size)).trans ((hF5.frame _ (qe HW4.out) (by omega)).trans HW4.out)
      have HR6:Hid _:=heap_alloc_new w5 (.cells #[.int .i64 rep.1,.int .i64 rep.2.1,.string rep.2.2] 41);have HN6:Hid (qp (fun b=>w.heap.size≤b∧b≠sb) (w5.alloc (.cells #[.int .i64 rep.1,.int .i64 rep.2.1,.string rep.2.2] 41)) (.slice a3 ns0.length c3) ns0):=qp.later ((qp.bounded HN4.out).carry fun b hb=>⟨⟨Nat.le_trans hB.size hb.1,by omega⟩,hF5.frame b hb.2 (by omega)⟩) hb6
      have HS6:Hid _:=hSt5.later hb6
      have HLK6:Hid (∀ W,Below (w5.alloc (.cells #[.int .i64 rep.1,.int .i64 rep.2.1,.string rep.2.2] 41)).heap.size (w5.alloc (.cells #[.int .i64 rep.1,.int .i64 rep.2.1,.string rep.2.2] 41)) W→Calls Tryz.prog fm #[.pointer (some ⟨sb,0,none⟩),.agg #[.slice a3 ns0.length c3],.agg #[.int .i64 a.kind,.slice sa a.lines.length sc],.agg #[.int .i64 rep.1,.int .i64 rep.2.1,.string rep.2.2]] W fun e w'=>∃ v',e=.returned v'∧v'=.bool true∧Below W.heap.size W w'):=by
       intro W hW;have hBW:=hB6.trans (hW.mono hB6.size);refine (HLO.out S5 (.slice a3 ns0.length c3) W hBW hsb hSw5 ?_ (qp.later HN6.out hW) HGD.out (HSB.out W hBW).1).mono ?_
       · rw[HSN.out];exact HS6.out.later hW
       · rintro e w' ⟨rfl, hb⟩;exact ⟨_,rfl,rfl,hb⟩
      have HC:Hid (∀ W,Below (w5.alloc (.cells #[.int .i64 rep.1,.int .i64 rep.2.1,.string rep.2.2] 41)).heap.size (w5.alloc (.cells #[.int .i64 rep.1,.int .i64 rep.2.1,.string rep.2.2] 41)) W→Below (w5.alloc (.cells #[.int .i64 rep.1,.int .i64 rep.2.1,.string rep.2.2] 41)).heap.size (w5.alloc (.cells #[.int .i64 rep.1,.int .i64 rep.2.1,.string rep.2.2] 41)) W∧W.cell? ⟨w3.heap.size,0,none⟩=some (.slice a3 ns0.length c3)∧(W.cell? ⟨lb,lo+i*2,none⟩=some (.int .i64 a.kind)∧W.cell? ⟨lb,lo+i*2+1,none⟩=some (.slice sa a.lines.length sc))∧W.cell? ⟨w5.heap.size,0,none⟩=some (.int .i64 rep.1)∧W.cell? ⟨w5.heap.size,1,none⟩=some (.int .i64 rep.2.1)∧W.cell? ⟨w5.heap.size,2,none⟩=some (.string rep.2.2)):=by
       intro W hW;have h1:=(hW.block _ (qe HW6.out)).trans HW6.out;have h2:=(hW.block _ (qe HR6.out)).trans HR6.out;refine ⟨hW,?_,(HSB.out W (hB6.trans (hW.mono hB6.size))).2,?_,?_,?_⟩
       · rw[cH9 h1];rfl
       · rw[cH9 h2];rfl
       · rw[cH9 h2];rfl
       · rw[cH9 h2];rfl
      clear HDO hSt5 hF5 hS5 q1 q2 HN4 HW4 hb6;go_wp2_with fail
      generalize w5.alloc (.cells #[.int .i64 rep.1,.int .i64 rep.2.1,.string rep.2.2] 41)=W6 at *
      have hbn:Below W6.heap.size W6 W6.drew:=(Below.refl _ W6).drew
      go_region_held3 (fun W:World=>Below W6.heap.size W6 W∧W.cell? ⟨w3.heap.size,0,none⟩=some (.slice a3 ns0.length c3)∧(W.cell? ⟨lb,lo+i*2,none⟩=some (.int .i64 a.kind)∧W.cell? ⟨lb,lo+i*2+1,none⟩=some (.slice sa a.lines.length sc))∧W.cell? ⟨w5.heap.size,0,none⟩=some (.int .i64 rep.1)∧W.cell? ⟨w5.heap.size,1,none⟩=some (.int .i64 rep.2.1)∧W.cell? ⟨w5.heap.size,2,none⟩=some (.string rep.2.2))
       (with_reducible exact HC.out _ hbn)
       ((refine zd (by rfl) fm #[.pointer (some ⟨sb,0,none⟩),.agg #[.slice a3 ns0.length c3],.agg #[.int .i64 a.kind,.slice sa a.lines.length sc],.agg #[.int .i64 rep.1,.int .i64 rep.2.1,.string rep.2.2]] (by go_simp) _ (HLK6.out _ hbn) ?_;rintro v7 W7 ⟨rfl,hb7⟩;have hbn:=hbn.trans (hb7.mono hbn.size)))
      have hB7:=hB6.trans (hbn.mono hB6.size);have HS7:Hid _:=HS6.out.later hbn;have HP1:Hid _:=hP1;have HSW5:Hid _:=hSw5;clear hP1 hP0 hbn hb7 HS6 HN6 HC HLK6 hSw5 HSB;go_wp2_with fail
      go_roundg (min l.length 50-(i+1))
      case measure => omega
      case rel => exact ⟨i+1,by omega,by go_num,S5,HSW5.out,by rw[HP1.out,HSN.out];exact HS7.out,hB7⟩
    · have hi5i : ¬ ((i : Int) < 50) := by omega
      go_wp2_with fail
      go_ret2
      refine ⟨sb,S,rfl,hsb,HSW.out,?_,hB⟩;have e:i=50:=by omega
      rw[e]at HST
      exact HST.out
  · have hili : ¬ ((i : Int) < (l.length : Int)) := by omega
    go_wp2_with fail
    go_ret2
    refine ⟨sb,S,rfl,hsb,HSW.out,?_,hB⟩;have e:l.take i=l.take 50:=by rw[List.take_of_length_le (by omega),List.take_of_length_le (by omega)]
    rw[e]at HST
    exact HST.out
end
section
attribute [local go_sem] qd
theorem like_refl:∀ (n:Nat)(ts:List Tr),Deep n ts→likeB n ts ts=true:=by
 intro n
 induction n with
 | zero=>intro ts h;have e:ts=[]:=h;subst e;exact Xc 0
 | succ n ih =>
   intro ts h;rw[Xd rfl];unfold ZV;rw[List.all_eq_true];intro p hp;have hz:=List.mem_of_mem_take hp;obtain ⟨i,hi⟩:=List.mem_iff_getElem?.1 hz;rw[List.getElem?_zip_eq_some]at hi
   have e:p.1=p.2:=by
    have h1:=hi.1;have h2:=hi.2;rw[h1]at h2
    exact Option.some.inj h2
   rw[←e,ih p.1.kids (h p.1 (List.mem_of_getElem? hi.1)),Bool.and_true];simp[xd]
theorem JB (w:World)(S0:Nat→Prop)(l:List Ac):qcn 7 w S0 l:=by
 intro S sb i a vd vs W _ _ hB hsb hSw hSt hN hg hstr;obtain ⟨da,dc,rfl,_,_⟩:=hN.shape;obtain ⟨sa,sc,rfl,_,_⟩:=hstr.shape
 generalize (zG a (qQ (l.take i)).1 (qQ (l.take i)).2).1=rep
 have hb1:Below W.heap.size W (((W.alloc (.cells #[.slice da (qQ (l.take i)).1.length dc] 29)).alloc (.cells #[.int .i64 a.kind,.slice sa a.lines.length sc] 45)).alloc (.cells #[.int .i64 rep.1,.int .i64 rep.2.1,.string rep.2.2] 41)):=((Below.alloc1 W _).alloc (by simp) _).alloc (by simp;omega) _
 clear hSt hN hg hstr hB
 go_enter Tryz.func7,Tryz.ntmps7
 go_wp2_with fail;go_ret;exact ⟨rfl,hb1⟩
theorem Q8 (S0:Nat→Prop)(vl:Value)(l:List Ac)(w:World)(hL:QH S0 w vl l)(hS0:∀ b,S0 b→b<w.heap.size)(hz:ZG l)(hE:yz w) :
 Calls Tryz.prog 6 #[vl,.func (.func 7) #[] #[]] w fun e w'=>Kp w l e w' :=
 qdo 7 (fun _ _=>rfl) S0 vl l w hL hS0 hz hE (JB w S0 l)
set_option maxHeartbeats 1000000 in
theorem Qt (S S':Nat→Prop)(vd vd':Value)(ns:List Nd)(w:World)(h:QT S w vd ns)(h':QT S' w vd' ns)(hg:qq ns=true) :
 Calls Tryz.prog 12 #[.agg #[vd],.agg #[vd']] w fun e w'=>e=.returned (.bool true)∧Below w.heap.size w w':=by
 obtain ⟨a,c,rfl,_,_⟩:=h.nodes.shape;obtain ⟨a',c',rfl,_,_⟩:=h'.nodes.shape;have hb1:Below w.heap.size w ((w.alloc (.cells #[.slice a ns.length c] 29)).alloc (.cells #[.slice a' ns.length c'] 29)):=(Below.alloc1 w _).alloc (by simp) _
 have HY1:Hid (((w.alloc (.cells #[.slice a ns.length c] 29)).alloc (.cells #[.slice a' ns.length c'] 29)).heap[w.heap.size+1]?=some (.cells #[.slice a' ns.length c'] 29 (0,0))):=by
  have:=heap_alloc_new (w.alloc (.cells #[.slice a ns.length c] 29)) (.cells #[.slice a' ns.length c'] 29);rw[World.size_alloc]at this
  exact this
 obtain ⟨htd,hgt⟩:=yh hg;have HT1:Hid _:=xD S _ ns 0 _ (h.later hb1);have HD':Hid _:=h';rw[htd]at HT1
 have HT2:Hid (∀ W,Below w.heap.size w W→Calls Tryz.prog 9 #[.agg #[.slice a' ns.length c'],.int .i64 0] W fun e w'=>∃ va vk,e=.returned (.tuple #[.agg #[.bool (growF ns.length ns 0).text,.string (growF ns.length ns 0).s,va,vk],.int .i64 0])∧qj (fun b=>W.heap.size≤b) w' va (growF ns.length ns 0).attrs∧qa (fun b=>W.heap.size≤b) w' ns.length vk (growF ns.length ns 0).kids∧Below W.heap.size W w'):=by
  intro W hW;have:=xD S' _ ns 0 W (HD'.out.later hW);rw[htd]at this
  exact this
 have hcnt:∀ {n:Nat},Deep n (growF ns.length ns 0).kids→cnt (n+1) [growF ns.length ns 0]≤1048576:=by
  intro n hd;have hg2:=hgt;rw[yL hd]at hg2
  simp only[Bool.and_eq_true,decide_eq_true_eq]at hg2
  omega
 have HCN:Hid _:=@hcnt
 generalize growF ns.length ns 0=t at *
 clear h h' htd hgt hcnt hg
 go_enter Tryz.func12,Tryz.ntmps12
 go_wp2_with fail
 generalize (w.alloc (.cells #[.slice a ns.length c] 29)).alloc (.cells #[.slice a' ns.length c'] 29)=W1 at *
 refine Calls.mono HT1.out ?_;rintro e w2 ⟨va,vk,rfl,hA2,hK2,hb2⟩;obtain ⟨aa,ac,rfl⟩:=hA2.shape;obtain ⟨ka,kc,rfl,_,_⟩:=qa.shape ns.length hK2;have hb3:=Below.alloc1 w2 (.cells #[.bool t.text,.string t.s,.slice aa t.attrs.length ac,.slice ka t.kids.length kc] 34);have hb23:=hb2.trans (hb3.mono hb2.size);have hB3:=hb1.trans (hb23.mono hb1.size);have HX3:Hid _:=heap_alloc_new w2 (.cells #[.bool t.text,.string t.s,.slice aa t.attrs.length ac,.slice ka t.kids.length kc] 34);have HY3:Hid _:=(hb23.block _ (qe HY1.out)).trans HY1.out;have HA3:Hid _:=qj.later hA2 hb3;have HK3:Hid _:=qa.later hb3 ns.length hK2;have y3:(w2.alloc (.cells #[.bool t.text,.string t.s,.slice aa t.attrs.length ac,.slice ka t.kids.length kc] 34)).cell? ⟨w.heap.size+1,0,none⟩=some (.slice a' ns.length c'):=by rw[cH9 HY3.out];rfl
 clear hA2 hK2 hb2 hb3 hb23 HT1 HY1;go_wp2_with fail
 generalize w2.alloc (.cells #[.bool t.text,.string t.s,.slice aa t.attrs.length ac,.slice ka t.kids.length kc] 34)=W3 at *
 refine Calls.mono (HT2.out W3 hB3) ?_;rintro e w4 ⟨va4,vk4,rfl,hA4,hK4,hb4⟩;obtain ⟨aa4,ac4,rfl⟩:=hA4.shape;obtain ⟨ka4,kc4,rfl,_,_⟩:=qa.shape ns.length hK4;have hb5:=Below.alloc1 w4 (.cells #[.bool t.text,.string t.s,.slice aa4 t.attrs.length ac4,.slice ka4 t.kids.length kc4] 34);have hb45:=hb4.trans (hb5.mono hb4.size);have hB5:=hB3.trans (hb45.mono hB3.size);have HX5:Hid _:=(hb45.block _ (qe HX3.out)).trans HX3.out;have HZ5:Hid _:=heap_alloc_new w4 (.cells #[.bool t.text,.string t.s,.slice aa4 t.attrs.length ac4,.slice ka4 t.kids.length kc4] 34);have x0:(w4.alloc (.cells #[.bool t.text,.string t.s,.slice aa4 t.attrs.length ac4,.slice ka4 t.kids.length kc4] 34)).cell? ⟨w2.heap.size,0,none⟩=some (.bool t.text):=by rw[cH9 HX5.out];rfl
 have x1:(w4.alloc (.cells #[.bool t.text,.string t.s,.slice aa4 t.attrs.length ac4,.slice ka4 t.kids.length kc4] 34)).cell? ⟨w2.heap.size,1,none⟩=some (.string t.s):=by rw[cH9 HX5.out];rfl
 have x2:(w4.alloc (.cells #[.bool t.text,.string t.s,.slice aa4 t.attrs.length ac4,.slice ka4 t.kids.length kc4] 34)).cell? ⟨w2.heap.size,2,none⟩=some (.slice aa t.attrs.length ac):=by rw[cH9 HX5.out];rfl
 have x3:(w4.alloc (.cells #[.bool t.text,.string t.s,.slice aa4 t.attrs.length ac4,.slice ka4 t.kids.length kc4] 34)).cell? ⟨w2.heap.size,3,none⟩=some (.slice ka t.kids.length kc):=by rw[cH9 HX5.out];rfl
 have HSM:Hid _:=Vm _ _ ns.length _ _ _ _ t t _ (qj.later HA3.out hb45) (qa.later hb45 ns.length HK3.out) (qj.later hA4 hb5) (qa.later hb5 ns.length hK4) (HCN.out (qa.deep ns.length hK4));rw[like_refl _ _ (show Deep (ns.length+1) [t] from fun u hu=>by rw[List.mem_singleton.1 hu];exact qa.deep ns.length hK4)]at HSM
 clear hA4 hK4 hb4 hb5 hb45 HX3 HA3 HK3 HT2 y3 HX5;go_wp2_with fail;refine Calls.mono HSM.out ?_;rintro e w6 ⟨rfl,hb6⟩;go_wp2_with fail;go_ret;exact ⟨rfl,hB5.trans (hb6.mono hB5.size)⟩
end
end Go.Proofs.YtcedemhafgledaaGreatDoor
/- What a store's acts keep, on plain data: who is refused changes nothing. No condition. -/
namespace Go.Proofs.YtcedemhafgledaaGreatDoor
open Go.RowKit
set_option maxRecDepth 100000
end Go.Proofs.YtcedemhafgledaaGreatDoor
namespace Go.Proofs.YtcedemhafgledaaGreatDoor
open Go.RowKit
set_option maxRecDepth 100000
theorem qcG (a:Ac)(ns:List Nd)(n:Nat):(zG a ns n).2.2≤n+1:=by
 unfold zG
 split
 · exact Nat.le_succ n
 · exact nR9 _
theorem qb1 (l:List Ac):(qQ l).2≤l.length:=by
 unfold qQ
 have:∀ (l:List Ac) (p:List Nd × Nat),(l.foldl (fun p a=>((zG a p.1 p.2).2.1,(zG a p.1 p.2).2.2)) p).2≤p.2+l.length:=by
  intro l
  induction l with
  | nil=>intro p;exact nR9 _
  | cons a r ih =>
    intro p;rw[List.foldl_cons,List.length_cons];have h1:=ih ((zG a p.1 p.2).2.1,(zG a p.1 p.2).2.2);have h2:=qcG a p.1 p.2;simp only at h1
    omega
 have:=this l (newD,0)
 simpa using this
theorem Xr (l:List Ac):(qQ (l.take 50)).2≤50:=Nat.le_trans (qb1 _) (by rw[List.length_take];omega)
theorem qdb {s:ByteArray}{ns:List Nd}{n:Nat}(hn:n<100)(hp:(qu s.data.toList).2≠0):zG ⟨1,[s]⟩ ns n=(((qu s.data.toList).2,0,⟨#[]⟩),ns,n+1):=by
 unfold zG yE xX;rw[if_neg (by omega)]
 simp only[if_true];rw[if_pos hp];rfl
theorem Xe {s:ByteArray}{ns:List Nd}{n:Nat}(hn:n<100)(hp:(qu s.data.toList).2=0)(hd:Deep s.data.toList.length (qu s.data.toList).1.kids):∃ ms,zG ⟨1,[s]⟩ ns n=((0,(ms.length:Int),⟨#[]⟩),ms,n+1)∧qq ms=true∧growF ms.length ms 0=(qu s.data.toList).1∧ms=layF s.data.toList.length (qu s.data.toList).1 (-1) 0:=by
 have hg:qR (qu s.data.toList).1=true:=by
  rcases Yb s.data.toList with ⟨c,hc,h2⟩|h
  · rw[hp]at h2;rcases hc with rfl|rfl<;>cases h2
  · exact h.1
 obtain ⟨h1,h2,_⟩:=ZP hd hg;refine ⟨layF s.data.toList.length (qu s.data.toList).1 (-1) 0,?_,h1,h2,rfl⟩;unfold zG yE xX;rw[if_neg (by omega)]
 simp only[if_true];rw[if_neg (by simpa using hp)]
 unfold yi;rw[if_pos hg]
theorem deep_dep:∀ (n:Nat)(ts:List Tr),Deep n ts→∀ m,dep n ts≤m→Deep m ts
 | 0, ts, h, m, _ => by
   have e:ts=[]:=h;subst e;cases m with
   | zero=>rfl
   | succ m=>intro t ht;cases ht
 | n + 1, ts, h, m, hm => by
   cases m with
   | zero =>
     cases ts with
     | nil=>rfl
     | cons t r=>rw[zI]at hm;omega
   | succ m =>
     intro t ht;refine deep_dep n t.kids (h t ht) m ?_
     have:∀ (l:List Tr),t∈l→dep n t.kids+1≤dep (n+1) l:=by
      intro l
      induction l with
      | nil=>intro h;cases h
      | cons u r ih =>
        intro hu;rw[zI]
        rcases List.mem_cons.1 hu with rfl|hr
        · omega
        · have:=ih hr;omega
     have:=this ts ht;omega
theorem qb4 {ns:List Nd}{n:Nat}(hg:qq ns=true)(hd:Deep ns.length (growF ns.length ns 0).kids)(hn:n<100)(hp:(qO ns.length (growF ns.length ns 0)).2=0)(ns':List Nd) :
 zG ⟨1,[(qO ns.length (growF ns.length ns 0)).1]⟩ ns' n=((0,(ns.length:Int),⟨#[]⟩),ns,n+1)∧(qO ns.length (growF ns.length ns 0)).1.size≤2500:=by
 obtain ⟨d,t,hdt,hlay,hgt,hgr,_,_,_⟩:=xv hg;rw[hgr]at hd hp ⊢
 have hpr:(qK (showL ns.length t.kids) t).length≤2500∧qO ns.length t=(⟨(qK (showL ns.length t.kids) t).toArray⟩,0):=by
  unfold qO at hp ⊢
  rw[if_pos hgt]at hp ⊢
  by_cases hl:2500<(qK (showL ns.length t.kids) t).length
  · rw[if_pos hl]at hp;cases hp
  · rw[if_neg hl];exact ⟨by omega,rfl⟩
 obtain ⟨hl,e⟩:=hpr;have hdata:(⟨(qK (showL ns.length t.kids) t).toArray⟩:ByteArray).data.toList=qK (showL ns.length t.kids) t:=by simp
 have hb:=qad hd hgt hl
 have hdp:Deep (qK (showL ns.length t.kids) t).length t.kids:=by
  refine deep_dep ns.length t.kids hd _ ?_;have hg2:=hgt;rw[yL hd]at hg2
  simp only[Bool.and_eq_true,Bool.not_eq_true',decide_eq_true_eq]at hg2
  have:=dep_show (ns.length+1) [t] false (fun m hm=>by cases hm;exact hg2.2)
  rw[zI]at this
  simp only[showL,List.flatMap_cons,List.flatMap_nil,List.append_nil]at this
  omega
 rw[e];refine ⟨?_,?_⟩
 · simp only;obtain ⟨ms,h1,_,_,h4⟩:=Xe (s:=⟨(qK (showL ns.length t.kids) t).toArray⟩) (ns:=ns') hn (by rw[hdata,hb]) (by rw[hdata,hb];exact hdp)
   rw[h1];rw[hdata,hb]at h4
   have e2:ms=ns:=by
    rw[h4];exact (lay_upto (par:=-1) (a:=0) hdp (Nat.le_max_left _ d)).symm.trans ((lay_upto (par:=-1) (a:=0) hdt (Nat.le_max_right (qK (showL ns.length t.kids) t).length d)).trans hlay)
   rw[e2]
 · show (qK (showL ns.length t.kids) t).toArray.size ≤ 2500
   simpa using hl
theorem qeD {ns:List Nd}{n:Nat}(hg:qq ns=true)(hn:n<100):zG ⟨3,[]⟩ ns n=((if (qO ns.length (growF ns.length ns 0)).2≠0 then ((qO ns.length (growF ns.length ns 0)).2,0,⟨#[]⟩) else (0,(ns.length:Int),(qO ns.length (growF ns.length ns 0)).1)),ns,n+1):=by
 obtain ⟨htd,_⟩:=yh hg;unfold zG yE Za;rw[if_neg (by omega),htd]
 simp only[show ¬ ((3:Int)=1) by decide,show ¬ ((3:Int)=2) by decide,if_false,if_true,ne_eq,not_true_eq_false]
 rfl
theorem qes {ns:List Nd}{n:Nat}(hn:n<100):zG ⟨0,[]⟩ ns n=((4,0,⟨#[]⟩),ns,n+1):=by
 unfold zG yE;rw[if_neg (by omega),if_neg (by decide),if_neg (by decide),if_neg (by decide)]
 rfl
theorem qeb {a:Ac}{ns:List Nd}:zG a ns 100=((7,0,⟨#[]⟩),ns,100):=by
 unfold zG;rw[if_pos (nR9 _)];rfl
theorem qb2 (l:List Ac)(h:l.length≤100):(qQ l).2=l.length:=by
 unfold qQ
 have:∀ (l:List Ac) (p:List Nd × Nat),p.2+l.length≤100→(l.foldl (fun p a=>((zG a p.1 p.2).2.1,(zG a p.1 p.2).2.2)) p).2=p.2+l.length:=by
  intro l
  induction l with
  | nil=>intro p _;rfl
  | cons a r ih =>
    intro p hp;rw[List.length_cons]at hp
    have h2:(zG a p.1 p.2).2.2=p.2+1:=by
     unfold zG;rw[if_neg (by omega)]
    rw[List.foldl_cons,List.length_cons,ih _ (by simp only[h2];omega)]
    simp only[h2];omega
 have:=this l (newD,0) (by simpa using h)
 simpa using this
end Go.Proofs.YtcedemhafgledaaGreatDoor
namespace Go.Proofs.YtcedemhafgledaaGreatDoor
open Go.ChangeShapes Go.WideShapes Go.ChangeAt Go.RowKit
set_option maxRecDepth 100000
theorem yn {S:Nat→Prop}{w:World}{v:Value}{ns:List Nd}(h:qp S w v ns)(hg:qq ns=true):QT (fun b=>S b∧b<w.heap.size) w v ns :=
 ⟨h.bounded,fun _ hb=>hb.2,(Zm hg).1,(Zm hg).2⟩
theorem K9 (w:World)(s:ByteArray):Strs (fun b=>b=w.heap.size) (w.alloc (.cells #[.string s] 9)) (.slice (some ⟨w.heap.size,0,none⟩) 1 1) [s]:=by
 have hh:=heap_alloc_new w (.cells #[.string s] 9);refine ⟨_,1,rfl,nR9 _,by unfold maxLen;omega,fun _=>⟨w.heap.size,0,rfl,rfl,fun i x hx=>?_⟩⟩
 match i,hx with
 | 0,hx=>simp at hx;subst hx;rw[cH9 hh];rfl
 | i+1,hx=>simp at hx
end Go.Proofs.YtcedemhafgledaaGreatDoor
