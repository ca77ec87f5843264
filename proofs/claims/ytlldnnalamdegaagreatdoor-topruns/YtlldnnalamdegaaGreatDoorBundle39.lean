/- Bundled: AimW StoM StrsL ChW DocCp StoG StoW StoX StoD AliveM AliveW PlayW RunM RunW ActsC TRunK. What each says stands ahead of it. -/
import Derived.Test.YtlldnnalamdegaaGreatDoorBundle38
namespace Go.Proofs.YtlldnnalamdegaaGreatDoor
open Go.ChangeShapes Go.WideShapes Go.ChangeAt Go.RowKit
set_option maxRecDepth 100000
section
attribute [local go_sem] qd
def ZX (o:Opn)(l:List Int):List Opn:=l.map fun n=>{ o with target:=n }
def xj (o:Opn)(ca:Option Addr)(cc:Nat)(l:List Int):List Orw:=l.map fun n=>⟨o.kind,n,ca,o.content.length,cc,o.name,o.s⟩
theorem Za {w w':World}{B:Nat}{e:TypeId}{k n:Nat}{v:Value}{xs:List Value}(h:w.ownsRow B e k v n xs)(hk:∀ g,v.ownBlock=some g→w'.heap[g]?=w.heap[g]?):w'.ownsRow B e k v n xs:=by
 refine ⟨h.1,?_⟩
 rcases h.2 with ⟨rfl,hz⟩|⟨g,cap,cur,rfl,hB,hh,hc,hm,hs,ht⟩
 · exact Or.inl ⟨rfl,hz⟩
 · exact Or.inr ⟨g,cap,cur,rfl,hB,(hk g rfl).trans hh,hc,hm,hs,ht⟩
theorem Qt {w:World}{B B':Nat}{e:TypeId}{k n:Nat}{v:Value}{xs:List Value}(h:w.ownsRow B e k v n xs)(hB:B'≤B):w.ownsRow B' e k v n xs:=by
 refine ⟨h.1,?_⟩
 rcases h.2 with ⟨rfl,hz⟩|⟨g,cap,cur,rfl,hB1,hh,hc,hm,hs,ht⟩
 · exact Or.inl ⟨rfl,hz⟩
 · exact Or.inr ⟨g,cap,cur,rfl,Nat.le_trans hB hB1,hh,hc,hm,hs,ht⟩
theorem V8 (o:Opn)(ca:Option Addr)(cc:Nat){l:List Int}{k:Nat}{t:Int}(h:l[k]?=some t):qB (xj o ca cc (l.take (k+1)))=qB (xj o ca cc (l.take k))++[.int .i64 o.kind,.int .i64 t,.slice ca o.content.length cc,.string o.name,.string o.s]:=by
 have hk:=qe h;have e:l[k]=t:=by simpa[hk] using h
 rw[List.take_succ_eq_append_getElem hk,e];unfold xj qB;rw[List.map_append,List.flatMap_append];rfl
structure qdv (w:World) (o:Opn) (ca:Option Addr) (cc:Nat) (l:List Int) (k:Nat) (v:Value) (wr:World):Prop where
 below:Below w.heap.size w wr
 box:∃ t:Int,wr.heap[w.heap.size]?=some (.cells #[.int .i64 o.kind,.int .i64 t,.slice ca o.content.length cc,.string o.name,.string o.s] 85 (0,0))
 row:wr.ownsRow (w.heap.size+1) 85 5 v k (qB (xj o ca cc (l.take k)))
set_option maxHeartbeats 1000000 in
theorem V9 (T:Nat→Prop)(o:Opn)(ca:Option Addr)(cc:Nat)(vi:Value)(l:List Int)(w:World)(hI:qW T w vi l)(hl:l.length≤1048576) :
 Calls Tryz.prog 31 #[.agg #[.int .i64 o.kind,.int .i64 o.target,.slice ca o.content.length cc,.string o.name,.string o.s],vi] w fun e w'=>∃ v,e=.returned v∧w'.ownsRow w.heap.size 85 5 v l.length (qB (xj o ca cc l))∧Below w.heap.size w w':=by
 obtain ⟨ia,ic,rfl,hil,hic⟩:=hI.shape;obtain ⟨i0,hi,hz0,hz1,hz2⟩:=info_parts opInfo;have HI:Hid _:=hI;have HI0:Hid (qdv w o ca cc l 0 (.slice none 0 0) (w.alloc (.cells #[.int .i64 o.kind,.int .i64 o.target,.slice ca o.content.length cc,.string o.name,.string o.s] 85))):=⟨Below.alloc1 w _,⟨_,heap_alloc_new w _⟩,World.ownsRow_nil _ _ _ _⟩;unfold maxLen at hic
 clear hI
 go_enter Tryz.func31,Tryz.ntmps31
 go_wp2_with fail
 go_loopg [10,5] l.length (fun g i u wr=>∃ (k:Nat) (v:Value),k+g=l.length∧i=.int .i64 k∧v=u∧qdv w o ca cc l k v wr)
 case atStart => exact ⟨0,_,by omega,rfl,rfl,HI0.out⟩
 case round =>
  clear HI0;obtain ⟨k,v,hk,rfl,hvu,hA⟩:=hrel;subst hvu;obtain ⟨t0,hbx⟩:=hA.box;have HB:Hid _:=hA.below;have HRW:Hid _:=hA.row
  by_cases hlt:k<l.length
  · have hlti : (k : Int) < (l.length : Int) := by omega
    obtain ⟨t,ht⟩:∃ t,l[k]?=some t:=⟨l[k],by simp[hlt]⟩
    obtain ⟨b1,o1,c1,hv1,_,_,e1⟩:=(qW.later HI.out HB.out).at ht
    injection hv1 with hv1 hv1l hv1c
    subst hv1 hv1c;clear hv1l;have HSN:Hid _:=V8 o ca cc ht;have q0:wr.cell? ⟨w.heap.size,0,none⟩=some (.int .i64 o.kind):=by rw[cH9 hbx];rfl
    have q1:wr.cell? ⟨w.heap.size,1,none⟩=some (.int .i64 t0):=by rw[cH9 hbx];rfl
    have q2:wr.cell? ⟨w.heap.size,2,none⟩=some (.slice ca o.content.length cc):=by rw[cH9 hbx];rfl
    have q3:wr.cell? ⟨w.heap.size,3,none⟩=some (.string o.name):=by rw[cH9 hbx];rfl
    have q4:wr.cell? ⟨w.heap.size,4,none⟩=some (.string o.s):=by rw[cH9 hbx];rfl
    have qf:wr.frozen? ⟨w.heap.size,1,none⟩=false:=fH9 hbx _
    have hbx1:(wr.setCell ⟨w.heap.size,1,none⟩ (.int .i64 t)).heap[w.heap.size]?=some (.cells #[.int .i64 o.kind,.int .i64 t,.slice ca o.content.length cc,.string o.name,.string o.s] 85 (0,0)):=by
     simp[World.setCell,Array.getElem?_modify,hbx]
    have hrow1:(wr.setCell ⟨w.heap.size,1,none⟩ (.int .i64 t)).ownsRow (w.heap.size+1) 85 5 v k (qB (xj o ca cc (l.take k))):=Za HRW.out (fun g hg=>qa (by have:=(World.ownsRow.lt HRW.out g hg).1;omega))
    have hB1:Below w.heap.size w (wr.setCell ⟨w.heap.size,1,none⟩ (.int .i64 t)):=HB.out.setCell (p:=⟨w.heap.size,1,none⟩) (nR9 _) _;have p0:(wr.setCell ⟨w.heap.size,1,none⟩ (.int .i64 t)).cell? ⟨w.heap.size,0,none⟩=some (.int .i64 o.kind):=by rw[cH9 hbx1];rfl
    have p1:(wr.setCell ⟨w.heap.size,1,none⟩ (.int .i64 t)).cell? ⟨w.heap.size,1,none⟩=some (.int .i64 t):=by rw[cH9 hbx1];rfl
    have p2:(wr.setCell ⟨w.heap.size,1,none⟩ (.int .i64 t)).cell? ⟨w.heap.size,2,none⟩=some (.slice ca o.content.length cc):=by rw[cH9 hbx1];rfl
    have p3:(wr.setCell ⟨w.heap.size,1,none⟩ (.int .i64 t)).cell? ⟨w.heap.size,3,none⟩=some (.string o.name):=by rw[cH9 hbx1];rfl
    have p4:(wr.setCell ⟨w.heap.size,1,none⟩ (.int .i64 t)).cell? ⟨w.heap.size,4,none⟩=some (.string o.s):=by rw[cH9 hbx1];rfl
    have HX1:Hid _:=hbx1;have HW1:Hid _:=hrow1;have HB1:Hid _:=hB1;have hszw:w.heap.size<wr.heap.size:=qh hbx;clear hbx hbx1 hrow1 hB1 ht hA HRW;go_wp2_with (at_builtin;refine wpList_append_own_at _ rfl _ _ 67 rfl (w.heap.size+1) 85 i0 _ 5 72 Tryz.underlying67 hi hz0 hz1 hz2 rfl (by decide) v k (qB (xj o ca cc (l.take k))) rfl ?qc0 ⟨wr.heap.size,0,none⟩ 1 1 [.int .i64 o.kind,.int .i64 t,.slice ca o.content.length cc,.string o.name,.string o.s] rfl ?qc1 ?qc2 ?qc3 ?qc4 ?qc5 ?qc6 ?_)
    case qc0 => exact World.ownsRow.alloc HW1.out _
    case qc1 => rfl
    case qc2 =>
     intro j u hj;have hnew:=heap_alloc_new (wr.setCell ⟨w.heap.size,1,none⟩ (.int .i64 t)) (.cells #[.int .i64 o.kind,.int .i64 t,.slice ca o.content.length cc,.string o.name,.string o.s] 85);rw[World.size_setCell]at hnew
     rw[Addr.add_lit,Nat.zero_add,cH9 hnew]
     simpa using hj
    case qc3 =>
     intro u hu;simp only[List.mem_cons,List.not_mem_nil,or_false]at hu
     rcases hu with rfl|rfl|rfl|rfl|rfl<;>rfl
    case qc4 => unfold maxLen;omega
    case qc5 => omega
    case qc6 => simp;omega
    intro v2 W2 hown hgr _ _;have hbA:=Below.alloc1 (wr.setCell ⟨w.heap.size,1,none⟩ (.int .i64 t)) (.cells #[.int .i64 o.kind,.int .i64 t,.slice ca o.content.length cc,.string o.name,.string o.s] 85)
    have HI2:Hid (qdv w o ca cc l (k+1) v2 W2):=by
     have hB2:Below (w.heap.size+1) ((wr.setCell ⟨w.heap.size,1,none⟩ (.int .i64 t)).alloc (.cells #[.int .i64 o.kind,.int .i64 t,.slice ca o.content.length cc,.string o.name,.string o.s] 85)) W2:=(Below.refl _ _).grown hgr (by simp;omega) (fun z hz=>(World.ownsRow.lt HW1.out z hz).1)
     have hBA:Below w.heap.size w ((wr.setCell ⟨w.heap.size,1,none⟩ (.int .i64 t)).alloc (.cells #[.int .i64 o.kind,.int .i64 t,.slice ca o.content.length cc,.string o.name,.string o.s] 85)):=HB1.out.alloc HB1.out.size _;refine ⟨hBA.trans (hB2.mono (by omega)),⟨t,?_⟩,?_⟩
     · exact (hB2.block _ (by omega)).trans ((hbA.block _ (qh HX1.out)).trans HX1.out)
     · rw[HSN.out];exact hown
    clear hown hgr hbA HX1 HW1 HB1 HSN p0 p1 p2 p3 p4 q0 q1 q2 q3 q4 qf;go_wp2_with fail
    go_roundg (l.length-(k+1))
    case measure => omega
    case rel => exact ⟨k+1,v2,by omega,by go_num,rfl,HI2.out⟩
  · have hlti : ¬ ((k : Int) < (l.length : Int)) := by omega
    have hkk:k=l.length:=by omega
    subst hkk;clear hA;go_wp2_with fail;go_ret;refine ⟨v,rfl,?_,HB.out⟩;have:=HRW.out;rw[List.take_length]at this
    exact Qt this (by omega)
end
end Go.Proofs.YtlldnnalamdegaaGreatDoor
namespace Go.Proofs.YtlldnnalamdegaaGreatDoor
open Go.RowKit
set_option maxRecDepth 100000
abbrev Rep:=Int × Int × ByteArray
def qV (c:Int):Rep:=(c,0,⟨#[]⟩)
def qK (ns:List Nd):List ByteArray→List Opn × Int
 | []=>([],0)
 | s :: r =>
   if (qS s.data.toList).2.2≠0 then ([],(qS s.data.toList).2.2)
   else if Zd ns (qS s.data.toList).2.1≠0 then ([],Zd ns (qS s.data.toList).2.1)
   else if xZ ns (qS s.data.toList).2.1=[] then ([],3)
   else if (qK ns r).2≠0 then ([],(qK ns r).2)
   else (ZX (qS s.data.toList).1 (xZ ns (qS s.data.toList).2.1)++(qK ns r).1,0)
def QE (l:List ByteArray)(ns:List Nd):Rep × List Nd :=
 match l with
 | [s]=>if (qA s.data.toList).2≠0 then (qV (qA s.data.toList).2,ns) else ((0,((yl s.data.toList.length (qA s.data.toList).1).length:Int),⟨#[]⟩),yl s.data.toList.length (qA s.data.toList).1)
 | _=>(qV 1,ns)
def Zx (ns:List Nd):Rep :=
 if (jh ns 0).2≠0 then qV (jh ns 0).2
 else if (yO ns.length (jh ns 0).1).2≠0 then qV (yO ns.length (jh ns 0).1).2
 else (0,(ns.length:Int),(yO ns.length (jh ns 0).1).1)
def jz (l:List ByteArray)(ns:List Nd):Rep × List Nd :=
 if 6<l.length then (qV 2,ns)
 else if (qK ns l).2≠0 then (qV (qK ns l).2,ns)
 else if yo ns (qK ns l).1≠0 then (qV (yo ns (qK ns l).1),ns)
 else ((0,((qK ns l).1.length:Int),⟨#[]⟩),yn ns (qK ns l).1)
structure Ac where
 kind:Int
 lines:List ByteArray
def jp (a:Ac)(ns:List Nd):Rep × List Nd :=
 if a.kind=1 then QE a.lines ns else if a.kind=2 then jz a.lines ns else if a.kind=3 then (Zx ns,ns) else (qV 4,ns)
def Qm (a:Ac)(ns:List Nd)(n:Nat):Rep × List Nd × Nat :=
 if 100≤n then (qV 7,ns,n) else ((jp a ns).1,(jp a ns).2,n+1)
def newD:List Nd:=[⟨false,⟨#[100,111,99]⟩,[],-1,[]⟩]
theorem X7 (s:ByteArray):Qb (yd s):=by
 intro x hx;unfold yd at hx
 cases hp:xA s.data.toList with
 | none=>rw[hp]at hx;simp[asS]at hx
 | some l =>
   rw[hp]at hx
   simp only[Option.getD_some]at hx
   have hl:Yy l=true:=by
    unfold xA at hp
    split at hp
    · split at hp
      · cases hp
      · split at hp
        · rename_i h;cases hp;exact h
        · cases hp
    · cases hp
   rw[←VY]at hl
   simp only[yS,Bool.and_eq_true,List.all_eq_true]at hl
   have h1:=hl.2 x hx;simp only[zT,Bool.and_eq_true,Bool.or_eq_true,decide_eq_true_eq]at h1
   rcases h1.2 with (h|h)|h
   · rw[h];exact nZ9 _
   · rw[h];show 1≤maxLen;unfold maxLen;omega
   · have:=Q2 h;unfold maxLen;omega
theorem K8 (s:List UInt8):Qb (qS s).2.1:=by
 have h0:Qb []:=by intro x hx;cases hx
 unfold qS
 split
 · exact h0
 · split
   · exact h0
   · split
     · exact h0
     · split
       · exact h0
       · exact X7 _
theorem qdf {ns:List Nd}{l:List St}:(xZ ns l).length≤80:=by
 unfold xZ
 split
 · rename_i h
   simp only[Bool.and_eq_true]at h
   have hne:l≠[]:=by
    intro e;have:=h.2;rw[e]at this
    simp[yS]at this
   exact Nat.le_trans (ZP h.1 (qcb h.1 hne)) (xV h.1)
 · exact nZ9 _
end Go.Proofs.YtlldnnalamdegaaGreatDoor
namespace Go.Proofs.YtlldnnalamdegaaGreatDoor
open Go.ChangeShapes Go.WideShapes Go.ChangeAt Go.RowKit
set_option maxRecDepth 100000
def Strs (S:Nat→Prop)(w:World)(v:Value)(l:List ByteArray):Prop :=
  ∃ a cap, v = .slice a l.length cap ∧ l.length ≤ cap ∧ cap ≤ maxLen ∧
    (l≠[]→∃ b o,a=some ⟨b,o,none⟩∧S b∧∀ (i:Nat) (x:ByteArray),l[i]?=some x→w.cell? ⟨b,o+i,none⟩=some (.string x))
theorem Strs.carry {S S':Nat→Prop}{w w':World}{v:Value}{l:List ByteArray}(h:Strs S w v l)(hw:∀ b,S b→S' b∧w'.heap[b]?=w.heap[b]?):Strs S' w' v l:=by
 obtain ⟨a,cap,h1,h2,h3,h4⟩:=h;refine ⟨a,cap,h1,h2,h3,fun hne=>?_⟩
 obtain ⟨b,o,ha,hs,hc⟩:=h4 hne;refine ⟨b,o,ha,(hw b hs).1,fun i x hx=>?_⟩
 rw[World.cell?_of_block (a:=⟨b,o+i,none⟩) (hw b hs).2];exact hc i x hx
theorem Strs.bounded {S:Nat→Prop}{w:World}{v:Value}{l:List ByteArray}(h:Strs S w v l):Strs (fun b=>S b∧b<w.heap.size) w v l:=by
 obtain ⟨a,cap,h1,h2,h3,h4⟩:=h;refine ⟨a,cap,h1,h2,h3,fun hne=>?_⟩
 obtain ⟨b,o,ha,hs,hc⟩:=h4 hne;refine ⟨b,o,ha,⟨hs,?_⟩,hc⟩;cases l with
 | nil=>exact absurd rfl hne
 | cons x r=>exact World.block_lt_of_cell? w _ (hc 0 x rfl)
theorem Strs.later {S:Nat→Prop}{w w':World}{v:Value}{l:List ByteArray}(h:Strs S w v l)(hb:Below w.heap.size w w'):Strs S w' v l :=
 h.bounded.carry fun b hb'=>⟨hb'.1,hb.block b hb'.2⟩
theorem Strs.shape {S:Nat→Prop}{w:World}{v:Value}{l:List ByteArray}(h:Strs S w v l):∃ a c,v=.slice a l.length c∧l.length≤c∧c≤maxLen:=by
 obtain ⟨a,cap,h1,h2,h3,_⟩:=h;exact ⟨a,cap,h1,h2,h3⟩
theorem Strs.at {S:Nat→Prop}{w:World}{v:Value}{l:List ByteArray}(h:Strs S w v l){i:Nat}{x:ByteArray}(hx:l[i]?=some x):∃ b o cap,v=.slice (some ⟨b,o,none⟩) l.length cap∧S b∧b<w.heap.size∧w.cell? ⟨b,o+i,none⟩=some (.string x):=by
 obtain ⟨a,cap,h1,h2,h3,h4⟩:=h;have hne:l≠[]:=by intro e;subst e;simp at hx
 obtain ⟨b,o,rfl,hs,hc⟩:=h4 hne;exact ⟨b,o,cap,h1,hs,World.block_lt_of_cell? w _ (hc i x hx),hc i x hx⟩
theorem Strs.nil {S:Nat→Prop}{w:World}:Strs S w (.slice none 0 0) []:=⟨none,0,rfl,nR9 _,nZ9 _,fun h=>absurd rfl h⟩
section
attribute [local go_sem] qd
def j9 (acc:List Opn)(p:List Opn × Int):List Opn × Int:=if p.2≠0 then ([],p.2) else (acc++p.1,0)
theorem qcw (ns:List Nd):∀ l:List ByteArray,(qK ns l).2≠0→(qK ns l).1=[]:=by
 intro l h;cases l with
 | nil=>rfl
 | cons s r =>
   unfold qK at h ⊢
   split
   · rfl
   · split
     · rfl
     · split
       · rfl
       · split
         · rfl
         · rename_i h1 h2 h3 h4
           rw[if_neg h1,if_neg h2,if_neg h3,if_neg h4]at h
           exact absurd rfl h
theorem qbI (ns:List Nd)(l:List ByteArray):j9 [] (qK ns l)=qK ns l:=by
 unfold j9
 split
 · rename_i h
   exact Prod.ext (qcw ns l h).symm rfl
 · rename_i h
   exact Prod.ext (by simp) (by simpa using (Classical.not_not.1 h).symm)
theorem qau (a b:List Opn)(p:List Opn × Int):j9 a (j9 b p)=j9 (a++b) p:=by
 unfold j9
 by_cases h:p.2≠0
 · rw[if_pos h,if_pos h,if_pos h]
 · rw[if_neg h,if_neg h,if_neg (by simp),List.append_assoc]
theorem qbr {ns:List Nd}{s:ByteArray}{r:List ByteArray}(h1:(qS s.data.toList).2.2=0)(h2:Zd ns (qS s.data.toList).2.1=0)(h3:xZ ns (qS s.data.toList).2.1≠[]):qK ns (s::r)=j9 (ZX (qS s.data.toList).1 (xZ ns (qS s.data.toList).2.1)) (qK ns r):=by
 rw[qK,if_neg (by simpa using h1),if_neg (by simpa using h2),if_neg h3]
 rfl
structure ChI (w:World) (ns:List Nd) (vd:Value) (ls:List ByteArray) (k:Nat) (v:Value) (wr:World):Prop where
 below:Below w.heap.size w wr
 box:wr.heap[w.heap.size]?=some (.cells #[vd] 39 (0,0))
 rest:∃ (acc:List Opn) (rs:List Orw),wr.ownsRow (w.heap.size+1) 85 5 v acc.length (qB rs)∧rs.length=acc.length ∧
  (∀ (i:Nat) r x,rs[i]?=some r→acc[i]?=some x→YN (fun b=>w.heap.size+1≤b∧b<wr.heap.size∧v.ownBlock≠some b) wr 2501 r x)∧acc.length≤80*k∧qK ns ls=j9 acc (qK ns (ls.drop k))
theorem qcq {T:Nat→Prop}{w:World}{n:Nat}{o:Opn}{ca:Option Addr}{cc:Nat}(l:List Int)(hT:qb T w n (.slice ca o.content.length cc) o.content):∀ (i:Nat) r x,(xj o ca cc l)[i]?=some r→(ZX o l)[i]?=some x→YN T w n r x:=by
 intro i r x hr hx;unfold xj at hr
 unfold ZX at hx
 rw[List.getElem?_map]at hr hx
 cases hl:l[i]? with
 | none=>rw[hl]at hr;simp at hr
 | some t =>
   rw[hl]at hr hx
   simp only[Option.map_some,Option.some.injEq]at hr hx
   subst hr hx;exact ⟨rfl,rfl,rfl,rfl,ca,cc,rfl,hT⟩
theorem YN.carry {T T':Nat→Prop}{w w':World}{n:Nat}{r:Orw}{x:Opn}(h:YN T w n r x)(hw:∀ b,T b→T' b∧w'.heap[b]?=w.heap[b]?):YN T' w' n r x:=by
 obtain ⟨e1,e2,e3,e4,ca,cc,e5,hT⟩:=h;exact ⟨e1,e2,e3,e4,ca,cc,e5,qb.carry hw n hT⟩
set_option maxHeartbeats 2000000 in
theorem XG (S:Nat→Prop)(vd vl:Value)(ns:List Nd)(ls:List ByteArray)(w:World)(hD:ZI S w vd ns)(hL:Strs S w vl ls)(hE:jd w)(h6:ls.length≤6)(hT:∀ s∈ls,s.size≤maxLen) :
 Calls Tryz.prog 21 #[.agg #[vd],vl] w fun e w'=>∃ v,e=.returned (.tuple #[v,.int .i64 (qK ns ls).2])∧Ops (fun b=>w.heap.size≤b) w' 2501 v (qK ns ls).1∧Below w.heap.size w w':=by
 obtain ⟨la,lc,rfl,hll,hlc⟩:=hL.shape;obtain ⟨na,nc,rfl,hnl,hnc⟩:=hD.nodes.shape;obtain ⟨i0,hi,hz0,hz1,hz2⟩:=info_parts opInfo;have HD:Hid _:=hD;have HL:Hid (Strs S w (.slice la ls.length lc) ls):=hL;have HT:Hid _:=hT;have HEV:Hid (∀ W,Below w.heap.size w W→jd W):=fun W hW=>hE.later hW
 have HI0:Hid (ChI w ns (.slice na ns.length nc) ls 0 (.slice none 0 0) (w.alloc (.cells #[.slice na ns.length nc] 39))):=⟨Below.alloc1 w _,heap_alloc_new w _,[],[],World.ownsRow_nil _ _ _ _,rfl,by intro i r x hr;simp at hr,nR9 _,by rw[List.drop_zero,qbI]⟩
 unfold maxLen at hlc hnc
 clear hD hL hE hT;have noOps:∀ W:World,Ops (fun b=>w.heap.size≤b) W 2501 (.slice none 0 0) []:=fun W=>⟨none,0,rfl,nR9 _,nZ9 _,fun h=>absurd rfl h⟩
 have HNO:Hid _:=noOps;clear noOps
 go_enter Tryz.func21,Tryz.ntmps21
 go_wp2_with fail
 go_loopg [15,6] ls.length (fun g i u wr=>∃ (k:Nat) (v:Value),k+g=ls.length∧i=.int .i64 k∧v=u∧ChI w ns (.slice na ns.length nc) ls k v wr)
 case atStart => exact ⟨0,_,by omega,rfl,rfl,HI0.out⟩
 case round =>
  clear HI0;obtain ⟨k,v,hk,rfl,hvu,hA⟩:=hrel;subst hvu;have HB:Hid _:=hA.below;have HBX:Hid _:=hA.box;obtain ⟨acc,rs,hrow,hrl,hraw,hal,hst⟩:=hA.rest;have HRW:Hid _:=hrow;have HRR:Hid _:=hraw;have HST:Hid _:=hst;clear hrow hraw hst hA
  by_cases hlt:k<ls.length
  · have hlti : (k : Int) < (ls.length : Int) := by omega
    obtain ⟨s,hs⟩:∃ s,ls[k]?=some s:=⟨ls[k],by simp[hlt]⟩
    have hdr:ls.drop k=s::ls.drop (k+1):=by
     rw[List.drop_eq_getElem_cons hlt];congr 1;simpa[hlt] using hs
    rw[hdr]at HST
    obtain ⟨b1,o1,c1,hv1,_,_,e1⟩:=(Strs.later HL.out HB.out).at hs
    injection hv1 with hv1 hv1l hv1c
    subst hv1 hv1c;clear hv1l;have hsz:=HT.out s (List.mem_of_getElem? hs)
    have HLN:Hid (Calls Tryz.prog 29 #[.string s] wr fun e w'=>xL s.data.toList wr e w'):=by
     have:=qbP s.data.toList wr (HEV.out wr HB.out) (by rw[yG];unfold maxLen at hsz;omega)
     rw[Z5]at this
     exact this
    clear hs hdr hsz;go_wp2_with fail;refine Calls.mono HLN.out ?_;rintro e w1 ⟨a1,cc1,vs1,rfl,htg,hT1,hS1,hb1⟩;obtain ⟨sa,sc,rfl,_,_⟩:=hS1.shape;have HNM:Hid _:=K8 s.data.toList;obtain ⟨Q,hQ⟩:∃ Q,qS s.data.toList=Q:=⟨_,rfl⟩
    have HCC:Hid (Q.2.2=0→Zd ns Q.2.1=0→xZ ns Q.2.1≠[]→qK ns (s::ls.drop (k+1))=j9 (ZX Q.1 (xZ ns Q.2.1)) (qK ns (ls.drop (k+1)))):=by
     rw[←hQ];exact qbr
    have HC1:Hid (Q.2.2≠0→qK ns ls=([],Q.2.2)):=by
     intro h;rw[HST.out,qK,hQ,if_pos h];unfold j9;rw[if_pos h]
    have HC2:Hid (Q.2.2=0→Zd ns Q.2.1≠0→qK ns ls=([],Zd ns Q.2.1)):=by
     intro h h2;rw[HST.out,qK,hQ,if_neg (by simpa using h),if_pos h2];unfold j9;rw[if_pos h2]
    have HC3:Hid (Q.2.2=0→Zd ns Q.2.1=0→xZ ns Q.2.1=[]→qK ns ls=([],3)):=by
     intro h h2 h3;rw[HST.out,qK,hQ,if_neg (by simpa using h),if_neg (by simpa using h2),if_pos h3];unfold j9;rw[if_pos (by decide)]
    rw[hQ]at htg hT1 hS1 HNM ⊢
    clear hQ HLN;obtain ⟨o,st,le⟩:=Q;simp only at htg hT1 hS1 HNM HCC HC1 HC2 HC3 ⊢
    have hb2:=Below.alloc1 w1 (.cells #[.int .i64 o.kind,.int .i64 0,.slice a1 o.content.length cc1,.string o.name,.string o.s] 85);have hb12:=hb1.trans (hb2.mono hb1.size);have HO2:Hid _:=heap_alloc_new w1 (.cells #[.int .i64 o.kind,.int .i64 0,.slice a1 o.content.length cc1,.string o.name,.string o.s] 85);have HT1:Hid (qb (fun b=>wr.heap.size≤b∧b<w1.heap.size) (w1.alloc (.cells #[.int .i64 o.kind,.int .i64 0,.slice a1 o.content.length cc1,.string o.name,.string o.s] 85)) 2501 (.slice a1 o.content.length cc1) o.content):=qb.carry (fun b hb=>⟨hb,hb2.block b hb.2⟩) _ (qb.bounded _ hT1)
    have HT2:Hid True:=trivial;have HOV:Hid (∀ z,v.ownBlock=some z→w.heap.size+1≤z∧z<wr.heap.size):=fun z hz=>World.ownsRow.lt HRW.out z hz
    have HS2:Hid _:=zH.later hS1 hb2;have hB2:=HB.out.trans (hb12.mono HB.out.size);have HBX2:Hid _:=(hb12.block _ (qh HBX.out)).trans HBX.out;have HRW2:Hid _:=qn HRW.out hb12;have x2:(w1.alloc (.cells #[.int .i64 o.kind,.int .i64 0,.slice a1 o.content.length cc1,.string o.name,.string o.s] 85)).cell? ⟨w.heap.size,0,none⟩=some (.slice na ns.length nc):=by rw[cH9 HBX2.out];rfl
    have hs12:wr.heap.size≤(w1.alloc (.cells #[.int .i64 o.kind,.int .i64 0,.slice a1 o.content.length cc1,.string o.name,.string o.s] 85)).heap.size:=hb12.size;have HB12:Hid _:=hb12;have hw1:wr.heap.size≤w1.heap.size:=hb1.size;have hw12:w1.heap.size≤(w1.alloc (.cells #[.int .i64 o.kind,.int .i64 0,.slice a1 o.content.length cc1,.string o.name,.string o.s] 85)).heap.size:=hb2.size;have hwr0:w.heap.size<wr.heap.size:=qh HBX.out;clear hT1 hS1 hb1 hb2 HBX HRW e1 hb12
    by_cases hle:le=0
    case neg =>
     have hleb:(le==0)=false:=by simpa using hle
     have HE:Hid _:=HC1.out hle;clear HC1 HC2 HC3 HCC hle;go_wp2_with fail
     go_ret2
     exact ⟨.slice none 0 0,by rw[HE.out];rfl,by rw[HE.out];exact HNO.out _,hB2⟩
    case pos =>
     subst hle;have HSL:Hid _:=Vp (fun b=>b<(w1.alloc (.cells #[.int .i64 o.kind,.int .i64 0,.slice a1 o.content.length cc1,.string o.name,.string o.s] 85)).heap.size) _ _ ns st _ ⟨(HD.out.later hB2).nodes.carry fun b hb=>⟨(HD.out.later hB2).here b hb,rfl⟩,fun b hb=>hb,HD.out.few,HD.out.short⟩ ((zH.bounded HS2.out).carry fun b hb=>⟨hb.2,rfl⟩) HNM.out
     go_wp2_with fail
     generalize w1.alloc (.cells #[.int .i64 o.kind,.int .i64 0,.slice a1 o.content.length cc1,.string o.name,.string o.s] 85)=W2 at *
     refine Calls.mono HSL.out ?_;rintro e w3 ⟨v3,rfl,hI3,hb3⟩;obtain ⟨ia,ic,rfl,_,hic⟩:=hI3.shape;have HI3:Hid _:=hI3;have hB3:=hB2.trans (hb3.mono hB2.size);have HO3:Hid _:=(hb3.block _ (qh HO2.out)).trans HO2.out;have hsl:(xZ ns st).length≤80:=qdf;obtain ⟨E,hE⟩:∃ E,Zd ns st=E:=⟨_,rfl⟩;obtain ⟨D,hD⟩:∃ D,xZ ns st=D:=⟨_,rfl⟩;rw[hE]at HCC HC2 HC3 ⊢
     rw[hD]at HCC HC3 HI3 hsl ⊢
     clear hE hD HSL hI3
     by_cases hE0:E=0
     case neg =>
      have hEb:(E==0)=false:=by simpa using hE0
      have HE:Hid _:=HC2.out (by trivial) hE0
      clear HC1 HC2 HC3 HCC hE0;go_wp2_with fail
      go_ret2
      exact ⟨.slice none 0 0,by rw[HE.out];rfl,by rw[HE.out];exact HNO.out _,hB3⟩
     case pos =>
      subst hE0
      by_cases hD0:D=[]
      · have HE : Hid _ := HC3.out (by trivial) (by trivial) hD0
        subst hD0;clear HC1 HC2 HC3 HCC;go_wp2_with fail
        go_ret2
        exact ⟨.slice none 0 0,by rw[HE.out];rfl,by rw[HE.out];exact HNO.out _,hB3⟩
      · have hDl : 0 < D.length := List.length_pos_iff.2 hD0;have hDb:((D.length:Int)==0)=false:=beq_eq_false_iff_ne.2 (by omega)
        have HE:Hid _:=HCC.out (by trivial) (by trivial) hD0
        have z0:w3.cell? ⟨w1.heap.size,0,none⟩=some (.int .i64 o.kind):=by rw[cH9 HO3.out];rfl
        have z1:w3.cell? ⟨w1.heap.size,1,none⟩=some (.int .i64 0):=by rw[cH9 HO3.out];rfl
        have z2:w3.cell? ⟨w1.heap.size,2,none⟩=some (.slice a1 o.content.length cc1):=by rw[cH9 HO3.out];rfl
        have z3:w3.cell? ⟨w1.heap.size,3,none⟩=some (.string o.name):=by rw[cH9 HO3.out];rfl
        have z4:w3.cell? ⟨w1.heap.size,4,none⟩=some (.string o.s):=by rw[cH9 HO3.out];rfl
        have HAM:Hid (Calls Tryz.prog 31 #[.agg #[.int .i64 o.kind,.int .i64 0,.slice a1 o.content.length cc1,.string o.name,.string o.s],.slice ia D.length ic] w3 fun e w'=>∃ v,e=.returned v∧w'.ownsRow w3.heap.size 85 5 v D.length (qB (xj o a1 cc1 D))∧Below w3.heap.size w3 w'):=by
         have:=V9 _ o a1 cc1 _ D w3 HI3.out (by omega)
         rw[htg]at this
         exact this
        clear HC1 HC2 HC3 HCC;go_wp2_with fail;refine Calls.mono HAM.out ?_;rintro e w4 ⟨v4,rfl,hw4,hb4⟩;have hB4:=hB3.trans (hb4.mono hB3.size)
        obtain ⟨g4,cap4,rfl,hg4a,hg4b⟩:∃ g cap,v4=.slice (some ⟨g,0,none⟩) D.length cap∧w3.heap.size≤g∧g<w4.heap.size:=by
         rcases hw4.2 with ⟨_,h0⟩|⟨g,cap,cur,rfl,hg,hh,hc,hm,hs,ht⟩
         · omega
         · exact ⟨g,cap,rfl,hg,qh hh⟩
        have hb24:=hb3.trans (hb4.mono hb3.size);have HRW4:Hid _:=qn HRW2.out hb24;have HBX4:Hid _:=(hb24.block _ (qh HBX2.out)).trans HBX2.out;have hcl:=zD (xj o a1 cc1 D);have hal2:(xj o a1 cc1 D).length=D.length:=List.length_map _
        have HCE:Hid (∀ j u,(qB (xj o a1 cc1 D))[j]?=some u→w4.cell? ((⟨g4,0,none⟩:Addr).add j)=some u):=by
         intro j u hj;have hjl:=qe hj;rw[Addr.add_lit,Nat.zero_add,World.ownsRow.cellAt hw4 j (by omega)]
         exact hj
        have H1C:Hid (∀ u∈qB (xj o a1 cc1 D),u.oneCell'=true):=by
         intro u hu;obtain ⟨r,hr,hu⟩:=List.mem_flatMap.1 hu;exact Yc r u hu
        have HRAW:Hid (∀ (i:Nat) r x,(rs++xj o a1 cc1 D)[i]?=some r→(acc++ZX o D)[i]?=some x→YN (fun b=>(w.heap.size+1≤b∧b<wr.heap.size∧v.ownBlock≠some b)∨(wr.heap.size≤b∧b<w1.heap.size)) w4 2501 r x):=by
         have hbr4:Below wr.heap.size wr w4:=HB12.out.trans (hb24.mono hs12);intro i r x hr hx
         by_cases hil:i<rs.length
         · rw[List.getElem?_append_left hil]at hr
           rw[List.getElem?_append_left (by omega)]at hx
           exact (HRR.out i r x hr hx).carry fun b hb=>⟨Or.inl hb,hbr4.block b hb.2.1⟩
         · rw[List.getElem?_append_right (by omega)]at hr
           rw[List.getElem?_append_right (by omega),←hrl]at hx
           refine (qcq (T:=fun b=>wr.heap.size≤b∧b<w1.heap.size) D ?_ _ r x hr hx).carry (fun b hb=>⟨Or.inr hb,rfl⟩)
           exact qb.carry (fun b hb=>⟨hb,hb24.block b (by have:=hb.2;omega)⟩) _ HT1.out
        have hszA:w.heap.size+1≤w4.heap.size:=by have:=qh HBX4.out;omega
        have hov:∀ z,v.ownBlock=some z→w.heap.size+1≤z∧z<wr.heap.size:=fun z hz=>HOV.out z hz
        have HOV4:Hid _:=hov;have hsz14:w1.heap.size≤w4.heap.size:=Nat.le_trans hw12 hb24.size;have hszr4:wr.heap.size≤w4.heap.size:=by omega
        clear hw4 hb4 hb3 hb24 HRW2 HBX2 HO2 HO3 HT2 HS2 HI3 HAM z0 z1 z2 z3 z4 hov HNM x2;go_wp2_with (at_builtin;refine wpList_append_own_at _ rfl _ _ 67 rfl (w.heap.size+1) 85 i0 _ 5 72 Tryz.underlying67 hi hz0 hz1 hz2 rfl (by decide) v acc.length (qB rs) rfl ?qc0 ⟨g4,0,none⟩ D.length cap4 (qB (xj o a1 cc1 D)) rfl ?qc1 ?qc2 ?qc3 ?qc4 ?qc5 ?qc6 ?_)
        case qc0 => exact HRW4.out
        case qc1 => omega
        case qc2 => exact HCE.out
        case qc3 => exact H1C.out
        case qc4 => unfold maxLen;omega
        case qc5 => omega
        case qc6 => exact hszA
        intro v5 W5 hown hgr _ hob
        have HI5:Hid (ChI w ns (.slice na ns.length nc) ls (k+1) v5 W5):=by
         have hB5:Below (w.heap.size+1) w4 W5:=(Below.refl _ _).grown hgr hszA (fun z hz=>(HOV4.out z hz).1)
         refine ⟨hB4.trans (hB5.mono (by omega)),(hB5.block _ (by omega)).trans HBX4.out,acc++ZX o D,rs++xj o a1 cc1 D,?_,?_,?_,?_,?_⟩
         · have : qB (rs ++ xj o a1 cc1 D) = qB rs ++ qB (xj o a1 cc1 D) := List.flatMap_append;rw[this,List.length_append,show (ZX o D).length=D.length from List.length_map _]
           exact hown
         · rw[List.length_append,List.length_append,hrl,hal2,show (ZX o D).length=D.length from List.length_map _]
         · intro i r x hr hx;refine (HRAW.out i r x hr hx).carry fun b hb=>?_
           have hbl:b<w4.heap.size:=by rcases hb with hb|hb<;>omega
           have hne:v.ownBlock≠some b:=by
            rcases hb with hb|hb
            · exact hb.2.2
            · intro he;have:=(HOV4.out b he).2;omega
           refine ⟨⟨by rcases hb with hb|hb;exact hb.1;have:=hB2.size;omega,Nat.lt_of_lt_of_le hbl hgr.size,?_⟩,hgr.block b hbl (fun e=>hne e.symm)⟩
           rcases hob with h|h
           · rw[h];exact hne
           · rw[h];intro e;injection e with e;omega
         · rw[List.length_append,show (ZX o D).length=D.length from List.length_map _];omega
         · rw[HST.out,HE.out,qau]
        clear hown hgr hob HRAW HCE H1C HRW4 HBX4 HE HST HOV4;go_wp2_with fail
        go_roundg (ls.length-(k+1))
        case measure => omega
        case rel => exact ⟨k+1,v5,by omega,by go_num,rfl,HI5.out⟩
  · have hlti : ¬ ((k : Int) < (ls.length : Int)) := by omega
    have hkk:k=ls.length:=by omega
    subst hkk
    have HE:Hid (qK ns ls=(acc,0)):=by
     show _=_
     rw[HST.out,List.drop_length];unfold j9 qK;simp
    go_wp2_with fail
    go_ret2
    refine ⟨v,by rw[HE.out];rfl,?_,HB.out⟩
    rw[HE.out];obtain ⟨a',c',h1,h2,h3,h4⟩:=Ke HRW.out hrl HRR.out;refine ⟨a',c',h1,h2,h3,fun hne=>?_⟩
    obtain ⟨b',o',q1,q2,q3⟩:=h4 hne;refine ⟨b',o',q1,?_,fun i x hx=>?_⟩
    · have := (World.ownsRow.lt HRW.out b' q2).1;omega
    · obtain ⟨ca', cc', d0, d1, d2, d3, d4, dT⟩ := q3 i x hx;exact ⟨ca',cc',d0,d1,d2,d3,d4,qb.carry (fun b hb=>⟨by have:=hb.1;omega,rfl⟩) _ dT⟩
end
section
attribute [local go_sem] qd
structure Sto (S:Nat→Prop) (w:World) (sb:Nat) (ns:List Nd) (n:Nat):Prop where
 here:∀ b,S b→b<w.heap.size∧b≠sb
 good:qt ns=true
 box:∃ a c,w.heap[sb]?=some (.cells #[.slice a ns.length c,.int .i64 (n:Int)] 48 (0,0))∧qv S w (.slice a ns.length c) ns∧c≤maxLen
theorem XS {ns:List Nd}(hg:qt ns=true):(∀ x∈ns,x.attrs.length≤4398046511104)∧jW ns:=by
 refine ⟨fun x hx=>Nat.le_trans ((j4 hg).2 x hx).2 (by omega),fun x hx=>⟨Nat.le_trans (Yk hg x hx) (by unfold maxLen;omega),fun y hy=>?_⟩⟩
 obtain ⟨n,hn⟩:=List.mem_iff_getElem?.1 hx;obtain ⟨d,T,u,fs,hz⟩:=ZT hg (qe hn);obtain ⟨x',hx',e1,_,e3⟩:=hz.get;rw[hn]at hx'
 obtain rfl:=Option.some.inj hx';rw[e3]at hy
 have hr:=hz.right;cases ht:u.text with
 | true =>
   unfold qw at hr
   rw[ht]at hr
   simp at hr
   rw[hr.1.2]at hy
   cases hy
 | false =>
   have hA:=(jg hr ht).2;have key:=(Qz hA).2 y hy;exact ⟨Nat.le_trans (Q2 key.1) (by unfold maxLen;omega),Nat.le_trans (Zb key.2) (by unfold maxLen;omega)⟩
theorem Sto.doc {S:Nat→Prop}{w:World}{sb n:Nat}{ns:List Nd}(h:Sto S w sb ns n){a:Option Addr}{c:Nat}(hN:qv S w (.slice a ns.length c) ns):ZI S w (.slice a ns.length c) ns :=
 ⟨hN,fun b hb=>(h.here b hb).1,(XS h.good).1,(XS h.good).2⟩
theorem Sto.keep {S:Nat→Prop}{w w':World}{sb n:Nat}{ns:List Nd}(h:Sto S w sb ns n)(hs:w.heap.size≤w'.heap.size)(hb:∀ b,S b∨b=sb→w'.heap[b]?=w.heap[b]?):Sto S w' sb ns n:=by
 obtain ⟨a,c,h1,h2,h3⟩:=h.box;exact ⟨fun b hb=>⟨Nat.lt_of_lt_of_le (h.here b hb).1 hs,(h.here b hb).2⟩,h.good,a,c,(hb sb (Or.inr rfl)).trans h1,h2.carry fun b hb'=>⟨hb',hb b (Or.inl hb')⟩,h3⟩
theorem Sto.later {S:Nat→Prop}{w w':World}{sb n:Nat}{ns:List Nd}(h:Sto S w sb ns n)(hb:Below w.heap.size w w'):Sto S w' sb ns n:=by
 obtain ⟨a,c,h1,_⟩:=h.box;refine h.keep hb.size fun b hb'=>hb.block b ?_
 rcases hb' with hb'|rfl
 · exact (h.here b hb').1
 · exact qh h1
structure DcI (w:World) (v:Value) (ns:List Nd) (i:Nat) (ms:List Rw) (wr:World):Prop where
 below:Below w.heap.size w wr
 res:wr.heap[w.heap.size]?=some (.cells #[.slice none 0 0] 39 (0,0))
 len:ms.length=ns.length
 row:wr.ownsRow (w.heap.size+1) 55 5 v ns.length (rawCells ms)
 each:∀ (j:Nat) r x,ms[j]?=some r→ns[j]?=some x→(j<i→j3 (fun b=>w.heap.size+1≤b∧b<wr.heap.size∧v.ownBlock≠some b) wr r x)∧(i≤j→j3 (fun b=>b<w.heap.size) wr r x)
theorem qaG {B:Nat}{T:Nat→Prop}{w:World}{v:Value}{ns:List Nd}{ms:List Rw}(h:w.ownsRow B 55 5 v ns.length (rawCells ms))(hl:ms.length=ns.length)(hr:∀ (j:Nat) r x,ms[j]?=some r→ns[j]?=some x→j3 T w r x)(hT:∀ b,T b→B≤b):qv (fun b=>B≤b) w v ns:=by
 have h0:=h
 rcases h.2 with ⟨rfl,hz⟩|⟨g,cap,cur,rfl,hB,hg,hc,hm,hs,ht⟩
 · have : ns = [] := List.eq_nil_of_length_eq_zero hz;subst this;exact ⟨none,0,rfl,nR9 _,nZ9 _,fun hne=>absurd rfl hne⟩
 · refine ⟨_, cap, rfl, hc, hm, fun _ => ⟨g, 0, rfl, hB, fun i x hx => ?_⟩⟩
   have hi:=qe hx;obtain ⟨r,hri⟩:∃ r,ms[i]?=some r:=⟨ms[i]'(by omega),List.getElem?_eq_getElem (by omega)⟩
   obtain ⟨e1,e2,e3,hA,hK⟩:=hr i r x hri hx;obtain ⟨g0,g1,g2,g3,g4⟩:=zv ms i r hri
   have cell:∀ c,c<5→w.cell? ⟨g,0+i*5+c,none⟩=(rawCells ms)[i*5+c]?:=fun c hc=>by
    rw[Nat.zero_add];exact World.ownsRow.cellAt h0 (i*5+c) (by omega)
   refine ⟨r.va,r.vk,?_,?_,?_,?_,?_,hA.carry fun b hb=>⟨hT b hb,rfl⟩,hK.carry fun b hb=>⟨hT b hb,rfl⟩⟩
   · rw[←e1,←g0];exact cell 0 (by omega)
   · rw[←e2,←g1];exact cell 1 (by omega)
   · rw[←g2];exact cell 2 (by omega)
   · rw[←e3,←g3];exact cell 3 (by omega)
   · rw[←g4];exact cell 4 (by omega)
theorem yt.attrsIn {B:Nat}{w:World}{v:Value}{l:List (ByteArray × ByteArray)}(h:yt B w v l):qk (fun b=>B≤b∧b<w.heap.size) w v l:=by
 rcases id h.2 with ⟨hv,h0⟩|⟨g,cap,cur,hv,hB,hh,hc,hm,_⟩
 · have : l = [] := List.eq_nil_of_length_eq_zero h0;subst this;exact ⟨none,0,hv,nR9 _,nZ9 _,fun hne=>absurd rfl hne⟩
 · have hrow := h;unfold yt at hrow
   subst hv;refine ⟨_,cap,rfl,hc,hm,fun _=>⟨g,0,rfl,⟨hB,qh hh⟩,fun i x hx=>?_⟩⟩
   have hi:=qe hx;obtain ⟨g0,g1⟩:=zU l i x hx;exact ⟨by rw[Nat.zero_add,World.ownsRow.cellAt hrow (i*2) (by omega),g0],by rw[Nat.zero_add,World.ownsRow.cellAt hrow (i*2+1) (by omega),g1]⟩
theorem DcI.step {w:World}{g cap:Nat}{ns:List Nd}{i:Nat}{ms:List Rw}{W Wa Wc:World}{va vk:Value}{r:Rw}{x:Nd}(h:DcI w (.slice (some ⟨g,0,none⟩) ns.length cap) ns i ms W)(hr:ms[i]?=some r)(hx:ns[i]?=some x)
 (hA:yt W.heap.size Wa va x.attrs) (ha:Below W.heap.size W Wa) (hK:qE Wa.heap.size Wc vk x.kids) (hc:Below Wa.heap.size (Wa.setCell ⟨g,i*5+2,none⟩ va) Wc) (he:r.text=x.text∧r.s=x.s∧r.par=x.parent) :
 DcI w (.slice (some ⟨g,0,none⟩) ns.length cap) ns (i+1) (ms.set i { r with va:=va,vk:=vk }) (Wc.setCell ⟨g,i*5+4,none⟩ vk):=by
 obtain ⟨hgB,hgl⟩:=h.row.lt g rfl;have hwl:=qh h.res;have hsa:=ha.size;have hsc:=hc.size;have hss:(Wa.setCell ⟨g,i*5+2,none⟩ va).heap.size=Wa.heap.size:=by simp
 have hsd:(Wc.setCell ⟨g,i*5+4,none⟩ vk).heap.size=Wc.heap.size:=by simp
 have him:i<ms.length:=qe hr
 have old:∀ b,b<W.heap.size→b≠g→(Wc.setCell ⟨g,i*5+4,none⟩ vk).heap[b]?=W.heap[b]?:=fun b hb hne=>by
  rw[qa hne,hc.block b (by omega),qa hne,ha.block b hb]
 have rowa:Wa.ownsRow (w.heap.size+1) 55 5 (.slice (some ⟨g,0,none⟩) ns.length cap) ns.length (rawCells ms):=qn h.row ha;have rowb:=(rowa.stored (i*5+2) va).1
 have rowc:Wc.ownsRow (w.heap.size+1) 55 5 (.slice (some ⟨g,0,none⟩) ns.length cap) ns.length ((rawCells ms).set (i*5+2) va):=qj rowb (fun b hb=>by
  have:g=b:=by injection hb
  subst this;exact hc.block g (by omega))
 have rowd:=(rowc.stored (i*5+4) vk).1
 have ecell:((rawCells ms).set (i*5+2) va).set (i*5+4) vk=rawCells (ms.set i { r with va:=va,vk:=vk }):=by
  have e1:=jZ ms i r va hr;have hr2:(ms.set i { r with va:=va })[i]?=some { r with va:=va }:=List.getElem?_set_self him
  have e2:=yy (ms.set i { r with va:=va }) i { r with va:=va } vk hr2
  rw[←e1,←e2,List.set_set]
 rw[ecell]at rowd
 have hBd:Below w.heap.size w (Wc.setCell ⟨g,i*5+4,none⟩ vk):=by
  have s1:Below w.heap.size w Wa:=h.below.trans (ha.mono h.below.size);have s2:=s1.setCell (p:=⟨g,i*5+2,none⟩) (by show w.heap.size≤g;omega) va
  have s3:=s2.trans (hc.mono (Nat.le_trans h.below.size hsa));exact s3.setCell (p:=⟨g,i*5+4,none⟩) (by show w.heap.size≤g;omega) vk
 have hob:∀ b,(Value.slice (some ⟨g,0,none⟩) ns.length cap).ownBlock≠some b→b≠g:=fun b hb e=>hb (by rw[e];rfl)
 have hbo:∀ b,b≠g→(Value.slice (some ⟨g,0,none⟩) ns.length cap).ownBlock≠some b:=fun b hb e=>hb (by injection e with e;exact e.symm)
 refine ⟨hBd,(old _ hwl (by omega)).trans h.res,by rw[List.length_set];exact h.len,rowd,fun j q y hq hy=>?_⟩
 by_cases hji:j=i
 · subst hji;rw[List.getElem?_set_self him]at hq
   obtain rfl:=Option.some.inj hq;rw[hx]at hy
   obtain rfl:=Option.some.inj hy;refine ⟨fun _=>⟨he.1,he.2.1,he.2.2,?_,?_⟩,fun hh=>by omega⟩
   · refine (yt.attrsIn hA).carry fun b hb => ?_
     have hne:b≠g:=by omega
     exact ⟨⟨by omega,by omega,hbo b hne⟩,by rw[qa hne,hc.block b hb.2,qa hne]⟩
   · refine (qE.ints hK).bounded.carry fun b hb => ?_
     have hne:b≠g:=by omega
     exact ⟨⟨by omega,by omega,hbo b hne⟩,qa hne⟩
 · rw[List.getElem?_set_ne (fun e => hji e.symm)]at hq
   obtain ⟨f1,f2⟩:=h.each j q y hq hy;refine ⟨fun hj=>(f1 (by omega)).carry fun b hb=>⟨⟨hb.1,by omega,hb.2.2⟩,old b hb.2.1 (hob b hb.2.2)⟩,fun hj=>(f2 (by omega)).carry fun b hb=>⟨hb,old b (by omega) (by omega)⟩⟩
set_option linter.unusedSimpArgs false in
set_option maxHeartbeats 2000000 in
theorem qcF (S:Nat→Prop)(sb n:Nat)(ns:List Nd)(w:World)(h:Sto S w sb ns n) :
 Calls Tryz.prog 8 #[.pointer (some ⟨sb,0,none⟩)] w fun e w'=>∃ v,e=.returned (.agg #[v])∧qv (fun b=>w.heap.size≤b) w' v ns∧Below w.heap.size w w':=by
 obtain ⟨a,c,hbx,hN,hcm⟩:=h.box
 have hne:ns≠[]:=by
  intro e;have hg:=h.good;rw[e]at hg
  simp only[qt,Bool.and_eq_true]at hg
  have:=QC hg.1.2;simp at this
 have hbd:=j4 h.good;have hN0:qv (fun b=>b<w.heap.size) w (.slice a ns.length c) ns:=hN.carry fun b hb=>⟨(h.here b hb).1,rfl⟩
 have hb0:=Below.alloc1 w (.cells #[.slice none 0 0] 39);have HR0:Hid _:=heap_alloc_new w (.cells #[.slice none 0 0] 39);have hsb:=qh hbx;have HX0:Hid _:=(hb0.block sb hsb).trans hbx;obtain ⟨a0,cap0,ms0,hv,ha0,hml,hraw,hcells,hone⟩:=(qv.later hN0 hb0).raw
 injection hv with hv1 _ hv2
 subst hv1 hv2;have hnl:0<ns.length:=List.length_pos_iff.2 hne;have hbl:=hbd.1;have HC:Hid _:=VI (.slice a ns.length c) a ns.length c (rawCells ms0) _ rfl ha0 (by rw[zS,hml]) (by omega) hcells hone
 have HRW:Hid _:=hraw;have HBN:Hid _:=hbd;have x0:(w.alloc (.cells #[.slice none 0 0] 39)).cell? ⟨sb,0,none⟩=some (.slice a ns.length c):=by rw[cH9 HX0.out];rfl
 clear h hraw hcells hone ha0 hN hN0 hbd
 go_enter Tryz.func8,Tryz.ntmps8
 go_wp2_with fail
 generalize w.alloc (.cells #[.slice none 0 0] 39)=W0 at *
 refine (Calls.mono HC.out ?_);rintro e w1 ⟨v1,rfl,hown,hb1⟩;obtain ⟨g,cap,rfl,hcl,hcm1⟩:=yj hown hnl;have hsz0:w.heap.size+1≤W0.heap.size:=qh HR0.out
 have HI0:Hid (DcI w (.slice (some ⟨g,0,none⟩) ns.length cap) ns 0 ms0 w1):=by
  refine ⟨hb0.trans (hb1.mono hb0.size),(hb1.block _ (qh HR0.out)).trans HR0.out,hml,Qt hown hsz0,fun j r x hr hx=>⟨fun hj=>by omega,fun _=>(HRW.out j r x hr hx).carry fun b hb=>⟨hb,hb1.block b (by omega)⟩⟩⟩
 unfold maxLen at hcm1
 clear hown HC HRW hb1 hb0 x0;go_wp2_with fail
 go_loopg [16] ns.length (fun gh vi wr=>∃ (i:Nat) (ms:List Rw),i+gh=ns.length∧vi=.int .i64 (i:Int)∧DcI w (.slice (some ⟨g,0,none⟩) ns.length cap) ns i ms wr)
 case atStart => exact ⟨0,ms0,by omega,rfl,HI0.out⟩
 case round =>
  clear HI0;obtain ⟨i,ms,hig,rfl,hN⟩:=hrel;have HN:Hid _:=hN;clear hN
  by_cases hlt:i<ns.length
  · have hlti : (i : Int) < (ns.length : Int) := by omega
    obtain ⟨x,hx⟩:∃ x,ns[i]?=some x:=⟨ns[i],by simp[hlt]⟩
    obtain ⟨r,hr⟩:∃ r,ms[i]?=some r:=⟨ms[i]'(by rw[HN.out.len];exact hlt),by simp⟩
    obtain ⟨hbk,hba⟩:=HBN.out.2 x (List.mem_of_getElem? hx);obtain ⟨e1,e2,e3,hAt,hKt⟩:=(HN.out.each i r x hr hx).2 (nR9 _);obtain ⟨_,_,h2,_,h4⟩:=zv ms i r hr;have c2:wr.cell? ⟨g,i*5+2,none⟩=some r.va:=by rw[World.ownsRow.cellAt HN.out.row (i*5+2) (by omega)];exact h2
    obtain ⟨cur,hcur,_,_,_,_⟩:=yM HN.out.row;obtain ⟨aa,ac,hva⟩:∃ a c,r.va=.slice a x.attrs.length c:=by obtain ⟨a,c,e,_⟩:=hAt;exact ⟨a,c,e⟩
    obtain ⟨ka,kc,hvk⟩:∃ a c,r.vk=.slice a x.kids.length c:=by obtain ⟨a,c,e,_⟩:=hKt;exact ⟨a,c,e⟩
    have HA:Hid (Calls Tryz.prog 15 #[.slice aa x.attrs.length ac] wr fun e w'=>∃ v',e=.returned v'∧(yt wr.heap.size w' v' x.attrs∧Below wr.heap.size wr w')):=by
     have:=Z6 (fun b=>b<w.heap.size) r.va x.attrs wr hAt (by omega)
     rw[hva]at this
     exact this
    have hgl:=HN.out.row.lt g rfl;rw[hva]at c2
    have HCUR:Hid _:=hcur;have HVK:Hid _:=hvk;have HKT:Hid _:=hKt;have HR:Hid _:=hr;have HXX:Hid _:=hx;have HEE:Hid (r.text=x.text∧r.s=x.s∧r.par=x.parent):=⟨e1,e2,e3⟩;have H4:Hid _:=h4;clear hAt hKt hx hr h2 h4 hcur hva hvk e1 e2 e3;go_wp2_with fail;refine Calls.mono HA.out ?_;rintro e wa ⟨va,rfl,hAr,hba'⟩;have HCA:Hid _:=(hba'.block g hgl.2).trans HCUR.out;have c2a:wa.cell? ⟨g,i*5+2,none⟩=some (.slice aa x.attrs.length ac):=(hba'.cell (p:=⟨g,i*5+2,none⟩) hgl.2).trans c2;have f2a:wa.frozen? ⟨g,i*5+2,none⟩=false:=fH9 HCA.out _;obtain ⟨va1,va2,hvs⟩:∃ a c,va=.slice a x.attrs.length c:=by obtain ⟨a,c,e,_⟩:=yt.attrsIn hAr;exact ⟨a,c,e⟩
    have HVS:Hid _:=hvs;have c4w:wr.cell? ⟨g,i*5+4,none⟩=some r.vk:=by rw[World.ownsRow.cellAt HN.out.row (i*5+4) (by omega)];exact H4.out
    rw[HVK.out]at c4w
    have c4b:(wa.setCell ⟨g,i*5+2,none⟩ (.slice va1 x.attrs.length va2)).cell? ⟨g,i*5+4,none⟩=some (.slice ka x.kids.length kc):=by
     rw[World.cell?_setCell_other _ _ _ _ (xS (by omega))]
     exact (hba'.cell (p:=⟨g,i*5+4,none⟩) hgl.2).trans c4w
    have HKC:Hid (Calls Tryz.prog 16 #[.slice ka x.kids.length kc] (wa.setCell ⟨g,i*5+2,none⟩ (.slice va1 x.attrs.length va2)) fun e w'=>∃ v',e=.returned v'∧qE wa.heap.size w' v' x.kids∧Below wa.heap.size (wa.setCell ⟨g,i*5+2,none⟩ (.slice va1 x.attrs.length va2)) w'):=by
     have:=Z7 (fun b=>b<w.heap.size) r.vk x.kids (wa.setCell ⟨g,i*5+2,none⟩ (.slice va1 x.attrs.length va2)) (qW.carry HKT.out fun b hb=>⟨hb,by rw[qa (by omega)];exact hba'.block b (by have:=HN.out.below.size;omega)⟩) (by omega)
     rw[HVK.out]at this
     simp only[World.size_setCell]at this
     exact this
    have HFB:Hid ((wa.setCell ⟨g,i*5+2,none⟩ (.slice va1 x.attrs.length va2)).frozen? ⟨g,i*5+4,none⟩=false):=by
     show _=_
     rw[World.frozen?_setCell];exact fH9 HCA.out _
    have HAR:Hid _:=hAr;have HBA:Hid _:=hba';have hgla:g<wa.heap.size:=Nat.lt_of_lt_of_le hgl.2 hba'.size;subst hvs;clear hAr hba' c4w c2 HA;go_wp2_with fail;refine Calls.mono HKC.out ?_;rintro e wc ⟨vk,rfl,hKr,hbc⟩;obtain ⟨vk1,vk2,hks⟩:∃ a c,vk=.slice a x.kids.length c:=by obtain ⟨a,c,e,_⟩:=qE.ints hKr;exact ⟨a,c,e⟩
    have c4c:wc.cell? ⟨g,i*5+4,none⟩=some (.slice ka x.kids.length kc):=(hbc.cell (p:=⟨g,i*5+4,none⟩) hgla).trans c4b
    have f4c:wc.frozen? ⟨g,i*5+4,none⟩=false:=by
     have hx':wc.heap[g]?=(wa.setCell ⟨g,i*5+2,none⟩ (.slice va1 x.attrs.length va2)).heap[g]?:=hbc.block g hgla;rw[World.frozen?_of_block (a:=⟨g,i*5+4,none⟩) hx'];exact HFB.out
    have HI2:Hid _:=HN.out.step HR.out HXX.out HAR.out HBA.out hKr hbc HEE.out;subst hks;clear hKr hbc c4b HKC HFB HAR HBA c2a f2a;go_wp2_with fail
    go_roundg (ns.length-(i+1))
    case measure => omega
    case rel => exact ⟨i+1,_,by omega,by go_num,HI2.out⟩
  · have hlti : ¬ ((i : Int) < (ns.length : Int)) := by omega
    have hii:i=ns.length:=by omega
    subst hii;have r0:wr.cell? ⟨w.heap.size,0,none⟩=some (.slice none 0 0):=by rw[cH9 HN.out.res];rfl
    have f0:wr.frozen? ⟨w.heap.size,0,none⟩=false:=fH9 HN.out.res _;go_wp2_with fail;refine bodyPost_ret (v:=.agg #[.slice (some ⟨g,0,none⟩) ns.length cap]) (by simp[results,Tryz.results8,go_sem,qd,World.cell?_setCell_other,r0]) rfl ?_
    have hN1:=qaG HN.out.row HN.out.len (fun j r x hr hx=>(HN.out.each j r x hr hx).1 (qe hx)) (fun b hb=>hb.1)
    exact ⟨_,rfl,hN1.carry fun b hb=>⟨by omega,qa (by omega)⟩,HN.out.below.setCell (p:=⟨w.heap.size,0,none⟩) (nR9 _) _⟩
end
theorem Kl {t:Tr}(h:qw t=true):ZW t:=by
 refine ⟨Nat.le_trans (QD h) (by unfold maxLen;omega),fun y hy=>?_⟩
 cases ht:t.text with
 | true =>
   unfold qw at h
   rw[ht]at h
   simp at h
   rw[h.1.2]at hy
   cases hy
 | false =>
   have key:=(Qz (jg h ht).2).2 y hy;exact ⟨Nat.le_trans (Q2 key.1) (by unfold maxLen;omega),Nat.le_trans (Zb key.2) (by unfold maxLen;omega)⟩
theorem rgt_texts:∀ {n:Nat}{ts:List Tr},(∀ N,rgt N ts=true)→TextsN n ts:=by
 intro n
 induction n with
 | zero=>intro ts _;trivial
 | succ n ih =>
   intro ts h t ht;obtain ⟨h1,_⟩:=y8 _ _ (h (n+1)) t ht;refine ⟨Kl h1,ih (fun N=>?_)⟩
   obtain ⟨h3,h4⟩:=y8 _ _ (h (N+1)) t ht;cases hx:t.text with
   | true=>rw[xf h3 hx];exact xC N
   | false=>rw[hx,Bool.false_or]at h4;exact h4
theorem Qo {l:List Tr}(h:qG l=true)(n:Nat):TextsN n l:=by
 have hd:Deep 8 l:=rb_deep 8 80 l (by simpa[qG] using h)
 have h2:=h;rw[jP hd]at h2
 simp only[Bool.and_eq_true,decide_eq_true_eq]at h2
 exact rgt_texts (rgt_all hd h2.2)
theorem Yl {t:Tr}(h:qR t=true)(n:Nat):TextsN n [t]:=by
 simp only[qR,Bool.and_eq_true]at h
 exact Qo h.2 n
theorem Kg (s:List UInt8):(∃ c:Int,(c=1∨c=2)∧(qA s).2=c)∨(qR (qA s).1=true∧(qA s).2=0):=by
 unfold qA
 split
 · exact Or.inl ⟨2,Or.inr rfl,rfl⟩
 · split
   · exact Or.inl ⟨1,Or.inl rfl,rfl⟩
   · rename_i h
     simp only[Bool.or_eq_true,not_or,Bool.not_eq_true',Bool.not_eq_false]at h
     exact Or.inr ⟨by simpa using h.2,rfl⟩
theorem KN (s:List UInt8):(qM s).2≠0∧(qM s).1=[]∨qG (qM s).1=true∧(qM s).2=0:=by
 unfold qM
 split
 · exact Or.inl ⟨by show (2:Int)≠0;decide,rfl⟩
 · split
   · exact Or.inl ⟨by show (1:Int)≠0;decide,rfl⟩
   · rename_i h
     simp only[Bool.or_eq_true,not_or,Bool.not_eq_true',Bool.not_eq_false]at h
     exact Or.inr ⟨by simpa using h.2,rfl⟩
section
attribute [local go_sem] qd
def Y1 (w:World)(b:Nat)(v0 v1 v2:Value):World:=((w.setCell ⟨b,0,none⟩ v0).setCell ⟨b,1,none⟩ v1).setCell ⟨b,2,none⟩ v2
theorem jJ {w:World}{b c:Nat}{v0 v1 v2:Value}(h:c≠b):(Y1 w b v0 v1 v2).heap[c]?=w.heap[c]?:=by
 unfold Y1;rw[qa h,qa h,qa h]
theorem zA {B b:Nat}{w0 w:World}{v0 v1 v2:Value}(h:Below B w0 w)(hb:B≤b):Below B w0 (Y1 w b v0 v1 v2):=by
 unfold Y1;exact ((h.setCell (p:=⟨b,0,none⟩) hb _).setCell (p:=⟨b,1,none⟩) hb _).setCell (p:=⟨b,2,none⟩) hb _
def ji (S:Nat→Prop)(sb:Nat)(w:World)(rep:Rep)(ns:List Nd)(n:Nat)(e:Ending)(w':World):Prop :=
 e=.returned (.agg #[.int .i64 rep.1,.int .i64 rep.2.1,.string rep.2.2])∧(∃ S':Nat→Prop,(∀ b,S' b→S b∨w.heap.size≤b)∧Sto S' w' sb ns n)∧CFr sb w w'
theorem zn {S:Nat→Prop}{sb n:Nat}{ns:List Nd}{w w':World}(rep:Rep)(h:Sto S w sb ns n)(hb:Below w.heap.size w w'):ji S sb w rep ns n (.returned (.agg #[.int .i64 rep.1,.int .i64 rep.2.1,.string rep.2.2])) w' :=
 ⟨rfl,⟨S,fun _ hb=>Or.inl hb,h.later hb⟩,CFr.later hb⟩
theorem Yb {S:Nat→Prop}{sb n:Nat}{ns ns':List Nd}{w W:World}(rep:Rep)(h:Sto S w sb ns n)(hb:Below w.heap.size w W){S':Nat→Prop}(hS':∀ b,S' b→(S b∨w.heap.size≤b)){a:Option Addr}{c:Nat}(hN:qv S' W (.slice a ns'.length c) ns')(hc:c≤maxLen)(hg:qt ns'=true){R:Nat}(hR:w.heap.size≤R){v0 v1 v2:Value}(hSR:∀ b,S' b→b≠R) :
 ji S sb w rep ns' n (.returned (.agg #[.int .i64 rep.1,.int .i64 rep.2.1,.string rep.2.2])) (Y1 (W.setCell ⟨sb,0,none⟩ (.slice a ns'.length c)) R v0 v1 v2):=by
 obtain ⟨a0,c0,hbx,_,_⟩:=h.box;have hsl:=qh hbx;have hsw:w.heap.size≤W.heap.size:=hb.size;have hbx1:W.heap[sb]?=_:=(hb.block sb hsl).trans hbx
 have hset:(W.setCell ⟨sb,0,none⟩ (.slice a ns'.length c)).heap[sb]?=some (.cells #[.slice a ns'.length c,.int .i64 (n:Int)] 48 (0,0)):=by
  simp[World.setCell,Array.getElem?_modify,hbx1]
 have hne:∀ b,S' b→b≠sb:=fun b hb'=>by
  rcases hS' b hb' with h1|h1
  · exact (h.here b h1).2
  · omega
 have hsz:(Y1 (W.setCell ⟨sb,0,none⟩ (.slice a ns'.length c)) R v0 v1 v2).heap.size=W.heap.size:=by unfold Y1;simp
 refine ⟨rfl,⟨fun b=>S' b∧b<W.heap.size,fun b hb'=>hS' b hb'.1,?_⟩,?_⟩
 · refine ⟨fun b hb' => ⟨by rw[hsz];exact hb'.2, hne b hb'.1⟩, hg, a, c, ?_, ?_, hc⟩
   · rw[jJ (by omega)];exact hset
   · exact hN.bounded.carry fun b hb'=>⟨hb',by rw[jJ (hSR b hb'.1),qa (hne b hb'.1)]⟩
 · have h1 : CFr sb w (W.setCell ⟨sb, 0, none⟩ (.slice a ns'.length c)) := (CFr.later hb).trans (CFr.put sb W 0 _);refine ⟨zA h1.below (nZ9 _),fun x hx hxs=>?_⟩
   rw[jJ (by omega)]
   exact h1.frame x hx hxs
set_option linter.unusedSimpArgs false in
set_option maxHeartbeats 2000000 in
theorem qbQ (S T:Nat→Prop)(sb n:Nat)(ns:List Nd)(vl:Value)(ls:List ByteArray)(w:World)(h:Sto S w sb ns n)(hL:Strs T w vl ls)(hE:jd w)(hz:∀ s∈ls,s.size≤maxLen) :
 Calls Tryz.prog 11 #[.pointer (some ⟨sb,0,none⟩),vl] w fun e w'=>ji S sb w (QE ls ns).1 (QE ls ns).2 n e w':=by
 obtain ⟨la,lc,rfl,hll,hlc⟩:=hL.shape;have HST:Hid _:=h;have hb0:=Below.alloc1 w (.cells #[.int .i64 0,.int .i64 0,.string ⟨#[]⟩] 29);have HR0:Hid _:=heap_alloc_new w (.cells #[.int .i64 0,.int .i64 0,.string ⟨#[]⟩] 29);have HEV:Hid (∀ W,Below w.heap.size w W→jd W):=fun W hW=>hE.later hW
 have HL:Hid (Strs T w (.slice la ls.length lc) ls):=hL;unfold maxLen at hlc
 clear h hE hL
 by_cases hl1:ls.length=1
 case neg =>
  have HS:Hid (QE ls ns=(qV 1,ns)):=by
   show _=_
   match ls,hl1 with
   | [],_=>rfl
   | [_],h=>exact absurd rfl h
   | _::_::_,_=>rfl
  have hl1b:((ls.length:Int)==1)=false:=beq_eq_false_iff_ne.2 (by omega)
  rw[HS.out];clear HEV HL
  go_enter Tryz.func11,Tryz.ntmps11
  go_wp2_with fail
  generalize w.alloc (.cells #[.int .i64 0,.int .i64 0,.string ⟨#[]⟩] 29)=W0 at *
  refine Calls.mono (zK 1 W0) ?_;rintro e wr1 ⟨rfl,hbr1⟩;have HRr:Hid _:=(hbr1.block _ (qh HR0.out)).trans HR0.out;have hBr:=hb0.trans (hbr1.mono hb0.size);have r0:wr1.cell? ⟨w.heap.size,0,none⟩=some (.int .i64 0):=by rw[cH9 HRr.out];rfl
  have r1:wr1.cell? ⟨w.heap.size,1,none⟩=some (.int .i64 0):=by rw[cH9 HRr.out];rfl
  have r2:wr1.cell? ⟨w.heap.size,2,none⟩=some (.string ⟨#[]⟩):=by rw[cH9 HRr.out];rfl
  have f0:wr1.frozen? ⟨w.heap.size,0,none⟩=false:=fH9 HRr.out _;have f1:wr1.frozen? ⟨w.heap.size,1,none⟩=false:=fH9 HRr.out _;have f2:wr1.frozen? ⟨w.heap.size,2,none⟩=false:=fH9 HRr.out _;clear hbr1 HRr;go_wp2_with fail;refine bodyPost_ret (v:=.agg #[.int .i64 (1),.int .i64 0,.string ⟨#[]⟩]) (by simp[results,Tryz.results11,go_sem,qd,World.cell?_setCell_other,r0,r1,r2]) rfl ?_
  exact zn (qV _) HST.out (zA hBr (nR9 _))
 case pos =>
  obtain ⟨s,rfl⟩:∃ s,ls=[s]:=by
   match ls,hl1 with
   | [s],_=>exact ⟨s,rfl⟩
  obtain ⟨b1,o1,c1,hv1,_,_,e1⟩:=(Strs.later HL.out hb0).at (i:=0) (x:=s) rfl
  injection hv1 with hv1 hv1l hv1c
  subst hv1 hv1c;clear hv1l hl1;simp only[List.length_cons,List.length_nil,Nat.zero_add,Nat.add_zero]at e1 hll ⊢
  have hsz:=hz s (List.mem_cons_self)
  have HP:Hid (∀ W,Below w.heap.size w W→Calls Tryz.prog 20 #[.string s] W fun e w'=>∃ va vk,e=.returned (.tuple #[.agg #[.bool (qA s.data.toList).1.text,.string (qA s.data.toList).1.s,va,vk],.int .i64 (qA s.data.toList).2])∧qk (fun b=>W.heap.size≤b) w' va (qA s.data.toList).1.attrs∧qb (fun b=>W.heap.size≤b) w' s.data.toList.length vk (qA s.data.toList).1.kids∧Below W.heap.size W w'):=by
   intro W hW;have:=qaH s.data.toList W (HEV.out W hW).marks (by rw[yG];unfold maxLen at hsz;omega)
   rw[Z5]at this
   exact this
  have hpc:=Kg s.data.toList;have HS:Hid (QE [s] ns=if (qA s.data.toList).2≠0 then (qV (qA s.data.toList).2,ns) else ((0,((yl s.data.toList.length (qA s.data.toList).1).length:Int),⟨#[]⟩),yl s.data.toList.length (qA s.data.toList).1)):=rfl
  obtain ⟨Q,hQ⟩:∃ Q,qA s.data.toList=Q:=⟨_,rfl⟩;rw[hQ]at HP HS hpc
  clear hQ hsz HEV HL hz;obtain ⟨t,E⟩:=Q;simp only at HP HS hpc
  generalize s.data.toList.length=N at *
  rcases hpc with ⟨c,hc,rfl⟩|⟨hg,rfl⟩
  · have hc0 : ¬ E = 0 := by rcases hc with rfl | rfl <;> decide
    have hcb:(E==0)=false:=by simpa using hc0
    rw[if_pos hc0]at HS
    rw[HS.out];clear hc hc0
    go_enter Tryz.func11,Tryz.ntmps11
    go_wp2_with fail
    generalize w.alloc (.cells #[.int .i64 0,.int .i64 0,.string ⟨#[]⟩] 29)=W0 at *
    refine Calls.mono (HP.out W0 hb0) ?_;rintro e w1 ⟨va,vk,rfl,hA1,hK1,hb1⟩;obtain ⟨aa,ac,rfl⟩:=hA1.shape;obtain ⟨ka,kc,rfl,_,_⟩:=qb.shape N hK1;have hb2:=Below.alloc1 w1 (.cells #[.bool t.text,.string t.s,.slice aa t.attrs.length ac,.slice ka t.kids.length kc] 46);have hb12:=hb1.trans (hb2.mono hb1.size);have hB2:=hb0.trans (hb12.mono hb0.size);have HR2:Hid _:=(hb12.block _ (qh HR0.out)).trans HR0.out;clear hA1 hK1 hb1 hb2 hb12 HP;go_wp2_with fail
    generalize w1.alloc (.cells #[.bool t.text,.string t.s,.slice aa t.attrs.length ac,.slice ka t.kids.length kc] 46)=W2 at *
    refine Calls.mono (zK E W2) ?_;rintro e wr1 ⟨rfl,hbr1⟩;have HRr:Hid _:=(hbr1.block _ (qh HR2.out)).trans HR2.out;have hBr:=hB2.trans (hbr1.mono hB2.size);have r0:wr1.cell? ⟨w.heap.size,0,none⟩=some (.int .i64 0):=by rw[cH9 HRr.out];rfl
    have r1:wr1.cell? ⟨w.heap.size,1,none⟩=some (.int .i64 0):=by rw[cH9 HRr.out];rfl
    have r2:wr1.cell? ⟨w.heap.size,2,none⟩=some (.string ⟨#[]⟩):=by rw[cH9 HRr.out];rfl
    have f0:wr1.frozen? ⟨w.heap.size,0,none⟩=false:=fH9 HRr.out _;have f1:wr1.frozen? ⟨w.heap.size,1,none⟩=false:=fH9 HRr.out _;have f2:wr1.frozen? ⟨w.heap.size,2,none⟩=false:=fH9 HRr.out _;clear hbr1 HRr;go_wp2_with fail;refine bodyPost_ret (v:=.agg #[.int .i64 (E),.int .i64 0,.string ⟨#[]⟩]) (by simp[results,Tryz.results11,go_sem,qd,World.cell?_setCell_other,r0,r1,r2]) rfl ?_
    exact zn (qV _) HST.out (zA hBr (nR9 _))
  · rw[if_neg (by simp)]at HS
    rw[HS.out];obtain ⟨D,hD⟩:∃ D,yl N t=D:=⟨_,rfl⟩;rw[hD]
    go_enter Tryz.func11,Tryz.ntmps11
    go_wp2_with fail
    generalize w.alloc (.cells #[.int .i64 0,.int .i64 0,.string ⟨#[]⟩] 29)=W0 at *
    refine Calls.mono (HP.out W0 hb0) ?_;rintro e w1 ⟨va,vk,rfl,hA1,hK1,hb1⟩;obtain ⟨aa,ac,rfl⟩:=hA1.shape;obtain ⟨ka,kc,rfl,_,_⟩:=qb.shape N hK1;have hb2:=Below.alloc1 w1 (.cells #[.bool t.text,.string t.s,.slice aa t.attrs.length ac,.slice ka t.kids.length kc] 46);have hb12:=hb1.trans (hb2.mono hb1.size);have hB2:=hb0.trans (hb12.mono hb0.size);have HR2:Hid _:=(hb12.block _ (qh HR0.out)).trans HR0.out;have hdp:=qb.deep N hK1;have HMK:Hid _:=Yr (fun b=>b<(w1.alloc (.cells #[.bool t.text,.string t.s,.slice aa t.attrs.length ac,.slice ka t.kids.length kc] 46)).heap.size) N _ _ t _ ((qk.later hA1 hb2).bounded.carry fun b hb=>⟨hb.2,rfl⟩) (qb.carry (fun b hb=>⟨hb.2,rfl⟩) N (qb.bounded N (qb.later hb2 N hK1))) (Yl hg _) (fun b hb=>hb)
    have HMG:Hid (qt (yl N t)=true):=by
     show _=_
     unfold yl;rw[if_pos hg];exact (Jx hdp hg).1
    have hme:xF t=0:=by unfold xF;rw[if_pos hg]
    rw[hme]at HMK
    rw[hD]at HMK HMG
    clear hA1 hK1 hb1 hb2 hb12 HP hme hdp hg HS hD;go_wp2_with fail
    generalize w1.alloc (.cells #[.bool t.text,.string t.s,.slice aa t.attrs.length ac,.slice ka t.kids.length kc] 46)=W2 at *
    refine Calls.mono HMK.out ?_;rintro e w3 ⟨v3,rfl,hN3,hb3⟩;obtain ⟨a3,c3,rfl,_,hc3⟩:=hN3.shape;have hb4:=Below.alloc1 w3 (.cells #[.slice a3 D.length c3] 39);have hb34:=hb3.trans (hb4.mono hb3.size);have hB4:=hB2.trans (hb34.mono hB2.size);have HR4:Hid _:=(hb34.block _ (qh HR2.out)).trans HR2.out;have HN4:Hid _:=qv.later hN3 hb4;have hrw2:w.heap.size<W2.heap.size:=qh HR2.out;obtain ⟨a0,c0,hbx,_,_⟩:=HST.out.box;have hsbl:=qh hbx;have HX4:Hid _:=(hB4.block sb hsbl).trans hbx;have x4:(w3.alloc (.cells #[.slice a3 D.length c3] 39)).cell? ⟨sb,0,none⟩=some (.slice a0 ns.length c0):=by rw[cH9 HX4.out];rfl
    have xf4:(w3.alloc (.cells #[.slice a3 D.length c3] 39)).frozen? ⟨sb,0,none⟩=false:=fH9 HX4.out _;have HRs:Hid (((w3.alloc (.cells #[.slice a3 D.length c3] 39)).setCell ⟨sb,0,none⟩ (.slice a3 D.length c3)).heap[w.heap.size]?=_):=(qa (by omega)).trans HR4.out
    have HD4:Hid _:=heap_alloc_new w3 (.cells #[.slice a3 D.length c3] 39);have hd4ne:sb≠w3.heap.size:=by have:=hB4.size;have:=hb34.size;have:=hb3.size;omega
    have d4:((w3.alloc (.cells #[.slice a3 D.length c3] 39)).setCell ⟨sb,0,none⟩ (.slice a3 D.length c3)).cell? ⟨w3.heap.size,0,none⟩=some (.slice a3 D.length c3):=by
     rw[World.cell?_of_block (a:=⟨w3.heap.size,0,none⟩) (qa (fun e=>hd4ne e.symm)),cH9 HD4.out];rfl
    have r0:((w3.alloc (.cells #[.slice a3 D.length c3] 39)).setCell ⟨sb,0,none⟩ (.slice a3 D.length c3)).cell? ⟨w.heap.size,0,none⟩=some (.int .i64 0):=by rw[cH9 HRs.out];rfl
    have r1:((w3.alloc (.cells #[.slice a3 D.length c3] 39)).setCell ⟨sb,0,none⟩ (.slice a3 D.length c3)).cell? ⟨w.heap.size,1,none⟩=some (.int .i64 0):=by rw[cH9 HRs.out];rfl
    have r2:((w3.alloc (.cells #[.slice a3 D.length c3] 39)).setCell ⟨sb,0,none⟩ (.slice a3 D.length c3)).cell? ⟨w.heap.size,2,none⟩=some (.string ⟨#[]⟩):=by rw[cH9 HRs.out];rfl
    have f0:((w3.alloc (.cells #[.slice a3 D.length c3] 39)).setCell ⟨sb,0,none⟩ (.slice a3 D.length c3)).frozen? ⟨w.heap.size,0,none⟩=false:=fH9 HRs.out _;have f1:((w3.alloc (.cells #[.slice a3 D.length c3] 39)).setCell ⟨sb,0,none⟩ (.slice a3 D.length c3)).frozen? ⟨w.heap.size,1,none⟩=false:=fH9 HRs.out _;have f2:((w3.alloc (.cells #[.slice a3 D.length c3] 39)).setCell ⟨sb,0,none⟩ (.slice a3 D.length c3)).frozen? ⟨w.heap.size,2,none⟩=false:=fH9 HRs.out _;clear hN3 hb3 hb4 hb34 HR2 HMK HRs HX4 hbx;go_wp2_with fail;refine bodyPost_ret (v:=.agg #[.int .i64 0,.int .i64 (D.length:Int),.string ⟨#[]⟩]) (by simp[results,Tryz.results11,go_sem,qd,World.cell?_setCell_other,r0,r1,r2]) rfl ?_
    exact Yb (0,(D.length:Int),⟨#[]⟩) HST.out hB4 (fun b hb=>Or.inr (by omega)) HN4.out hc3 HMG.out (nR9 _) (fun b hb=>by omega)
end
section
attribute [local go_sem] qd
theorem Yi {ns:List Nd}(hg:qt ns=true):jh ns 0=(growF ns.length ns 0,0)∧qR (growF ns.length ns 0)=true:=by
 have h:=hg;simp only[qt,Bool.and_eq_true]at h
 have h0:=QC h.1.2;have hq:jj ns 0=true:=by unfold jj;simp;omega
 refine ⟨?_,h.2⟩;unfold jh;rw[hg,hq];rfl
set_option linter.unusedSimpArgs false in
set_option maxHeartbeats 2000000 in
theorem qcc (S:Nat→Prop)(sb n:Nat)(ns:List Nd)(w:World)(h:Sto S w sb ns n)(hE:jd w) :
 Calls Tryz.prog 13 #[.pointer (some ⟨sb,0,none⟩)] w fun e w'=>ji S sb w (Zx ns) ns n e w':=by
 have HST:Hid _:=h;have hb0:=Below.alloc1 w (.cells #[.int .i64 0,.int .i64 0,.string ⟨#[]⟩] 29);have HR0:Hid _:=heap_alloc_new w (.cells #[.int .i64 0,.int .i64 0,.string ⟨#[]⟩] 29);have HEV:Hid (∀ W,Below w.heap.size w W→jd W):=fun W hW=>hE.later hW
 obtain ⟨a,c,hbx,hN,hcm⟩:=h.box;have hsl:=qh hbx
 have HX:Hid (∀ W,Below w.heap.size w W→W.cell? ⟨sb,0,none⟩=some (.slice a ns.length c)):=fun W hW=>by
  rw[cH9 ((hW.block sb hsl).trans hbx)];rfl
 have x0:=HX.out _ hb0;obtain ⟨htd,hgt⟩:=Yi h.good;have HT:Hid _:=qa5 S (.slice a ns.length c) ns 0 _ ((h.doc hN).later hb0)
 have HS:Hid (Zx ns=if (yO ns.length (growF ns.length ns 0)).2≠0 then qV (yO ns.length (growF ns.length ns 0)).2 else (0,(ns.length:Int),(yO ns.length (growF ns.length ns 0)).1)):=by
  show _=_
  unfold Zx;rw[htd];rfl
 rw[htd]at HT
 generalize growF ns.length ns 0=t at *
 have HPR:Hid (∀ (U:Nat→Prop) (va vk:Value) (W:World),Below w.heap.size w W→qk U W va t.attrs→qb U W ns.length vk t.kids→Calls Tryz.prog 24 #[.agg #[.bool t.text,.string t.s,va,vk]] W fun e w'=>e=.returned (.tuple #[.string (yO ns.length t).1,.int .i64 (yO ns.length t).2])∧Below W.heap.size W w') :=
  fun U va vk W hW hA hK=>Kh U ns.length va vk t W hA hK (HEV.out W hW).marks (Yl hgt _)
 obtain ⟨P,E,hPE⟩:∃ P E,yO ns.length t=(P,E):=⟨_,_,rfl⟩;rw[hPE]at HS HPR
 simp only at HS HPR
 unfold maxLen at hcm
 clear h hE htd hgt hbx hN hPE HEV;have main:True:=trivial;clear main
 by_cases hE0:E=0
 · subst hE0;rw[if_neg (by simp)]at HS
   rw[HS.out]
   go_enter Tryz.func13,Tryz.ntmps13
   go_wp2_with fail
   generalize w.alloc (.cells #[.int .i64 0,.int .i64 0,.string ⟨#[]⟩] 29)=W0 at *
   refine Calls.mono HT.out ?_;rintro e w1 ⟨va,vk,rfl,hA1,hK1,hb1⟩;obtain ⟨aa,ac,rfl⟩:=hA1.shape;obtain ⟨ka,kc,rfl,_,_⟩:=qb.shape ns.length hK1;have hb2:=Below.alloc1 w1 (.cells #[.bool t.text,.string t.s,.slice aa t.attrs.length ac,.slice ka t.kids.length kc] 46);have hb12:=hb1.trans (hb2.mono hb1.size);have hB2:=hb0.trans (hb12.mono hb0.size);have HR2:Hid _:=(hb12.block _ (qh HR0.out)).trans HR0.out;have HP2:Hid _:=HPR.out _ _ _ _ hB2 (qk.later hA1 hb2) (qb.later hb2 ns.length hK1);clear hA1 hK1 hb1 hb2 hb12 HT HPR HS;go_wp2_with fail
   generalize w1.alloc (.cells #[.bool t.text,.string t.s,.slice aa t.attrs.length ac,.slice ka t.kids.length kc] 46)=W2 at *
   refine Calls.mono HP2.out ?_;rintro e w3 ⟨rfl,hb3⟩;have hB3:=hB2.trans (hb3.mono hB2.size);have HR3:Hid _:=(hb3.block _ (qh HR2.out)).trans HR2.out;have x3:=HX.out w3 hB3;have r0:w3.cell? ⟨w.heap.size,0,none⟩=some (.int .i64 0):=by rw[cH9 HR3.out];rfl
   have r1:w3.cell? ⟨w.heap.size,1,none⟩=some (.int .i64 0):=by rw[cH9 HR3.out];rfl
   have r2:w3.cell? ⟨w.heap.size,2,none⟩=some (.string ⟨#[]⟩):=by rw[cH9 HR3.out];rfl
   have f0:w3.frozen? ⟨w.heap.size,0,none⟩=false:=fH9 HR3.out _;have f1:w3.frozen? ⟨w.heap.size,1,none⟩=false:=fH9 HR3.out _;have f2:w3.frozen? ⟨w.heap.size,2,none⟩=false:=fH9 HR3.out _;clear hb3 HR2 HR3 HP2 HX x0;go_wp2_with fail;refine bodyPost_ret (v:=.agg #[.int .i64 0,.int .i64 (ns.length:Int),.string P]) (by simp[results,Tryz.results13,go_sem,qd,World.cell?_setCell_other,r0,r1,r2]) rfl ?_
   exact zn (0,(ns.length:Int),P) HST.out (zA hB3 (nR9 _))
 · have hEb : (E == 0) = false := by simpa using hE0
   rw[if_pos hE0]at HS
   rw[HS.out]
   go_enter Tryz.func13,Tryz.ntmps13
   go_wp2_with fail
   generalize w.alloc (.cells #[.int .i64 0,.int .i64 0,.string ⟨#[]⟩] 29)=W0 at *
   refine Calls.mono HT.out ?_;rintro e w1 ⟨va,vk,rfl,hA1,hK1,hb1⟩;obtain ⟨aa,ac,rfl⟩:=hA1.shape;obtain ⟨ka,kc,rfl,_,_⟩:=qb.shape ns.length hK1;have hb2:=Below.alloc1 w1 (.cells #[.bool t.text,.string t.s,.slice aa t.attrs.length ac,.slice ka t.kids.length kc] 46);have hb12:=hb1.trans (hb2.mono hb1.size);have hB2:=hb0.trans (hb12.mono hb0.size);have HR2:Hid _:=(hb12.block _ (qh HR0.out)).trans HR0.out;have HP2:Hid _:=HPR.out _ _ _ _ hB2 (qk.later hA1 hb2) (qb.later hb2 ns.length hK1);clear hA1 hK1 hb1 hb2 hb12 HT HPR HS hE0;go_wp2_with fail
   generalize w1.alloc (.cells #[.bool t.text,.string t.s,.slice aa t.attrs.length ac,.slice ka t.kids.length kc] 46)=W2 at *
   refine Calls.mono HP2.out ?_;rintro e w3 ⟨rfl,hb3⟩;have hB3:=hB2.trans (hb3.mono hB2.size);have HR3:Hid _:=(hb3.block _ (qh HR2.out)).trans HR2.out;clear hb3 HR2 HP2 HX x0;go_wp2_with fail;refine Calls.mono (zK E w3) ?_;rintro e wr1 ⟨rfl,hbr1⟩;have HRr:Hid _:=(hbr1.block _ (qh HR3.out)).trans HR3.out;have hBr:=hB3.trans (hbr1.mono hB3.size);have r0:wr1.cell? ⟨w.heap.size,0,none⟩=some (.int .i64 0):=by rw[cH9 HRr.out];rfl
   have r1:wr1.cell? ⟨w.heap.size,1,none⟩=some (.int .i64 0):=by rw[cH9 HRr.out];rfl
   have r2:wr1.cell? ⟨w.heap.size,2,none⟩=some (.string ⟨#[]⟩):=by rw[cH9 HRr.out];rfl
   have f0:wr1.frozen? ⟨w.heap.size,0,none⟩=false:=fH9 HRr.out _;have f1:wr1.frozen? ⟨w.heap.size,1,none⟩=false:=fH9 HRr.out _;have f2:wr1.frozen? ⟨w.heap.size,2,none⟩=false:=fH9 HRr.out _;clear hbr1 HRr;go_wp2_with fail;refine bodyPost_ret (v:=.agg #[.int .i64 (E),.int .i64 0,.string ⟨#[]⟩]) (by simp[results,Tryz.results13,go_sem,qd,World.cell?_setCell_other,r0,r1,r2]) rfl ?_
   exact zn (qV _) HST.out (zA hBr (nR9 _))
theorem JX (k:Int)(said:List UInt8)(hs:said.length≤2500)(n:Nat):TextsN n (qq k said).1.content∧(qq k said).1.name.size≤maxLen∧(qq k said).1.s.size≤maxLen:=by
 have h0:TextsN n []:=by cases n with|zero=>trivial|succ n=>intro t ht;cases ht
 have hz:(⟨#[]⟩:ByteArray).size≤maxLen:=nZ9 _
 have hc:TextsN n (qM said).1:=by
  rcases KN said with ⟨_,h⟩|⟨h,_⟩
  · rw[h];exact h0
  · exact Qo h n
 have ht:∀ s:List UInt8,s.length≤2500→(qc (zG s).1).size≤maxLen:=by
  intro s hs;rw[ql];unfold zG
  split
  · exact nZ9 _
  · split
    · exact nZ9 _
    · exact Nat.le_trans (Zp textEnds _ _) (by unfold Rs.left maxLen;simp;omega)
 have hcs:=jA 61 said;unfold qq
 split
 · exact ⟨hc,hz,hz⟩
 · split
   · exact ⟨h0,hz,ht said hs⟩
   · split
     · exact ⟨h0,by rw[ql];unfold maxLen;omega,hz⟩
     · split
       · split
         · exact ⟨h0,by rw[ql];unfold maxLen;omega,ht _ (by omega)⟩
         · exact ⟨h0,hz,hz⟩
       · exact ⟨h0,hz,hz⟩
theorem K2 (s:List UInt8)(n:Nat):TextsN n (qS s).1.content∧(qS s).1.name.size≤maxLen∧(qS s).1.s.size≤maxLen:=by
 have h00:TextsN n []:=by cases n with|zero=>trivial|succ n=>intro t ht;cases ht
 have h0:TextsN n noOp.content∧noOp.name.size≤maxLen∧noOp.s.size≤maxLen:=⟨h00,nZ9 _,nZ9 _⟩;unfold qS
 split
 · exact h0
 · rename_i hl
   have h1:=jA 32 s;have h2:=jA 32 (zr s);have hsl:(zR s).length≤2500:=by have:=h1.2;have:=h2.2;unfold zR;unfold zr at *;omega
   split
   · exact h0
   · split
     · exact h0
     · split
       · exact h0
       · exact JX _ _ hsl n
theorem qah (ns:List Nd)(n:Nat):∀ ls:List ByteArray,Qx n (qK ns ls).1:=by
 intro ls
 induction ls with
 | nil=>intro x hx;cases hx
 | cons s r ih =>
   intro x hx;unfold qK at hx
   split at hx
   · cases hx
   · split at hx
     · cases hx
     · split at hx
       · cases hx
       · split at hx
         · cases hx
         · rcases List.mem_append.1 hx with hx | hx
           · unfold ZX at hx
             obtain ⟨t,_,rfl⟩:=List.mem_map.1 hx;exact K2 s.data.toList n
           · exact ih x hx
set_option linter.unusedSimpArgs false in
set_option maxHeartbeats 2000000 in
theorem qab (S T:Nat→Prop)(sb n:Nat)(ns:List Nd)(vl:Value)(ls:List ByteArray)(w:World)(h:Sto S w sb ns n)(hL:Strs T w vl ls)(hE:jd w)(hz:∀ s∈ls,s.size≤maxLen) :
 Calls Tryz.prog 12 #[.pointer (some ⟨sb,0,none⟩),vl] w fun e w'=>ji S sb w (jz ls ns).1 (jz ls ns).2 n e w':=by
 obtain ⟨la,lc,rfl,hll,hlc⟩:=hL.shape;have HST:Hid _:=h;have hb0:=Below.alloc1 w (.cells #[.int .i64 0,.int .i64 0,.string ⟨#[]⟩] 29);have HR0:Hid _:=heap_alloc_new w (.cells #[.int .i64 0,.int .i64 0,.string ⟨#[]⟩] 29);have HEV:Hid (∀ W,Below w.heap.size w W→jd W):=fun W hW=>hE.later hW
 obtain ⟨a,c,hbx,hN,hcm⟩:=h.box;have hsl:=qh hbx;have HBX:Hid _:=hbx
 have HX:Hid (∀ W,Below w.heap.size w W→W.cell? ⟨sb,0,none⟩=some (.slice a ns.length c)):=fun W hW=>by
  rw[cH9 ((hW.block sb hsl).trans hbx)];rfl
 have x0:=HX.out _ hb0;have HD:Hid _:=h.doc hN;unfold maxLen at hcm hlc
 clear hbx hN
 by_cases h6:6<ls.length
 · have h6i : (6 : Int) < (ls.length : Int) := by omega
   have HS:Hid (jz ls ns=(qV 2,ns)):=by show _=_;unfold jz;rw[if_pos h6]
   rw[HS.out];clear h hE HEV hL HX x0 HD HBX
   go_enter Tryz.func12,Tryz.ntmps12
   go_wp2_with fail
   generalize w.alloc (.cells #[.int .i64 0,.int .i64 0,.string ⟨#[]⟩] 29)=W0 at *
   refine Calls.mono (zK 2 W0) ?_;rintro e wr1 ⟨rfl,hbr1⟩;have HRr:Hid _:=(hbr1.block _ (qh HR0.out)).trans HR0.out;have hBr:=hb0.trans (hbr1.mono hb0.size);have r0:wr1.cell? ⟨w.heap.size,0,none⟩=some (.int .i64 0):=by rw[cH9 HRr.out];rfl
   have r1:wr1.cell? ⟨w.heap.size,1,none⟩=some (.int .i64 0):=by rw[cH9 HRr.out];rfl
   have r2:wr1.cell? ⟨w.heap.size,2,none⟩=some (.string ⟨#[]⟩):=by rw[cH9 HRr.out];rfl
   have f0:wr1.frozen? ⟨w.heap.size,0,none⟩=false:=fH9 HRr.out _;have f1:wr1.frozen? ⟨w.heap.size,1,none⟩=false:=fH9 HRr.out _;have f2:wr1.frozen? ⟨w.heap.size,2,none⟩=false:=fH9 HRr.out _;clear hbr1 HRr;go_wp2_with fail;refine bodyPost_ret (v:=.agg #[.int .i64 (2),.int .i64 0,.string ⟨#[]⟩]) (by simp[results,Tryz.results12,go_sem,qd,World.cell?_setCell_other,r0,r1,r2]) rfl ?_
   exact zn (qV _) HST.out (zA hBr (nR9 _))
 · have h6i : ¬ (6 : Int) < (ls.length : Int) := by omega
   have HS:Hid (jz ls ns=if (qK ns ls).2≠0 then (qV (qK ns ls).2,ns) else if yo ns (qK ns ls).1≠0 then (qV (yo ns (qK ns ls).1),ns) else ((0,((qK ns ls).1.length:Int),⟨#[]⟩),yn ns (qK ns ls).1)):=by show _=_;unfold jz;rw[if_neg h6]
   have HCH:Hid _:=XG (fun b=>b<(w.alloc (.cells #[.int .i64 0,.int .i64 0,.string ⟨#[]⟩] 29)).heap.size) (.slice a ns.length c) (.slice la ls.length lc) ns ls _ ⟨(HD.out.later hb0).nodes.carry fun b hb=>⟨(HD.out.later hb0).here b hb,rfl⟩,fun b hb=>hb,HD.out.few,HD.out.short⟩ ((hL.later hb0).bounded.carry fun b hb=>⟨hb.2,rfl⟩) (HEV.out _ hb0) (by omega) hz
   have HTX:Hid _:=qah ns 2501 ls;obtain ⟨L,hLL⟩:∃ L,(qK ns ls).1=L:=⟨_,rfl⟩;obtain ⟨E,hEE⟩:∃ E,(qK ns ls).2=E:=⟨_,rfl⟩;rw[hLL,hEE]at HCH HS
   rw[hLL]at HTX
   clear h hE HEV hL hLL hEE
   by_cases hE0:E=0
   case neg =>
    have hEb:(E==0)=false:=by simpa using hE0
    rw[if_pos hE0]at HS
    rw[HS.out];clear hE0
    go_enter Tryz.func12,Tryz.ntmps12
    go_wp2_with fail
    generalize w.alloc (.cells #[.int .i64 0,.int .i64 0,.string ⟨#[]⟩] 29)=W0 at *
    refine Calls.mono HCH.out ?_;rintro e w1 ⟨v1,rfl,hO1,hb1⟩;obtain ⟨oa,oc,rfl,_,_⟩:=hO1.shape;have hB1:=hb0.trans (hb1.mono hb0.size);have HR1:Hid _:=(hb1.block _ (qh HR0.out)).trans HR0.out;clear hO1 hb1 HCH HX x0;go_wp2_with fail;refine Calls.mono (zK E w1) ?_;rintro e wr1 ⟨rfl,hbr1⟩;have HRr:Hid _:=(hbr1.block _ (qh HR1.out)).trans HR1.out;have hBr:=hB1.trans (hbr1.mono hB1.size);have r0:wr1.cell? ⟨w.heap.size,0,none⟩=some (.int .i64 0):=by rw[cH9 HRr.out];rfl
    have r1:wr1.cell? ⟨w.heap.size,1,none⟩=some (.int .i64 0):=by rw[cH9 HRr.out];rfl
    have r2:wr1.cell? ⟨w.heap.size,2,none⟩=some (.string ⟨#[]⟩):=by rw[cH9 HRr.out];rfl
    have f0:wr1.frozen? ⟨w.heap.size,0,none⟩=false:=fH9 HRr.out _;have f1:wr1.frozen? ⟨w.heap.size,1,none⟩=false:=fH9 HRr.out _;have f2:wr1.frozen? ⟨w.heap.size,2,none⟩=false:=fH9 HRr.out _;clear hbr1 HRr;go_wp2_with fail;refine bodyPost_ret (v:=.agg #[.int .i64 (E),.int .i64 0,.string ⟨#[]⟩]) (by simp[results,Tryz.results12,go_sem,qd,World.cell?_setCell_other,r0,r1,r2]) rfl ?_
    exact zn (qV _) HST.out (zA hBr (nR9 _))
   case pos =>
    subst hE0;rw[if_neg (by simp)]at HS
    obtain ⟨F,hF⟩:∃ F,yo ns L=F:=⟨_,rfl⟩;obtain ⟨D,hD⟩:∃ D,yn ns L=D:=⟨_,rfl⟩
    have HGD:Hid (F=0→qt D=true):=by
     intro h0;rw[←hD];exact (KH (hF.trans h0)).1
    rw[hF,hD]at HS
    have HAP:Hid (∀ (w1:World) (v:Value),Below (w.alloc (.cells #[.int .i64 0,.int .i64 0,.string ⟨#[]⟩] 29)).heap.size (w.alloc (.cells #[.int .i64 0,.int .i64 0,.string ⟨#[]⟩] 29)) w1→Ops (fun b=>(w.alloc (.cells #[.int .i64 0,.int .i64 0,.string ⟨#[]⟩] 29)).heap.size≤b) w1 2501 v L→Calls Tryz.prog 22 #[.agg #[.slice a ns.length c],v] w1 fun e w'=>∃ v',e=.returned (.tuple #[.agg #[v'],.int .i64 F])∧qv (fun b=>(S b∨(w.alloc (.cells #[.int .i64 0,.int .i64 0,.string ⟨#[]⟩] 29)).heap.size≤b)∧b<w'.heap.size) w' v' D∧Below w1.heap.size w1 w'):=by
     intro w1 v hb1 hO;have hB1:=hb0.trans (hb1.mono hb0.size);have hD1:=HD.out.later hB1;have:=JU (fun b=>(S b∨(w.alloc (.cells #[.int .i64 0,.int .i64 0,.string ⟨#[]⟩] 29)).heap.size≤b)∧b<w1.heap.size) 2501 _ v ns L w1 (hD1.nodes.carry fun b hb=>⟨⟨Or.inl hb,hD1.here b hb⟩,rfl⟩) (fun b hb=>hb.2) hD1.few hD1.short (hO.bounded.carry fun b hb=>⟨⟨Or.inr hb.1,hb.2⟩,rfl⟩) HTX.out
     rw[hF,hD]at this
     refine this.mono ?_;rintro e w' ⟨v',rfl,h1,h2⟩;refine ⟨v',rfl,h1.bounded.carry fun b hb=>⟨⟨?_,hb.2⟩,rfl⟩,h2⟩
     rcases hb.1 with h|h
     · exact h.1
     · exact Or.inr (Nat.le_trans hb1.size h)
    clear hF hD
    by_cases hF0:F=0
    case neg =>
     have hFb:(F==0)=false:=by simpa using hF0
     rw[if_pos hF0]at HS
     rw[HS.out];clear hF0 HGD
     go_enter Tryz.func12,Tryz.ntmps12
     go_wp2_with fail
     generalize w.alloc (.cells #[.int .i64 0,.int .i64 0,.string ⟨#[]⟩] 29)=W0 at *
     refine Calls.mono HCH.out ?_;rintro e w1 ⟨v1,rfl,hO1,hb1⟩;obtain ⟨oa,oc,rfl,_,_⟩:=hO1.shape;have hB1:=hb0.trans (hb1.mono hb0.size);have HR1:Hid _:=(hb1.block _ (qh HR0.out)).trans HR0.out;have x1:=HX.out w1 hB1;have HA1:Hid _:=HAP.out w1 _ hb1 hO1;clear hO1 hb1 HCH x0 HAP;go_wp2_with fail;refine Calls.mono HA1.out ?_;rintro e w2 ⟨v2,rfl,hN2,hb2⟩;obtain ⟨a2,c2,rfl,_,_⟩:=hN2.shape;have hb3:=Below.alloc1 w2 (.cells #[.slice a2 D.length c2] 39);have hb23:=hb2.trans (hb3.mono hb2.size);have hB3:=hB1.trans (hb23.mono hB1.size);have HR3:Hid _:=(hb23.block _ (qh HR1.out)).trans HR1.out;clear hN2 hb2 hb3 hb23 HR1 x1 HX HA1;go_wp2_with fail
     generalize w2.alloc (.cells #[.slice a2 D.length c2] 39)=W3 at *
     refine Calls.mono (zK F W3) ?_;rintro e wr1 ⟨rfl,hbr1⟩;have HRr:Hid _:=(hbr1.block _ (qh HR3.out)).trans HR3.out;have hBr:=hB3.trans (hbr1.mono hB3.size);have r0:wr1.cell? ⟨w.heap.size,0,none⟩=some (.int .i64 0):=by rw[cH9 HRr.out];rfl
     have r1:wr1.cell? ⟨w.heap.size,1,none⟩=some (.int .i64 0):=by rw[cH9 HRr.out];rfl
     have r2:wr1.cell? ⟨w.heap.size,2,none⟩=some (.string ⟨#[]⟩):=by rw[cH9 HRr.out];rfl
     have f0:wr1.frozen? ⟨w.heap.size,0,none⟩=false:=fH9 HRr.out _;have f1:wr1.frozen? ⟨w.heap.size,1,none⟩=false:=fH9 HRr.out _;have f2:wr1.frozen? ⟨w.heap.size,2,none⟩=false:=fH9 HRr.out _;clear hbr1 HRr;go_wp2_with fail;refine bodyPost_ret (v:=.agg #[.int .i64 (F),.int .i64 0,.string ⟨#[]⟩]) (by simp[results,Tryz.results12,go_sem,qd,World.cell?_setCell_other,r0,r1,r2]) rfl ?_
     exact zn (qV _) HST.out (zA hBr (nR9 _))
    case pos =>
     subst hF0;rw[if_neg (by simp)]at HS
     rw[HS.out];have hgD:=HGD.out rfl;have HGG:Hid _:=hgD;clear HGD hgD
     go_enter Tryz.func12,Tryz.ntmps12
     go_wp2_with fail
     generalize w.alloc (.cells #[.int .i64 0,.int .i64 0,.string ⟨#[]⟩] 29)=W0 at *
     refine Calls.mono HCH.out ?_;rintro e w1 ⟨v1,rfl,hO1,hb1⟩;obtain ⟨oa,oc,rfl,_,hocm⟩:=hO1.shape;have hB1:=hb0.trans (hb1.mono hb0.size);have HR1:Hid _:=(hb1.block _ (qh HR0.out)).trans HR0.out;have x1:=HX.out w1 hB1;have HA1:Hid _:=HAP.out w1 _ hb1 hO1;have hrw0:w.heap.size<W0.heap.size:=qh HR0.out;clear hO1 hb1 HCH x0 HAP;go_wp2_with fail;refine Calls.mono HA1.out ?_;rintro e w2 ⟨v2,rfl,hN2,hb2⟩;obtain ⟨a2,c2,rfl,_,hc2⟩:=hN2.shape;have hb3:=Below.alloc1 w2 (.cells #[.slice a2 D.length c2] 39);have hb23:=hb2.trans (hb3.mono hb2.size);have hB3:=hB1.trans (hb23.mono hB1.size);have HR3:Hid _:=(hb23.block _ (qh HR1.out)).trans HR1.out;have HN3:Hid _:=qv.later hN2 hb3;have HX3:Hid _:=(hB3.block sb hsl).trans HBX.out;have x3:(w2.alloc (.cells #[.slice a2 D.length c2] 39)).cell? ⟨sb,0,none⟩=some (.slice a ns.length c):=by rw[cH9 HX3.out];rfl
     have xf3:(w2.alloc (.cells #[.slice a2 D.length c2] 39)).frozen? ⟨sb,0,none⟩=false:=fH9 HX3.out _;have HRs:Hid (((w2.alloc (.cells #[.slice a2 D.length c2] 39)).setCell ⟨sb,0,none⟩ (.slice a2 D.length c2)).heap[w.heap.size]?=_):=(qa (by omega)).trans HR3.out
     have hSw:∀ b,S b→b<w.heap.size:=fun b hb=>(HST.out.here b hb).1
     have HSW:Hid _:=hSw;have r0:((w2.alloc (.cells #[.slice a2 D.length c2] 39)).setCell ⟨sb,0,none⟩ (.slice a2 D.length c2)).cell? ⟨w.heap.size,0,none⟩=some (.int .i64 0):=by rw[cH9 HRs.out];rfl
     have r1:((w2.alloc (.cells #[.slice a2 D.length c2] 39)).setCell ⟨sb,0,none⟩ (.slice a2 D.length c2)).cell? ⟨w.heap.size,1,none⟩=some (.int .i64 0):=by rw[cH9 HRs.out];rfl
     have r2:((w2.alloc (.cells #[.slice a2 D.length c2] 39)).setCell ⟨sb,0,none⟩ (.slice a2 D.length c2)).cell? ⟨w.heap.size,2,none⟩=some (.string ⟨#[]⟩):=by rw[cH9 HRs.out];rfl
     have f0:((w2.alloc (.cells #[.slice a2 D.length c2] 39)).setCell ⟨sb,0,none⟩ (.slice a2 D.length c2)).frozen? ⟨w.heap.size,0,none⟩=false:=fH9 HRs.out _;have f1:((w2.alloc (.cells #[.slice a2 D.length c2] 39)).setCell ⟨sb,0,none⟩ (.slice a2 D.length c2)).frozen? ⟨w.heap.size,1,none⟩=false:=fH9 HRs.out _;have f2:((w2.alloc (.cells #[.slice a2 D.length c2] 39)).setCell ⟨sb,0,none⟩ (.slice a2 D.length c2)).frozen? ⟨w.heap.size,2,none⟩=false:=fH9 HRs.out _;clear hN2 hb2 hb3 hb23 HR1 x1 HX HA1 HRs HX3 hSw;go_wp2_with fail;refine bodyPost_ret (v:=.agg #[.int .i64 0,.int .i64 (L.length:Int),.string ⟨#[]⟩]) (by simp[results,Tryz.results12,go_sem,qd,World.cell?_setCell_other,r0,r1,r2]) rfl ?_
     exact Yb (0,(L.length:Int),⟨#[]⟩) HST.out hB3 (fun b hb=>by rcases hb.1 with h|h;exact Or.inl h;exact Or.inr (by omega)) HN3.out hc2 HGG.out (nR9 _) (fun b hb=>by
      rcases hb.1 with h|h
      · have:=HSW.out b h;omega
      · omega)
end
section
attribute [local go_sem] qd
theorem Sto.acts {S:Nat→Prop}{w W:World}{sb n:Nat}{ns:List Nd}(h:Sto S w sb ns n)(hb:Below w.heap.size w W)(m:Nat):Sto S (W.setCell ⟨sb,1,none⟩ (.int .i64 (m:Int))) sb ns m:=by
 obtain ⟨a,c,h1,h2,h3⟩:=h.box;have hbx:W.heap[sb]?=_:=(hb.block sb (qh h1)).trans h1;refine ⟨fun b hb'=>⟨by simpa using Nat.lt_of_lt_of_le (h.here b hb').1 hb.size,(h.here b hb').2⟩,h.good,a,c,?_,?_,h3⟩
 · simp[World.setCell,Array.getElem?_modify,hbx]
 · exact h2.carry fun b hb'=>⟨hb',by rw[qa (h.here b hb').2];exact hb.block b (h.here b hb').1⟩
theorem jR {S:Nat→Prop}{sb n m R:Nat}{ns ns':List Nd}{w W1 w2:World}{rep:Rep}{e:Ending}{v0 v1 v2:Value}(h:Sto S w sb ns n)(hF1:CFr sb w W1)(hR:w.heap.size≤R)(hRl:R<W1.heap.size)(hP:ji S sb W1 rep ns' m e w2):ji S sb w rep ns' m e (Y1 w2 R v0 v1 v2):=by
 obtain ⟨h1,⟨S',hS',hSt⟩,hF⟩:=hP;obtain ⟨a,c,hbx,_,_⟩:=h.box;have hsl:=qh hbx;have hs1:=hF1.below.size;have hsz2:(Y1 w2 R v0 v1 v2).heap.size=w2.heap.size:=by unfold Y1;simp
 refine ⟨h1,⟨S',fun b hb'=>?_,hSt.keep (by rw[hsz2];exact nR9 _) fun b hb'=>jJ ?_⟩,?_⟩
 · rcases hS' b hb' with h2 | h2
   · exact Or.inl h2
   · exact Or.inr (Nat.le_trans hs1 h2)
 · rcases hb' with hb' | rfl
   · rcases hS' b hb' with h2 | h2
     · have:=(h.here b h2).1;omega
     · omega
   · omega
 · refine ⟨zA (B := 0) (hF1.below.trans hF.below) (nZ9 _), fun x hx hxs => ?_⟩
   rw[jJ (by omega),hF.frame x (Nat.lt_of_lt_of_le hx hs1) hxs]
   exact hF1.frame x hx hxs
set_option linter.unusedSimpArgs false in
set_option maxHeartbeats 4000000 in
theorem KQ (S T:Nat→Prop)(sb n:Nat)(ns:List Nd)(vl:Value)(a:Ac)(w0 w:World)(h:Sto S w sb ns n)(hL:Strs T w vl a.lines)(hT:∀ b,T b→b≠sb)(hE:jd w0)(hB0:Below w0.heap.size w0 w)(hsb:w0.heap.size≤sb)(hz:∀ s∈a.lines,s.size≤maxLen) :
 Calls Tryz.prog 7 #[.pointer (some ⟨sb,0,none⟩),.agg #[.int .i64 a.kind,vl]] w fun e w'=>ji S sb w (Qm a ns n).1 (Qm a ns n).2.1 (Qm a ns n).2.2 e w':=by
 obtain ⟨la,lc,rfl,hll,hlc⟩:=hL.shape;have HST:Hid _:=h;have hb0:Below w.heap.size w ((w.alloc (.cells #[.int .i64 a.kind,.slice la a.lines.length lc] 36)).alloc (.cells #[.int .i64 0,.int .i64 0,.string ⟨#[]⟩] 29)):=(Below.alloc1 w _).alloc (by simp) _
 have HA0:Hid (((w.alloc (.cells #[.int .i64 a.kind,.slice la a.lines.length lc] 36)).alloc (.cells #[.int .i64 0,.int .i64 0,.string ⟨#[]⟩] 29)).heap[w.heap.size]?=some (.cells #[.int .i64 a.kind,.slice la a.lines.length lc] 36 (0,0))):=by
  show _=_
  rw[heap_alloc_old _ _ (by simp)];exact heap_alloc_new _ _
 have HR0:Hid (((w.alloc (.cells #[.int .i64 a.kind,.slice la a.lines.length lc] 36)).alloc (.cells #[.int .i64 0,.int .i64 0,.string ⟨#[]⟩] 29)).heap[w.heap.size+1]?=some (.cells #[.int .i64 0,.int .i64 0,.string ⟨#[]⟩] 29 (0,0))):=by
  have:=heap_alloc_new (w.alloc (.cells #[.int .i64 a.kind,.slice la a.lines.length lc] 36)) (.cells #[.int .i64 0,.int .i64 0,.string ⟨#[]⟩] 29);rw[World.size_alloc]at this
  exact this
 obtain ⟨da,dc,hbx,_,_⟩:=h.box;have hsl:=qh hbx;have HBX:Hid (((w.alloc (.cells #[.int .i64 a.kind,.slice la a.lines.length lc] 36)).alloc (.cells #[.int .i64 0,.int .i64 0,.string ⟨#[]⟩] 29)).heap[sb]?=_):=(hb0.block sb hsl).trans hbx;have x1:((w.alloc (.cells #[.int .i64 a.kind,.slice la a.lines.length lc] 36)).alloc (.cells #[.int .i64 0,.int .i64 0,.string ⟨#[]⟩] 29)).cell? ⟨sb,1,none⟩=some (.int .i64 (n:Int)):=by rw[cH9 HBX.out];rfl
 have xf1:((w.alloc (.cells #[.int .i64 a.kind,.slice la a.lines.length lc] 36)).alloc (.cells #[.int .i64 0,.int .i64 0,.string ⟨#[]⟩] 29)).frozen? ⟨sb,1,none⟩=false:=fH9 HBX.out _
 by_cases hn:100≤n
 · have hni : (100 : Int) ≤ (n : Int) := by omega
   have HS:Hid (Qm a ns n=(qV 7,ns,n)):=by show _=_;unfold Qm;rw[if_pos hn]
   rw[HS.out];clear h hL hE hbx
   go_enter Tryz.func7,Tryz.ntmps7
   go_wp2_with fail
   generalize ((w.alloc (.cells #[.int .i64 a.kind,.slice la a.lines.length lc] 36)).alloc (.cells #[.int .i64 0,.int .i64 0,.string ⟨#[]⟩] 29))=W0 at *
   refine Calls.mono (zK 7 W0) ?_;rintro e wr1 ⟨rfl,hbr1⟩;have HRr:Hid _:=(hbr1.block _ (qh HR0.out)).trans HR0.out;have hBr:=hb0.trans (hbr1.mono hb0.size);have r0:wr1.cell? ⟨w.heap.size+1,0,none⟩=some (.int .i64 0):=by rw[cH9 HRr.out];rfl
   have r1:wr1.cell? ⟨w.heap.size+1,1,none⟩=some (.int .i64 0):=by rw[cH9 HRr.out];rfl
   have r2:wr1.cell? ⟨w.heap.size+1,2,none⟩=some (.string ⟨#[]⟩):=by rw[cH9 HRr.out];rfl
   have f0:wr1.frozen? ⟨w.heap.size+1,0,none⟩=false:=fH9 HRr.out _;have f1:wr1.frozen? ⟨w.heap.size+1,1,none⟩=false:=fH9 HRr.out _;have f2:wr1.frozen? ⟨w.heap.size+1,2,none⟩=false:=fH9 HRr.out _;clear hbr1 HRr x1 xf1;go_wp2_with fail;refine bodyPost_ret (v:=.agg #[.int .i64 7,.int .i64 0,.string ⟨#[]⟩]) (by simp[results,Tryz.results7,go_sem,qd,World.cell?_setCell_other,r0,r1,r2]) rfl ?_
   exact zn (qV 7) HST.out (zA hBr (by omega))
 · have hni : ¬ (100 : Int) ≤ (n : Int) := by omega
   have HS:Hid (Qm a ns n=((jp a ns).1,(jp a ns).2,n+1)):=by show _=_;unfold Qm;rw[if_neg hn]
   rw[HS.out];have hcast:((n+1:Nat):Int)=(n:Int)+1:=by omega
   have hbA:Below (w.setCell ⟨sb,1,none⟩ (.int .i64 ((n:Int)+1))).heap.size (w.setCell ⟨sb,1,none⟩ (.int .i64 ((n:Int)+1))) (((w.setCell ⟨sb,1,none⟩ (.int .i64 ((n:Int)+1))).alloc (.cells #[.int .i64 a.kind,.slice la a.lines.length lc] 36)).alloc (.cells #[.int .i64 0,.int .i64 0,.string ⟨#[]⟩] 29)):=(Below.alloc1 _ _).alloc (by simp) _
   have hszs:(w.setCell ⟨sb,1,none⟩ (.int .i64 ((n:Int)+1))).heap.size=w.heap.size:=by simp
   have HF1:Hid (CFr sb w (((w.setCell ⟨sb,1,none⟩ (.int .i64 ((n:Int)+1))).alloc (.cells #[.int .i64 a.kind,.slice la a.lines.length lc] 36)).alloc (.cells #[.int .i64 0,.int .i64 0,.string ⟨#[]⟩] 29))):=(CFr.put sb w 1 _).trans (CFr.later hbA);have hE1:Below w0.heap.size w0 (((w.setCell ⟨sb,1,none⟩ (.int .i64 ((n:Int)+1))).alloc (.cells #[.int .i64 a.kind,.slice la a.lines.length lc] 36)).alloc (.cells #[.int .i64 0,.int .i64 0,.string ⟨#[]⟩] 29)):=(hB0.setCell (p:=⟨sb,1,none⟩) hsb _).trans (hbA.mono (by rw[hszs];exact hB0.size))
   have HSE:Hid _:=hE.later hE1;have HL1:Hid (Strs T (((w.setCell ⟨sb,1,none⟩ (.int .i64 ((n:Int)+1))).alloc (.cells #[.int .i64 a.kind,.slice la a.lines.length lc] 36)).alloc (.cells #[.int .i64 0,.int .i64 0,.string ⟨#[]⟩] 29)) (.slice la a.lines.length lc) a.lines):=Strs.later (hL.carry fun b hb=>⟨hb,qa (hT b hb)⟩) hbA
   have HS1:Hid (Sto S (((w.setCell ⟨sb,1,none⟩ (.int .i64 ((n:Int)+1))).alloc (.cells #[.int .i64 a.kind,.slice la a.lines.length lc] 36)).alloc (.cells #[.int .i64 0,.int .i64 0,.string ⟨#[]⟩] 29)) sb ns (n+1)):=by
    have:=h.acts (Below.refl _ w) (n+1);rw[hcast]at this
    exact this.later hbA
   have HA1:Hid ((((w.setCell ⟨sb,1,none⟩ (.int .i64 ((n:Int)+1))).alloc (.cells #[.int .i64 a.kind,.slice la a.lines.length lc] 36)).alloc (.cells #[.int .i64 0,.int .i64 0,.string ⟨#[]⟩] 29)).heap[w.heap.size]?=some (.cells #[.int .i64 a.kind,.slice la a.lines.length lc] 36 (0,0))):=by
    have h1:=heap_alloc_new (w.setCell ⟨sb,1,none⟩ (.int .i64 ((n:Int)+1))) (.cells #[.int .i64 a.kind,.slice la a.lines.length lc] 36);rw[hszs]at h1
    show _=_
    rw[heap_alloc_old _ _ (by simp)]
    exact h1
   have HR1:Hid ((((w.setCell ⟨sb,1,none⟩ (.int .i64 ((n:Int)+1))).alloc (.cells #[.int .i64 a.kind,.slice la a.lines.length lc] 36)).alloc (.cells #[.int .i64 0,.int .i64 0,.string ⟨#[]⟩] 29)).heap[w.heap.size+1]?=some (.cells #[.int .i64 0,.int .i64 0,.string ⟨#[]⟩] 29 (0,0))):=by
    have h1:=heap_alloc_new ((w.setCell ⟨sb,1,none⟩ (.int .i64 ((n:Int)+1))).alloc (.cells #[.int .i64 a.kind,.slice la a.lines.length lc] 36)) (.cells #[.int .i64 0,.int .i64 0,.string ⟨#[]⟩] 29);rw[World.size_alloc,hszs]at h1
    exact h1
   have hwr:IntKind.i64.wrap ((n:Int)+1)=(n:Int)+1:=IntWalk.i64_in _ (by omega)
   have y1:w.cell? ⟨sb,1,none⟩=some (.int .i64 (n:Int)):=by rw[cH9 hbx];rfl
   have yf1:w.frozen? ⟨sb,1,none⟩=false:=fH9 hbx _;have q0:(((w.setCell ⟨sb,1,none⟩ (.int .i64 ((n:Int)+1))).alloc (.cells #[.int .i64 a.kind,.slice la a.lines.length lc] 36)).alloc (.cells #[.int .i64 0,.int .i64 0,.string ⟨#[]⟩] 29)).cell? ⟨w.heap.size,0,none⟩=some (.int .i64 a.kind):=by rw[cH9 HA1.out];rfl
   have q1:(((w.setCell ⟨sb,1,none⟩ (.int .i64 ((n:Int)+1))).alloc (.cells #[.int .i64 a.kind,.slice la a.lines.length lc] 36)).alloc (.cells #[.int .i64 0,.int .i64 0,.string ⟨#[]⟩] 29)).cell? ⟨w.heap.size,1,none⟩=some (.slice la a.lines.length lc):=by rw[cH9 HA1.out];rfl
   clear hbA hszs hcast HA0 HR0 HBX x1 xf1 hb0;clear h hL hE hbx hT hE1
   by_cases hk1:a.kind=1
   · have HK : Hid (jp a ns = QE a.lines ns) := by show _ = _;unfold jp;rw[if_pos hk1]
     have HCL:Hid _:=qbQ S T sb (n+1) ns _ a.lines _ HS1.out HL1.out HSE.out hz;rw[HK.out];obtain ⟨rep,D,hrd⟩:∃ rep D,QE a.lines ns=(rep,D):=⟨_,_,rfl⟩;rw[hrd]at HCL ⊢
     clear hrd HK;rw[hk1]at q0 HF1 HL1 HS1 HA1 HR1 HSE HCL q1
     have HK1:Hid _:=hk1;rw[HK1.out];simp only at HCL
     go_enter Tryz.func7,Tryz.ntmps7
     go_wp2_with fail
     generalize (((w.setCell ⟨sb,1,none⟩ (.int .i64 ((n:Int)+1))).alloc (.cells #[.int .i64 1,.slice la a.lines.length lc] 36)).alloc (.cells #[.int .i64 0,.int .i64 0,.string ⟨#[]⟩] 29))=W1 at *
     refine Calls.mono HCL.out ?_;rintro e w2 hP;obtain ⟨rfl,hSt,hF⟩:=hP;have HPP:Hid (ji S sb W1 rep D (n+1) _ w2):=⟨rfl,hSt,hF⟩;have HRr:Hid (w2.heap[w.heap.size+1]?=_):=(hF.frame _ (qh HR1.out) (by omega)).trans HR1.out
     have r0:w2.cell? ⟨w.heap.size+1,0,none⟩=some (.int .i64 0):=by rw[cH9 HRr.out];rfl
     have r1:w2.cell? ⟨w.heap.size+1,1,none⟩=some (.int .i64 0):=by rw[cH9 HRr.out];rfl
     have r2:w2.cell? ⟨w.heap.size+1,2,none⟩=some (.string ⟨#[]⟩):=by rw[cH9 HRr.out];rfl
     have f0:w2.frozen? ⟨w.heap.size+1,0,none⟩=false:=fH9 HRr.out _;have f1:w2.frozen? ⟨w.heap.size+1,1,none⟩=false:=fH9 HRr.out _;have f2:w2.frozen? ⟨w.heap.size+1,2,none⟩=false:=fH9 HRr.out _;clear hSt hF HRr;go_wp2_with fail;refine bodyPost_ret (v:=.agg #[.int .i64 rep.1,.int .i64 rep.2.1,.string rep.2.2]) (by simp[results,Tryz.results7,go_sem,qd,World.cell?_setCell_other,r0,r1,r2]) rfl ?_
     exact jR HST.out HF1.out (by omega) (qh HR1.out) HPP.out
   · have hk1b : (a.kind == 1) = false := by simpa using hk1
     by_cases hk2:a.kind=2
     · have HK : Hid (jp a ns = jz a.lines ns) := by show _ = _;unfold jp;rw[if_neg hk1, if_pos hk2]
       have HCL:Hid _:=qab S T sb (n+1) ns _ a.lines _ HS1.out HL1.out HSE.out hz;rw[HK.out];obtain ⟨rep,D,hrd⟩:∃ rep D,jz a.lines ns=(rep,D):=⟨_,_,rfl⟩;rw[hrd]at HCL ⊢
       clear hrd HK hk1 hk1b;rw[hk2]at q0 HF1 HL1 HS1 HA1 HR1 HSE HCL q1
       have HK1:Hid _:=hk2;rw[HK1.out];simp only at HCL
       go_enter Tryz.func7,Tryz.ntmps7
       go_wp2_with fail
       generalize (((w.setCell ⟨sb,1,none⟩ (.int .i64 ((n:Int)+1))).alloc (.cells #[.int .i64 2,.slice la a.lines.length lc] 36)).alloc (.cells #[.int .i64 0,.int .i64 0,.string ⟨#[]⟩] 29))=W1 at *
       refine Calls.mono HCL.out ?_;rintro e w2 hP;obtain ⟨rfl,hSt,hF⟩:=hP;have HPP:Hid (ji S sb W1 rep D (n+1) _ w2):=⟨rfl,hSt,hF⟩;have HRr:Hid (w2.heap[w.heap.size+1]?=_):=(hF.frame _ (qh HR1.out) (by omega)).trans HR1.out
       have r0:w2.cell? ⟨w.heap.size+1,0,none⟩=some (.int .i64 0):=by rw[cH9 HRr.out];rfl
       have r1:w2.cell? ⟨w.heap.size+1,1,none⟩=some (.int .i64 0):=by rw[cH9 HRr.out];rfl
       have r2:w2.cell? ⟨w.heap.size+1,2,none⟩=some (.string ⟨#[]⟩):=by rw[cH9 HRr.out];rfl
       have f0:w2.frozen? ⟨w.heap.size+1,0,none⟩=false:=fH9 HRr.out _;have f1:w2.frozen? ⟨w.heap.size+1,1,none⟩=false:=fH9 HRr.out _;have f2:w2.frozen? ⟨w.heap.size+1,2,none⟩=false:=fH9 HRr.out _;clear hSt hF HRr;go_wp2_with fail;refine bodyPost_ret (v:=.agg #[.int .i64 rep.1,.int .i64 rep.2.1,.string rep.2.2]) (by simp[results,Tryz.results7,go_sem,qd,World.cell?_setCell_other,r0,r1,r2]) rfl ?_
       exact jR HST.out HF1.out (by omega) (qh HR1.out) HPP.out
     · have hk2b : (a.kind == 2) = false := by simpa using hk2
       by_cases hk3:a.kind=3
       · have HK : Hid (jp a ns = (Zx ns, ns)) := by show _ = _;unfold jp;rw[if_neg hk1, if_neg hk2, if_pos hk3]
         have HCL:Hid _:=qcc S sb (n+1) ns _ HS1.out HSE.out;rw[HK.out];obtain ⟨rep,hrd⟩:∃ rep,Zx ns=rep:=⟨_,rfl⟩;obtain ⟨D,hDD⟩:∃ D,ns=D:=⟨_,rfl⟩;rw[hrd]at HCL ⊢
         clear hrd HK hk1 hk1b hk2 hk2b;rw[hk3]at q0 HF1 HL1 HS1 HA1 HR1 HSE HCL q1
         have HK1:Hid _:=hk3;rw[HK1.out];subst hDD
         go_enter Tryz.func7,Tryz.ntmps7
         go_wp2_with fail
         generalize (((w.setCell ⟨sb,1,none⟩ (.int .i64 ((n:Int)+1))).alloc (.cells #[.int .i64 3,.slice la a.lines.length lc] 36)).alloc (.cells #[.int .i64 0,.int .i64 0,.string ⟨#[]⟩] 29))=W1 at *
         refine Calls.mono HCL.out ?_;rintro e w2 hP;obtain ⟨rfl,hSt,hF⟩:=hP;have HPP:Hid (ji S sb W1 rep ns (n+1) _ w2):=⟨rfl,hSt,hF⟩;have HRr:Hid (w2.heap[w.heap.size+1]?=_):=(hF.frame _ (qh HR1.out) (by omega)).trans HR1.out
         have r0:w2.cell? ⟨w.heap.size+1,0,none⟩=some (.int .i64 0):=by rw[cH9 HRr.out];rfl
         have r1:w2.cell? ⟨w.heap.size+1,1,none⟩=some (.int .i64 0):=by rw[cH9 HRr.out];rfl
         have r2:w2.cell? ⟨w.heap.size+1,2,none⟩=some (.string ⟨#[]⟩):=by rw[cH9 HRr.out];rfl
         have f0:w2.frozen? ⟨w.heap.size+1,0,none⟩=false:=fH9 HRr.out _;have f1:w2.frozen? ⟨w.heap.size+1,1,none⟩=false:=fH9 HRr.out _;have f2:w2.frozen? ⟨w.heap.size+1,2,none⟩=false:=fH9 HRr.out _;clear hSt hF HRr;go_wp2_with fail;refine bodyPost_ret (v:=.agg #[.int .i64 rep.1,.int .i64 rep.2.1,.string rep.2.2]) (by simp[results,Tryz.results7,go_sem,qd,World.cell?_setCell_other,r0,r1,r2]) rfl ?_
         exact jR HST.out HF1.out (by omega) (qh HR1.out) HPP.out
       · have hk3b : (a.kind == 3) = false := by simpa using hk3
         have HK:Hid (jp a ns=(qV 4,ns)):=by show _=_;unfold jp;rw[if_neg hk1,if_neg hk2,if_neg hk3]
         rw[HK.out];clear HK hk1 hk2 hk3
         go_enter Tryz.func7,Tryz.ntmps7
         go_wp2_with fail
         generalize (((w.setCell ⟨sb,1,none⟩ (.int .i64 ((n:Int)+1))).alloc (.cells #[.int .i64 a.kind,.slice la a.lines.length lc] 36)).alloc (.cells #[.int .i64 0,.int .i64 0,.string ⟨#[]⟩] 29))=W1 at *
         refine Calls.mono (zK 4 _) ?_;rintro e w2 ⟨rfl,hbr⟩;have hP:ji S sb W1 (qV 4) ns (n+1) (.returned (.agg #[.int .i64 4,.int .i64 0,.string ⟨#[]⟩])) w2:=zn (qV 4) HS1.out hbr;have HPP:Hid _:=hP;have HRr:Hid (w2.heap[w.heap.size+1]?=_):=(hbr.block _ (qh HR1.out)).trans HR1.out;have r0:w2.cell? ⟨w.heap.size+1,0,none⟩=some (.int .i64 0):=by rw[cH9 HRr.out];rfl
         have r1:w2.cell? ⟨w.heap.size+1,1,none⟩=some (.int .i64 0):=by rw[cH9 HRr.out];rfl
         have r2:w2.cell? ⟨w.heap.size+1,2,none⟩=some (.string ⟨#[]⟩):=by rw[cH9 HRr.out];rfl
         have f0:w2.frozen? ⟨w.heap.size+1,0,none⟩=false:=fH9 HRr.out _;have f1:w2.frozen? ⟨w.heap.size+1,1,none⟩=false:=fH9 HRr.out _;have f2:w2.frozen? ⟨w.heap.size+1,2,none⟩=false:=fH9 HRr.out _;clear hbr HRr hP;go_wp2_with fail;refine bodyPost_ret (v:=.agg #[.int .i64 4,.int .i64 0,.string ⟨#[]⟩]) (by simp[results,Tryz.results7,go_sem,qd,World.cell?_setCell_other,r0,r1,r2]) rfl ?_
         exact jR HST.out HF1.out (by omega) (qh HR1.out) HPP.out
theorem new_make:yl 0 ⟨false,⟨#[100,111,99]⟩,[],[]⟩=newD∧xF ⟨false,⟨#[100,111,99]⟩,[],[]⟩=0∧qt newD=true:=by
 refine ⟨?_,?_,?_⟩<;>kernel_rfl
set_option maxHeartbeats 1000000 in
theorem VU (w:World) :
 Calls Tryz.prog 6 #[] w fun e w'=>∃ (sb:Nat) (S:Nat→Prop),e=.returned (.pointer (some ⟨sb,0,none⟩))∧w.heap.size≤sb∧sb<w'.heap.size∧(∀ b,S b→w.heap.size≤b)∧Sto S w' sb newD 0∧Below w.heap.size w w':=by
 obtain ⟨e1,e2,e3⟩:=new_make
 have HM:Hid _:=Yr (fun _=>False) 0 (.slice none 0 0) (.slice none 0 0) ⟨false,⟨#[100,111,99]⟩,[],[]⟩ w qk.nil ⟨rfl,none,0,rfl,nZ9 _⟩ (by
  intro t ht;rw[List.mem_singleton.1 ht];exact ⟨⟨by show 3≤maxLen;unfold maxLen;omega,by intro y hy;cases hy⟩,trivial⟩) (fun _ h=>h.elim)
 rw[e1,e2]at HM
 have HG:Hid _:=e3;clear e1 e2 e3
 go_enter Tryz.func6,Tryz.ntmps6
 go_wp2_with fail;refine Calls.mono HM.out ?_;rintro e w1 ⟨v1,rfl,hN1,hb1⟩;obtain ⟨a1,c1,rfl,_,hc1⟩:=hN1.shape;have hb2:=Below.alloc1 w1 (.cells #[.slice a1 newD.length c1] 39);have hb12:=hb1.trans (hb2.mono hb1.size);have HN2:Hid _:=qv.later hN1.bounded hb2;clear hN1 HM;go_wp2_with fail;go_ret;have hb3:=Below.alloc1 (w1.alloc (.cells #[.slice a1 newD.length c1] 39)) (.cells #[.slice a1 newD.length c1,.int .i64 0] 48);have hs1:=hb1.size;refine ⟨w1.heap.size+1,fun b=>w.heap.size≤b∧b<w1.heap.size,rfl,by omega,by simp,fun b hb=>hb.1,⟨fun b hb=>⟨by simp;omega,by omega⟩,HG.out,a1,c1,?_,?_,hc1⟩,hb12.trans (hb3.mono hb12.size)⟩
 · have := heap_alloc_new (w1.alloc (.cells #[.slice a1 newD.length c1] 39)) (.cells #[.slice a1 newD.length c1, .int .i64 0] 48);rw[World.size_alloc]at this
   exact this
 · exact qv.later HN2.out hb3
end
end Go.Proofs.YtlldnnalamdegaaGreatDoor
namespace Go.Proofs.YtlldnnalamdegaaGreatDoor
open Go.RowKit
set_option maxRecDepth 100000
def aliveL1:ByteArray:=⟨#[108,97,115,116,32,47,100,111,99,32,60,97,62,120,60,47,97,62]⟩
def aliveL2:ByteArray:=⟨#[115,101,116,32,47,100,111,99,32,107,61,118]⟩
def aliveT:ByteArray:=⟨#[60,100,111,99,32,107,61,34,118,34,62,60,97,62,120,60,47,97,62,60,47,100,111,99,62]⟩
def aliveD:List Nd:=[⟨false,⟨#[100,111,99]⟩,[(⟨#[107]⟩,⟨#[118]⟩)],-1,[1]⟩,⟨false,⟨#[97]⟩,[],0,[2]⟩,⟨true,⟨#[120]⟩,[],1,[]⟩]
theorem alive_one:Qm ⟨2,[aliveL1,aliveL2]⟩ newD 0=((0,2,⟨#[]⟩),aliveD,1):=by kernel_rfl
theorem alive_two:Qm ⟨3,[]⟩ aliveD 1=((0,3,aliveT),aliveD,2):=by kernel_rfl
end Go.Proofs.YtlldnnalamdegaaGreatDoor
namespace Go.Proofs.YtlldnnalamdegaaGreatDoor
open Go.ChangeShapes Go.WideShapes Go.ChangeAt Go.RowKit
set_option maxRecDepth 100000
section
attribute [local go_sem] qd
theorem Xu (w:World):Strs (fun b=>b=w.heap.size) (w.alloc (.cells #[.string ⟨#[108,97,115,116,32,47,100,111,99,32,60,97,62,120,60,47,97,62]⟩,.string ⟨#[115,101,116,32,47,100,111,99,32,107,61,118]⟩] 9)) (.slice (some ⟨w.heap.size,0,none⟩) 2 2) [aliveL1,aliveL2]:=by
 have hh:=heap_alloc_new w (.cells #[.string ⟨#[108,97,115,116,32,47,100,111,99,32,60,97,62,120,60,47,97,62]⟩,.string ⟨#[115,101,116,32,47,100,111,99,32,107,61,118]⟩] 9);refine ⟨_,2,rfl,nR9 _,by unfold maxLen;omega,fun _=>⟨w.heap.size,0,rfl,rfl,fun i x hx=>?_⟩⟩
 match i,hx with
 | 0,hx=>simp at hx;subst hx;rw[cH9 hh];rfl
 | 1,hx=>simp at hx;subst hx;rw[cH9 hh];rfl
 | i+2,hx=>simp at hx
theorem Zk {sb:Nat}{w0 w w':World}(h:Below w0.heap.size w0 w)(hF:CFr sb w w')(hs:w0.heap.size≤sb):Below w0.heap.size w0 w' :=
 ⟨hF.below.os.trans h.os,hF.below.tape.trans h.tape,hF.below.output.trans h.output,Nat.le_trans h.size hF.below.size,fun k hk=>(hF.frame k (Nat.lt_of_lt_of_le hk h.size) (by omega)).trans (h.block k hk)⟩
set_option linter.unusedSimpArgs false in
set_option maxHeartbeats 2000000 in
theorem Qc (w:World)(hE:jd w):Calls Tryz.prog 4 #[] w fun e w'=>e=.returned (.bool true)∧Below w.heap.size w w':=by
 have HE:Hid _:=hE;clear hE
 go_enter Tryz.func4,Tryz.ntmps4
 go_wp2_with fail;refine Calls.mono (VU w) ?_;rintro e w1 ⟨sb,S,rfl,hsb,hsl,hSw,hSt,hb1⟩;have hpn:(Value.pointer (some ⟨sb,0,none⟩)=Value.pointer none)=False:=by simp
 have HD1:Hid _:=KQ S (fun b=>b=w1.heap.size) sb 0 newD _ ⟨2,[aliveL1,aliveL2]⟩ w (w1.alloc (.cells #[.string ⟨#[108,97,115,116,32,47,100,111,99,32,60,97,62,120,60,47,97,62]⟩,.string ⟨#[115,101,116,32,47,100,111,99,32,107,61,118]⟩] 9)) (hSt.later (Below.alloc1 w1 _)) (Xu w1) (fun b hb=>by omega) HE.out (hb1.alloc hb1.size _) hsb (by
  intro s hs;simp only[List.mem_cons,List.not_mem_nil,or_false]at hs
  rcases hs with rfl|rfl
  · show 18≤maxLen;unfold maxLen;omega
  · show 12≤maxLen;unfold maxLen;omega)
 rw[alive_one]at HD1
 simp only at HD1
 have hbA:Below w.heap.size w (w1.alloc (.cells #[.string ⟨#[108,97,115,116,32,47,100,111,99,32,60,97,62,120,60,47,97,62]⟩,.string ⟨#[115,101,116,32,47,100,111,99,32,107,61,118]⟩] 9)):=hb1.alloc hb1.size _;have hs12:w1.heap.size≤(w1.alloc (.cells #[.string ⟨#[108,97,115,116,32,47,100,111,99,32,60,97,62,120,60,47,97,62]⟩,.string ⟨#[115,101,116,32,47,100,111,99,32,107,61,118]⟩] 9)).heap.size:=by simp
 clear hSt hb1;go_wp2_with fail
 generalize w1.alloc (.cells #[.string ⟨#[108,97,115,116,32,47,100,111,99,32,60,97,62,120,60,47,97,62]⟩,.string ⟨#[115,101,116,32,47,100,111,99,32,107,61,118]⟩] 9)=W2 at *
 refine Calls.mono HD1.out ?_;rintro e w3 ⟨rfl,⟨S3,hS3,hSt3⟩,hF3⟩;have hB3:=Zk hbA hF3 hsb;have hs13:w1.heap.size≤w3.heap.size:=Nat.le_trans hs12 hF3.below.size;have hb4:=Below.alloc1 w3 (.cells #[.int .i64 0,.int .i64 2,.string ⟨#[]⟩] 29);have hB4:=hB3.trans (hb4.mono hB3.size);have HR4:Hid _:=heap_alloc_new w3 (.cells #[.int .i64 0,.int .i64 2,.string ⟨#[]⟩] 29);have HD2:Hid _:=KQ S3 (fun _=>False) sb 1 aliveD (.slice none 0 0) ⟨3,[]⟩ w (w3.alloc (.cells #[.int .i64 0,.int .i64 2,.string ⟨#[]⟩] 29)) (hSt3.later hb4) Strs.nil (fun _ h=>h.elim) HE.out hB4 hsb (by intro s hs;cases hs)
 rw[alive_two]at HD2
 simp only[aliveT]at HD2
 clear HD1 hSt3 hF3 hb4 hbA;go_wp2_with fail
 generalize w3.alloc (.cells #[.int .i64 0,.int .i64 2,.string ⟨#[]⟩] 29)=W4 at *
 refine Calls.mono HD2.out ?_;rintro e w5 ⟨rfl,⟨S5,hS5,hSt5⟩,hF5⟩;have hB5:=Zk hB4 hF5 hsb;have hb6:=Below.alloc1 w5 (.cells #[.int .i64 0,.int .i64 3,.string ⟨#[60,100,111,99,32,107,61,34,118,34,62,60,97,62,120,60,47,97,62,60,47,100,111,99,62]⟩] 29);have hB6:=hB5.trans (hb6.mono hB5.size);have hne:w3.heap.size≠sb:=by omega
 have HR6:Hid _:=(hb6.block _ (Nat.lt_of_lt_of_le (qh HR4.out) hF5.below.size)).trans ((hF5.frame _ (qh HR4.out) hne).trans HR4.out);have HQ6:Hid _:=heap_alloc_new w5 (.cells #[.int .i64 0,.int .i64 3,.string ⟨#[60,100,111,99,32,107,61,34,118,34,62,60,97,62,120,60,47,97,62,60,47,100,111,99,62]⟩] 29);have r0:(w5.alloc (.cells #[.int .i64 0,.int .i64 3,.string ⟨#[60,100,111,99,32,107,61,34,118,34,62,60,97,62,120,60,47,97,62,60,47,100,111,99,62]⟩] 29)).cell? ⟨w3.heap.size,0,none⟩=some (.int .i64 0):=by rw[cH9 HR6.out];rfl
 have r1:(w5.alloc (.cells #[.int .i64 0,.int .i64 3,.string ⟨#[60,100,111,99,32,107,61,34,118,34,62,60,97,62,120,60,47,97,62,60,47,100,111,99,62]⟩] 29)).cell? ⟨w3.heap.size,1,none⟩=some (.int .i64 2):=by rw[cH9 HR6.out];rfl
 have HDC:Hid _:=qcF S5 sb 2 aliveD _ (hSt5.later hb6);clear HD2 hSt5 hF5 hb6 HR6;go_wp2_with fail;refine Calls.mono HDC.out ?_;rintro e w7 ⟨v7,rfl,hN7,hb7⟩;obtain ⟨a7,c7,rfl,_,_⟩:=hN7.shape;have hB7:=hB6.trans (hb7.mono hB6.size)
 have hfd:(Instr.field 39 (.agg #[.slice a7 aliveD.length c7]) 0).run Tryz.prog w7=.ok (.slice a7 aliveD.length c7) w7:=by
  simp[Instr.field,part,asAgg,go_sem]
 have hl3:aliveD.length=3:=rfl;rw[hl3]at hfd ⊢
 clear hN7 hb7 HDC;go_wp2_with fail;go_ret;exact ⟨rfl,hB7⟩
end
section
attribute [local go_sem] qd
def yR (S:Nat→Prop)(w:World)(v:Value)(l:List Ac):Prop :=
  ∃ a cap, v = .slice a l.length cap ∧ l.length ≤ cap ∧ cap ≤ maxLen ∧
    (l≠[]→∃ b o,a=some ⟨b,o,none⟩∧S b∧∀ (i:Nat) (x:Ac),l[i]?=some x→∃ vs,w.cell? ⟨b,o+i*2,none⟩=some (.int .i64 x.kind)∧w.cell? ⟨b,o+i*2+1,none⟩=some vs∧Strs S w vs x.lines)
theorem yR.carry {S S':Nat→Prop}{w w':World}{v:Value}{l:List Ac}(h:yR S w v l)(hw:∀ b,S b→S' b∧w'.heap[b]?=w.heap[b]?):yR S' w' v l:=by
 obtain ⟨a,cap,h1,h2,h3,h4⟩:=h;refine ⟨a,cap,h1,h2,h3,fun hne=>?_⟩
 obtain ⟨b,o,ha,hs,hc⟩:=h4 hne;refine ⟨b,o,ha,(hw b hs).1,fun i x hx=>?_⟩
 obtain ⟨vs,c0,c1,hS⟩:=hc i x hx;refine ⟨vs,?_,?_,hS.carry hw⟩
 · rw[World.cell?_of_block (a:=⟨b,o+i*2,none⟩) (hw b hs).2];exact c0
 · rw[World.cell?_of_block (a:=⟨b,o+i*2+1,none⟩) (hw b hs).2];exact c1
theorem yR.shape {S:Nat→Prop}{w:World}{v:Value}{l:List Ac}(h:yR S w v l):∃ a c,v=.slice a l.length c∧l.length≤c∧c≤maxLen:=by
 obtain ⟨a,cap,h1,h2,h3,_⟩:=h;exact ⟨a,cap,h1,h2,h3⟩
theorem yR.at {S:Nat→Prop}{w:World}{v:Value}{l:List Ac}(h:yR S w v l){i:Nat}{x:Ac}(hx:l[i]?=some x):∃ b o cap vs,v=.slice (some ⟨b,o,none⟩) l.length cap∧S b∧b<w.heap.size∧w.cell? ⟨b,o+i*2,none⟩=some (.int .i64 x.kind)∧w.cell? ⟨b,o+i*2+1,none⟩=some vs∧Strs S w vs x.lines:=by
 obtain ⟨a,cap,h1,h2,h3,h4⟩:=h;obtain ⟨b,o,rfl,hs,hc⟩:=h4 (by intro e;subst e;simp at hx)
 obtain ⟨vs,c0,c1,hS⟩:=hc i x hx;exact ⟨b,o,cap,vs,h1,hs,World.block_lt_of_cell? w _ c0,c0,c1,hS⟩
def KG (l:List Ac):Prop:=∀ x∈l,∀ s∈x.lines,s.size≤maxLen
def jr (l:List Ac):List Nd × Nat:=l.foldl (fun p a=>((Qm a p.1 p.2).2.1,(Qm a p.1 p.2).2.2)) (newD,0)
theorem qb8 {l:List Ac}{i:Nat}{a:Ac}(h:l[i]?=some a):jr (l.take (i+1))=((Qm a (jr (l.take i)).1 (jr (l.take i)).2).2.1,(Qm a (jr (l.take i)).1 (jr (l.take i)).2).2.2):=by
 have hi:=qe h;have e:l[i]=a:=by simpa[hi] using h
 unfold jr;rw[List.take_succ_eq_append_getElem hi,e,List.foldl_append];rfl
end
end Go.Proofs.YtlldnnalamdegaaGreatDoor
namespace Go.Proofs.YtlldnnalamdegaaGreatDoor
open Go.RowKit
set_option maxRecDepth 100000
def Zc (l:List Ac)(i:Nat):Rep:=match l[i]? with
 | some a=>(Qm a (jr (l.take i)).1 (jr (l.take i)).2).1
 | none=>qV 0
def YY (l:List Ac)(k:Nat):List Rep:=(List.range k).map (Zc l)
def zw (l:List Rep):List Value:=l.flatMap fun r=>[.int .i64 r.1,.int .i64 r.2.1,.string r.2.2]
theorem Vi {l:List Ac}{i:Nat}{a:Ac}(h:l[i]?=some a):Zc l i=(Qm a (jr (l.take i)).1 (jr (l.take i)).2).1:=by
 unfold Zc;rw[h]
theorem qaF (l:List Ac)(k:Nat):YY l (k+1)=YY l k++[Zc l k]:=by
 unfold YY;rw[List.range_succ,List.map_append];rfl
theorem Kd {l:List Ac}{k i:Nat}(h:i<k):(YY l k)[i]?=some (Zc l i):=by
 unfold YY;rw[List.getElem?_map,List.getElem?_range h];rfl
theorem Vj {l:List Ac}{k i:Nat}(h:i<k):Zc (l.take k) i=Zc l i:=by
 unfold Zc;rw[List.getElem?_take_of_lt h,List.take_take,Nat.min_eq_left (by omega)]
theorem ZL (l m:List Rep):zw (l++m)=zw l++zw m:=by simp[zw]
theorem repCells_get:∀ {l:List Rep}{i:Nat}{r:Rep},l[i]?=some r→(zw l)[i*3]?=some (.int .i64 r.1)∧(zw l)[i*3+1]?=some (.int .i64 r.2.1)∧(zw l)[i*3+2]?=some (.string r.2.2)
 | [],i,r,h=>by simp at h
 | x :: l, 0, r, h => by
   have e:x=r:=by simpa using h
   subst e;exact ⟨rfl,rfl,rfl⟩
 | x :: l, i + 1, r, h => by
   have ih:=repCells_get (l:=l) (i:=i) (r:=r) (by simpa using h)
   have e:zw (x::l)=.int .i64 x.1::.int .i64 x.2.1::.string x.2.2::zw l:=rfl;rw[e,show (i+1)*3=i*3+1+1+1 by omega]
   exact ih
end Go.Proofs.YtlldnnalamdegaaGreatDoor
namespace Go.Proofs.YtlldnnalamdegaaGreatDoor
open Go.ChangeShapes Go.WideShapes Go.ChangeAt Go.RowKit
set_option maxRecDepth 100000
section
attribute [local go_sem] qd
theorem repInfo:(Tryz.prog.info? 29).map (fun i=>(i.zero,i.size,i.bytes))=some (some (.agg #[.int .i64 0,.int .i64 0,.string ⟨#[]⟩]),3,32):=by kernel_rfl
structure qdy (w:World) (sb:Nat) (l:List Ac) (k:Nat) (v:Value) (wr:World):Prop where
 below:Below w.heap.size w wr
 row:wr.ownsRow w.heap.size 29 3 v k (zw (YY l k))
 own:v.ownBlock≠some sb
 sto:∃ S:Nat→Prop,(∀ b,S b→v.ownBlock≠some b)∧Sto S wr sb (jr (l.take k)).1 (jr (l.take k)).2
set_option linter.unusedSimpArgs false in
set_option maxHeartbeats 2000000 in
theorem Xi (S0:Nat→Prop)(vl:Value)(l:List Ac)(w:World)(hL:yR S0 w vl l)(hS0:∀ b,S0 b→b<w.heap.size)(hz:KG l)(hE:jd w)(h100:l.length≤100) :
 Calls Tryz.prog 5 #[vl] w fun e w'=>∃ v,e=.returned (.tuple #[v,.int .i64 0])∧w'.ownsRow w.heap.size 29 3 v l.length (zw (YY l l.length))∧Below w.heap.size w w':=by
 obtain ⟨la,lc,rfl,hlc,hlm⟩:=hL.shape;obtain ⟨i0,hi,hz0,hz1,hz2⟩:=info_parts repInfo;unfold maxLen at hlm
 have HL:Hid (yR S0 w (.slice la l.length lc) l):=hL;have HS0:Hid _:=hS0;have HZ:Hid _:=hz;have HE:Hid _:=hE;have hgt:¬ (100:Int)<(l.length:Int):=by omega
 clear hL hS0 hz hE
 go_enter Tryz.func5,Tryz.ntmps5
 go_wp2_with fail;refine Calls.mono (VU w) ?_;rintro e w1 ⟨sb,S,rfl,hsb,hsl,hSw,hSt,hb1⟩;have HI0:Hid (qdy w sb l 0 (.slice none 0 0) w1):=⟨hb1,World.ownsRow_nil _ _ _ _,by simp[Value.ownBlock],⟨S,fun _ _=>by simp[Value.ownBlock],hSt⟩⟩
 clear hSt hSw;go_wp2_with fail
 go_loopg [14,5] l.length (fun g i u wr=>∃ (k:Nat) (v:Value),k+g=l.length∧i=.int .i64 k∧v=u∧qdy w sb l k v wr)
 case atStart => exact ⟨0,_,by omega,rfl,rfl,HI0.out⟩
 case round =>
  clear HI0;obtain ⟨k,v,hk,rfl,hvu,hI⟩:=hrel;subst hvu;obtain ⟨hB,hrow,hown,S2,hS2,hSt2⟩:=hI
  by_cases hlt:k<l.length
  · obtain ⟨x, hx⟩ : ∃ x, l[k]? = some x := ⟨l[k], by simp[hlt]⟩
    obtain ⟨b1,o1,c1,vs,hv1,_,hbl,e0,e1,hstr⟩:=(HL.out.carry (S':=S0) fun b hb=>⟨hb,hB.block b (HS0.out b hb)⟩).at hx
    injection hv1 with hv1 hv1l hv1c
    subst hv1 hv1c;clear hv1l;obtain ⟨sa,sc,rfl,_,_⟩:=hstr.shape;have hbA:=Below.alloc1 wr (.cells #[.int .i64 x.kind,.slice sa x.lines.length sc] 36);have hBA:=hB.trans (hbA.mono hB.size);have HDO:Hid _:=KQ S2 S0 sb (jr (l.take k)).2 (jr (l.take k)).1 _ x w _ (hSt2.later hbA) (Strs.later hstr hbA) (fun b hb=>by have:=HS0.out b hb;omega) HE.out hBA hsb (HZ.out x (List.mem_of_getElem? hx))
    have HRS:Hid _:=qb8 hx;have HRA:Hid _:=Vi hx;obtain ⟨rep,ns1,n1,hrd⟩:∃ rep ns1 n1,Qm x (jr (l.take k)).1 (jr (l.take k)).2=(rep,ns1,n1):=⟨_,_,_,rfl⟩;rw[hrd]at HDO HRS HRA
    simp only at HDO HRS HRA
    have HROW:Hid _:=hrow;have HOWN:Hid _:=hown;have HS2:Hid _:=hS2;have hszA:wr.heap.size<(wr.alloc (.cells #[.int .i64 x.kind,.slice sa x.lines.length sc] 36)).heap.size:=by simp
    have HRA1:Hid _:=hbA;clear hSt2 hrow hown hS2 hstr hrd hbA hx;go_wp2_with fail
    generalize wr.alloc (.cells #[.int .i64 x.kind,.slice sa x.lines.length sc] 36)=W1 at *
    refine Calls.mono HDO.out ?_;rintro e w3 ⟨rfl,⟨S3,hS3,hSt3⟩,hF3⟩;obtain ⟨rc,rn,rt⟩:=rep;simp only at HRA ⊢
    have hB3:=Zk hBA hF3 hsb;have hlt3:∀ g,v.ownBlock=some g→w.heap.size≤g∧g<wr.heap.size∧g≠sb:=fun g hg=>⟨(World.ownsRow.lt HROW.out g hg).1,(World.ownsRow.lt HROW.out g hg).2,fun e=>HOWN.out (by rw[hg,e])⟩
    have hrow3:w3.ownsRow w.heap.size 29 3 v k (zw (YY l k)):=Za HROW.out fun g hg=>(hF3.frame g (by have:=(hlt3 g hg).2.1;omega) (hlt3 g hg).2.2).trans (HRA1.out.block g (hlt3 g hg).2.1)
    have hb4:=Below.alloc1 w3 (.cells #[.int .i64 rc,.int .i64 rn,.string rt] 29);have hB4:=hB3.trans (hb4.mono hB3.size);have HR4:Hid _:=World.ownsRow.alloc hrow3 (.cells #[.int .i64 rc,.int .i64 rn,.string rt] 29);have HN4:Hid _:=heap_alloc_new w3 (.cells #[.int .i64 rc,.int .i64 rn,.string rt] 29);have HST4:Hid _:=hSt3.later hb4;have HLT:Hid _:=hlt3
    have HS3:Hid (∀ b,S3 b→v.ownBlock≠some b∧b<w3.heap.size):=fun b hb=>⟨fun e=>by
     rcases hS3 b hb with h|h
     · exact HS2.out b h e
     · have:=(hlt3 b e).2.1;omega,(hSt3.here b hb).1⟩
    have hsw3:w.heap.size≤w3.heap.size:=hB3.size;have hsb3:sb<w3.heap.size:=by obtain ⟨_,_,hbx,_,_⟩:=hSt3.box;exact qh hbx
    clear hSt3 hF3 hrow3 hS3 HDO HROW HS2 hlt3 hb4 HRA1 e0 e1;go_wp2_with (at_builtin;refine wpList_append_own_at _ rfl _ _ 24 rfl w.heap.size 29 i0 _ 3 32 Tryz.underlying24 hi hz0 hz1 hz2 rfl (by decide) v k (zw (YY l k)) rfl ?qc0 ⟨w3.heap.size,0,none⟩ 1 1 [.int .i64 rc,.int .i64 rn,.string rt] rfl ?qc1 ?qc2 ?qc3 ?qc4 ?qc5 ?qc6 ?_)
    case qc0 => exact HR4.out
    case qc1 => rfl
    case qc2 =>
     intro j u hj;rw[Addr.add_lit,Nat.zero_add,cH9 HN4.out]
     simpa using hj
    case qc3 =>
     intro u hu;simp only[List.mem_cons,List.not_mem_nil,or_false]at hu
     rcases hu with rfl|rfl|rfl<;>rfl
    case qc4 => unfold maxLen;omega
    case qc5 => omega
    case qc6 => simp;omega
    intro v5 W5 hown5 hgr _ hob
    have HI5:Hid (qdy w sb l (k+1) v5 W5):=by
     have hsz4:(w3.alloc (.cells #[.int .i64 rc,.int .i64 rn,.string rt] 29)).heap.size=w3.heap.size+1:=by simp
     have hB5:Below w.heap.size (w3.alloc (.cells #[.int .i64 rc,.int .i64 rn,.string rt] 29)) W5:=(Below.refl _ _).grown hgr (by omega) (fun z hz=>(HLT.out z hz).1)
     have hno:∀ b,v.ownBlock≠some b→b<w3.heap.size→v5.ownBlock≠some b:=by
      intro b h1 h2
      rcases hob with h|h
      · rw[h];exact h1
      · rw[h];intro e;injection e with e;omega
     refine ⟨hB4.trans (hB5.mono (nR9 _)),?_,hno sb HOWN.out hsb3,⟨S3,fun b hb=>hno b (HS3.out b hb).1 (HS3.out b hb).2,?_⟩⟩
     · rw[qaF,ZL,HRA.out];exact hown5
     · rw[HRS.out];refine HST4.out.keep hgr.size ?_;rintro b (hb|rfl)
       · exact hgr.block b (by have:=(HS3.out b hb).2;omega) (fun e=>(HS3.out b hb).1 e.symm)
       · exact hgr.block _ (by omega) (fun e=>HOWN.out e.symm)
    clear hown5 hgr hob HR4 HN4 HST4 HLT HS3 HOWN HRS HRA;go_wp2_with fail
    go_roundg (l.length-(k+1))
    case measure => omega
    case rel => exact ⟨k+1,v5,by omega,by go_num,rfl,HI5.out⟩
  · have hkk : k = l.length := by omega
    subst hkk;clear hSt2;go_wp2_with fail
    go_ret2
    exact ⟨v,rfl,hrow,hB⟩
end
def zP (l:List (Ac × Value)):List Value:=l.flatMap fun p=>[.int .i64 p.1.kind,p.2]
theorem QI (l:List (Ac × Value)):(zP l).length=l.length*2:=by
 induction l with
 | nil=>rfl
 | cons r l ih =>
   have e:zP (r::l)=[.int .i64 r.1.kind,r.2]++zP l:=rfl;rw[e,List.length_append,ih,List.length_cons];simp;omega
theorem actCells_get:∀ {l:List (Ac × Value)}{i:Nat}{r:Ac × Value},l[i]?=some r→(zP l)[i*2]?=some (.int .i64 r.1.kind)∧(zP l)[i*2+1]?=some r.2
 | [],i,r,h=>by simp at h
 | x :: l, 0, r, h => by
   have e:x=r:=by simpa using h
   subst e;exact ⟨rfl,rfl⟩
 | x :: l, i + 1, r, h => by
   have ih:=actCells_get (l:=l) (i:=i) (r:=r) (by simpa using h)
   have e:zP (x::l)=.int .i64 x.1.kind::x.2::zP l:=rfl;rw[e,show (i+1)*2=i*2+1+1 by omega]
   exact ih
theorem actInfoC:(Tryz.prog.info? 36).map (fun i=>(i.zero,i.size,i.bytes))=some (some (.agg #[.int .i64 0,.slice none 0 0]),2,32):=by kernel_rfl
theorem yR.raw {S:Nat→Prop}{w:World}{ad:Addr}{n cap:Nat}{l:List Ac}(h:yR S w (.slice (some ad) n cap) l):∃ ps:List (Ac × Value),ps.map Prod.fst=l∧(∀ p∈ps,Strs S w p.2 p.1.lines)∧∀ j u,(zP ps)[j]?=some u→w.cell? (ad.add j)=some u:=by
 obtain ⟨a,c,h1,h2,h3,h4⟩:=h
 by_cases hne:l=[]
 · subst hne;exact ⟨[],rfl,(fun p hp=>by cases hp),(fun j u hj=>by simp[zP]at hj)⟩
 · obtain ⟨b, o, ha, hs, hc⟩ := h4 hne;subst ha
   injection h1 with h1 _ _
   injection h1 with h1
   subst h1
   let f:Ac × Nat→Ac × Value:=fun p=>(p.1,(w.cell? ⟨b,o+p.2*2+1,none⟩).getD (.int .i64 0))
   have hget:∀ i x,l[i]?=some x→(l.zipIdx.map f)[i]?=some (f (x,i)):=by
    intro i x hx;rw[List.getElem?_map,List.getElem?_zipIdx,hx];simp
   have hback:∀ i p,(l.zipIdx.map f)[i]?=some p→∃ x,l[i]?=some x∧p=f (x,i):=by
    intro i p hp;rw[List.getElem?_map,List.getElem?_zipIdx]at hp
    cases hx:l[i]? with
    | none=>rw[hx]at hp;simp at hp
    | some x=>rw[hx]at hp;simp at hp;exact ⟨x,rfl,hp.symm⟩
   have hval:∀ i x,l[i]?=some x→w.cell? ⟨b,o+i*2,none⟩=some (.int .i64 x.kind)∧w.cell? ⟨b,o+i*2+1,none⟩=some (f (x,i)).2∧Strs S w (f (x,i)).2 x.lines:=by
    intro i x hx;obtain ⟨vs,c0,c1,hstr⟩:=hc i x hx;have e:(f (x,i)).2=vs:=by show (w.cell? ⟨b,o+i*2+1,none⟩).getD (.int .i64 0)=vs;rw[c1];rfl
    rw[e];exact ⟨c0,c1,hstr⟩
   refine ⟨l.zipIdx.map f,?_,?_,?_⟩
   · rw[List.map_map];have:(Prod.fst ∘ f)=Prod.fst:=rfl;rw[this,List.zipIdx_map_fst]
   · intro p hp;obtain ⟨i,hi⟩:=List.mem_iff_getElem?.1 hp;obtain ⟨x,hx,rfl⟩:=hback i p hi;exact (hval i x hx).2.2
   · intro j u hj;rw[Addr.add_lit];have hlt:=qe hj;rw[QI]at hlt
     simp only[List.length_map,List.length_zipIdx]at hlt
     have hi:j / 2<l.length:=by omega
     obtain ⟨x,hx⟩:∃ x,l[j / 2]?=some x:=⟨l[j / 2],by simp[hi]⟩
     obtain ⟨g0,g1⟩:=actCells_get (hget _ x hx);obtain ⟨v0,v1,_⟩:=hval _ x hx
     rcases (by omega:j=j / 2*2∨j=j / 2*2+1) with e|e
     · rw[e]at hj
       rw[g0]at hj
       rw[e,←Option.some.inj hj];exact v0
     · rw[e]at hj
       rw[g1]at hj
       rw[e,←Option.some.inj hj,←Nat.add_assoc];exact v1
theorem yR.of_owns {S:Nat→Prop}{w':World}{B:Nat}{v:Value}{ps:List (Ac × Value)}(h:w'.ownsRow B 36 2 v ps.length (zP ps))(hs:∀ p∈ps,Strs S w' p.2 p.1.lines):yR (fun b=>S b∨B≤b) w' v (ps.map Prod.fst):=by
 have hcell:=h
 rcases h.2 with ⟨rfl,hz⟩|⟨g,cap,cur,rfl,hB,hh,hc,hm,hsz,ht⟩
 · have e : ps = [] := List.eq_nil_of_length_eq_zero hz;subst e;exact ⟨none,0,rfl,nR9 _,nZ9 _,fun h=>absurd rfl h⟩
 · refine ⟨_, cap, by rw[List.length_map], by rw[List.length_map];exact hc, hm, fun _ => ⟨g, 0, rfl, Or.inr hB, fun i x hx => ?_⟩⟩
   rw[List.getElem?_map]at hx
   cases hp:ps[i]? with
   | none=>rw[hp]at hx;cases hx
   | some p =>
     rw[hp]at hx
     have e:p.1=x:=by simpa using hx
     subst e;have hi:=qe hp;obtain ⟨g0,g1⟩:=actCells_get hp;have k0:=World.ownsRow.cellAt hcell (i*2) (by omega)
     have k1:=World.ownsRow.cellAt hcell (i*2+1) (by omega)
     refine ⟨p.2,?_,?_,(hs p (List.mem_of_getElem? hp)).carry fun b hb=>⟨Or.inl hb,rfl⟩⟩
     · rw[Nat.zero_add,k0,g0]
     · rw[Nat.zero_add,k1,g1]
theorem yR.later {S:Nat→Prop}{w w':World}{v:Value}{l:List Ac}(h:yR S w v l)(hS:∀ b,S b→b<w.heap.size)(hb:Below w.heap.size w w'):yR S w' v l:=h.carry fun b hb'=>⟨hb',hb.block b (hS b hb')⟩
theorem yR.bounded {S:Nat→Prop}{w:World}{v:Value}{l:List Ac}(h:yR S w v l):yR (fun b=>S b∧b<w.heap.size) w v l:=by
 obtain ⟨a,c,h1,h2,h3,h4⟩:=h;refine ⟨a,c,h1,h2,h3,fun hne=>?_⟩
 obtain ⟨b,o,ha,hs,hc⟩:=h4 hne;refine ⟨b,o,ha,⟨hs,?_⟩,fun i x hx=>?_⟩
 · cases l with
   | nil=>exact absurd rfl hne
   | cons y r =>
     obtain ⟨_,c0,_⟩:=hc 0 y rfl;exact World.block_lt_of_cell? w _ c0
 · obtain ⟨vs, c0, c1, hstr⟩ := hc i x hx;exact ⟨vs,c0,c1,hstr.bounded⟩
theorem yR.take {S:Nat→Prop}{w:World}{ad:Addr}{n cap:Nat}{l:List Ac}(h:yR S w (.slice (some ad) n cap) l)(k:Nat)(hk:k≤l.length):yR S w (.slice (some ad) k cap) (l.take k):=by
 obtain ⟨a,c,h1,h2,h3,h4⟩:=h
 injection h1 with e1 e2 e3
 subst e1 e3;have hlen:(l.take k).length=k:=by rw[List.length_take];omega
 refine ⟨_,cap,by rw[hlen],by omega,h3,fun hne=>?_⟩
 have hl:l≠[]:=by intro e;subst e;simp at hne
 obtain ⟨b,o,ha,hs,hc⟩:=h4 hl;refine ⟨b,o,ha,hs,fun i x hx=>?_⟩
 have hi:=qe hx;rw[hlen]at hi
 rw[List.getElem?_take_of_lt hi]at hx
 exact hc i x hx
theorem Qi {w:World}{B:Nat}{e:TypeId}{k n:Nat}{v:Value}{xs:List Value}(h:w.ownsRow B e k v n xs):∃ a c,v=.slice a n c∧(0<n→∃ g,a=some ⟨g,0,none⟩∧g<w.heap.size):=by
 have h0:=h
 rcases h.2 with ⟨rfl,hz⟩|⟨g,cap,cur,rfl,hB,hh,hc,hm,hsz,ht⟩
 · exact ⟨none,0,by rw[hz],fun hn=>by omega⟩
 · exact ⟨_,cap,rfl,fun _=>⟨g,rfl,qh hh⟩⟩
theorem x9 {ops:Array Oper}{rest:List Oper}{o:Oper}{a:Act}{w:World}{Q:Exit→Act→World→Prop}(hgd:o.guard=none)(x:Operand)
 (ho:o.op=.call { callee:=.builtin .append,args:=#[.const (.slice none 0 0),x],argTypes:=#[22,22] })
 (S:Nat→Prop) (ad:Addr) (cap n:Nat) (l:List Ac) (hx:a.eval x=.slice (some ad) n cap) (h:yR S w (.slice (some ad) n cap) l) (hl:l.length≤1048576)
 (hK:∀ v' w',yR (fun b=>S b∨w.heap.size≤b) w' v' l→Below w.heap.size w w'→wpList Tryz.prog ops Q rest (a.put o.dst v') w'):wpList Tryz.prog ops Q (o::rest) a w:=by
 obtain ⟨i0,hi,hz0,hz1,hz2⟩:=info_parts actInfoC;obtain ⟨ps,hps,hstr,hcell⟩:=h.raw;have hlen:ps.length=l.length:=by rw[←hps,List.length_map]
 obtain ⟨_,_,hv,_,_⟩:=h.shape
 injection hv with _ hn _
 refine wpList_plain hgd fun K hK'=>?_
 obtain ⟨v',w',hr,h2,h3,_,h5⟩:=run_append_own_at (P:=Tryz.prog) w w.heap.size 22 o.type 36 i0 _ 2 32 Tryz.underlying22 hi hz0 hz1 hz2 rfl (by decide) (.slice none 0 0) 0 [] (World.ownsRow_nil w _ _ _) ad n cap (zP ps) (by rw[QI];omega) (by
  exact hcell) (by
  intro u hu;obtain ⟨p,hp,hu⟩:=List.mem_flatMap.1 hu;simp only[List.mem_cons,List.not_mem_nil,or_false]at hu
  rcases hu with rfl|rfl
  · rfl
  · obtain ⟨sa, sc, e, _, _⟩ := (hstr p hp).shape;rw[e];rfl) (by unfold maxLen;omega) (by omega) (nR9 _)
 have hB:Below w.heap.size w w':=(Below.refl _ w).grown h3 (nR9 _) (fun k hk=>by simp[Value.ownBlock]at hk)
 have hs:a.eval (.const (.slice none 0 0))=.slice none 0 0:=rfl;unfold Oper.wp execOp;simp only[ho,resolve,invoke,builtin,Sem.run_bind,Sem.run_pure,Result.andThen_ok,List.map_toArray,List.map_cons,List.map_nil,hs,hx,hr];refine hK' _ _ (hK v' w' ?_ hB)
 have h6:w'.ownsRow w.heap.size 36 2 v' ps.length (zP ps):=by
  have:0+n=ps.length:=by omega
  rw[this]at h2
  simpa using h2
 have:=yR.of_owns (S:=S) h6 (fun p hp=>Strs.later (hstr p hp) hB)
 rw[hps]at this
 exact this
theorem xH {ops:Array Oper}{rest:List Oper}{o:Oper}{a:Act}{w:World}{Q:Exit→Act→World→Prop}(hgd:o.guard=none)(x:Operand)
 (ho:o.op=.call { callee:=.builtin .append,args:=#[.const (.slice none 0 0),x],argTypes:=#[22,22] })
 (cap:Nat) (hx:a.eval x=.slice none 0 cap) (hK:wpList Tryz.prog ops Q rest (a.put o.dst (.slice none 0 0)) w):wpList Tryz.prog ops Q (o::rest) a w:=by
 obtain ⟨i0,hi,hz0,hz1,hz2⟩:=info_parts actInfoC;refine wpList_plain hgd fun K hK'=>?_
 have hs:a.eval (.const (.slice none 0 0))=.slice none 0 0:=rfl
 have hrun:(Builtin.append_ #[22,22] o.type #[.slice none 0 0,.slice none 0 cap]).run Tryz.prog w=.ok (.slice none 0 0) w:=by
  simp[Builtin.append_,run_underlying Tryz.underlying22,sizeOf,typeInfo,hi,Builtin.lenOf,Builtin.firstCells]
 unfold Oper.wp execOp;simp only[ho,resolve,invoke,builtin,Sem.run_bind,Sem.run_pure,Result.andThen_ok,List.map_toArray,List.map_cons,List.map_nil,hs,hx,hrun];exact hK' _ _ hK
section
attribute [local go_sem] qd
theorem qdn (k:Int)(n:Nat):∃ m:Nat,m≤n∧Int.tmod (Int.tmod k ((n:Int)+1)+(n:Int)+1) ((n:Int)+1)=(m:Int)∧-((n:Int)+1)<Int.tmod k ((n:Int)+1)∧Int.tmod k ((n:Int)+1)<(n:Int)+1:=by
 have h1:Int.tmod k ((n:Int)+1)<(n:Int)+1:=Int.tmod_lt_of_pos k (by omega)
 have h2:-((n:Int)+1)<Int.tmod k ((n:Int)+1):=Int.lt_tmod_of_pos k (by omega)
 have h3:0≤Int.tmod k ((n:Int)+1)+(n:Int)+1:=by omega
 have h4:=Int.tmod_lt_of_pos (Int.tmod k ((n:Int)+1)+(n:Int)+1) (show (0:Int)<(n:Int)+1 by omega)
 have h5:0≤Int.tmod (Int.tmod k ((n:Int)+1)+(n:Int)+1) ((n:Int)+1):=Int.tmod_nonneg _ h3;exact ⟨(Int.tmod (Int.tmod k ((n:Int)+1)+(n:Int)+1) ((n:Int)+1)).toNat,by omega,by omega,h2,h1⟩
set_option linter.unusedSimpArgs false in
set_option maxHeartbeats 2000000 in
theorem Kw (S0:Nat→Prop)(vl:Value)(l:List Ac)(k:Int)(w:World)(hL:yR S0 w vl l)(hS0:∀ b,S0 b→b<w.heap.size)(hz:KG l)(hE:jd w) :
 Calls Tryz.prog 3 #[vl,.int .i64 k] w fun e w'=>e=.returned (.bool true)∧Below w.heap.size w w':=by
 obtain ⟨la,lc,rfl,hlc,hlm⟩:=hL.shape;unfold maxLen at hlm
 have HL:Hid (yR S0 w (.slice la l.length lc) l):=hL;have HS0:Hid _:=hS0;have HZ:Hid _:=hz;have HE:Hid _:=hE;clear hL hS0 hz hE
 by_cases h50:l.length≤50
 · obtain ⟨m, hm, hmk, hr1, hr2⟩ := qdn k l.length;obtain ⟨r,hr⟩:∃ r,Int.tmod k ((l.length:Int)+1)=r:=⟨_,rfl⟩;rw[hr]at hmk hr1 hr2
   have hgt:¬ (50:Int)<(l.length:Int):=by omega
   have hne:¬ ((l.length:Int)+1=0):=by omega
   have hne2:((l.length:Int)+1==0)=false:=by simp;omega
   cases la with
   | none =>
     have hl0:l=[]:=by
      apply Classical.byContradiction;intro hne
      obtain ⟨a,c,h1,_,_,h4⟩:=HL.out;obtain ⟨b,o,ha,_⟩:=h4 hne;subst ha
      injection h1 with h1
      cases h1
     subst hl0;obtain rfl:m=0:=by simpa using hm
     have HR0:Hid (∀ W,Below w.heap.size w W→Calls Tryz.prog 5 #[.slice none 0 0] W fun e w'=>∃ v,e=.returned (.tuple #[v,.int .i64 0])∧w'.ownsRow W.heap.size 29 3 v 0 (zw (YY [] 0))∧Below W.heap.size W w'):=fun W hW=>Xi (fun _=>False) _ [] W ⟨none,0,rfl,nR9 _,nZ9 _,fun h=>absurd rfl h⟩ (fun _ h=>h.elim) (fun x hx=>by cases hx) (HE.out.later hW) (by simp)
     simp only[List.length_nil]at *
     go_enter Tryz.func3,Tryz.ntmps3
     go_wp2_with fail;refine Calls.mono (Qc w HE.out) ?_;rintro e w1 ⟨rfl,hb1⟩;go_wp2_with (at_builtin;refine xH rfl _ rfl lc rfl ?_);go_wp2_with fail;refine Calls.mono (HR0.out w1 hb1) ?_;rintro e w3 ⟨v3,rfl,hrow3,hb3⟩;obtain ⟨r3,c3,rfl,hg3⟩:=Qi hrow3;have hB3:=hb1.trans (hb3.mono hb1.size);clear hrow3 hg3;go_wp2_with (at_builtin;refine xH rfl _ rfl lc rfl ?_);go_wp2_with fail;refine Calls.mono (HR0.out w3 hB3) ?_;rintro e w5 ⟨v5,rfl,hrow5,hb5⟩;obtain ⟨r5,c5,rfl,hg5⟩:=Qi hrow5;have hB5:=hB3.trans (hb5.mono hB3.size);clear hrow5 hg5;go_wp2_with fail;go_rounds 1;go_ret;exact ⟨rfl,hB5⟩
   | some ad =>
     go_enter Tryz.func3,Tryz.ntmps3
     go_wp2_with fail;refine Calls.mono (Qc w HE.out) ?_;rintro e w1 ⟨rfl,hb1⟩;have HL1:Hid _:=HL.out.later HS0.out hb1;have hm50:(m:Int)≤50:=by omega
     go_wp2_with (at_builtin;refine x9 rfl _ rfl S0 ad lc l.length l rfl ?qa0 ?qa1 ?_)
     case qa0 => exact HL1.out
     case qa1 => omega
     intro v2 w2 hA2 hb2;have hB2:=hb1.trans (hb2.mono hb1.size);have HRN:Hid _:=Xi _ v2 l w2 hA2.bounded (fun b hb=>hb.2) HZ.out (HE.out.later hB2) (by omega)
     clear hA2 HL1;go_wp2_with fail;refine Calls.mono HRN.out ?_;rintro e w3 ⟨v3,rfl,hrow3,hb3⟩;obtain ⟨r3,c3,rfl,hg3⟩:=Qi hrow3;have hB3:=hB2.trans (hb3.mono hB2.size);have HL3:Hid _:=(HL.out.later HS0.out hB3).take m hm;have HRW3:Hid _:=hrow3;have HG3:Hid _:=hg3;have hlen:(l.take m).length=m:=by rw[List.length_take];omega
     clear HRN hrow3 hg3;go_wp2_with (at_builtin;refine x9 rfl _ rfl S0 ad lc m (l.take m) rfl ?qa2 ?qa3 ?_)
     case qa2 => exact HL3.out
     case qa3 => omega
     intro v4 w4 hA4 hb4;have hB4:=hB3.trans (hb4.mono hB3.size);have HRN:Hid _:=Xi _ v4 (l.take m) w4 hA4.bounded (fun b hb=>hb.2) (fun x hx=>HZ.out x (List.mem_of_mem_take hx)) (HE.out.later hB4) (by omega)
     rw[hlen]at HRN
     clear hA4 HL3;go_wp2_with fail;refine Calls.mono HRN.out ?_;rintro e w5 ⟨v5,rfl,hrow5,hb5⟩;obtain ⟨r5,c5,rfl,hg5⟩:=Qi hrow5;have hB5:=hB4.trans (hb5.mono hB4.size);have hb35:=hb4.trans (hb5.mono hb4.size);have HRW5:Hid _:=hrow5;have HG5:Hid _:=hg5;clear HRN hrow5 hg5 hlen;go_wp2_with fail
     go_loopg [9] m (fun g i wr=>∃ j:Nat,j+g=m∧i=.int .i64 j∧Below w5.heap.size w5 wr)
     case atStart => exact ⟨0,by omega,rfl,Below.refl _ _⟩
     case round =>
      obtain ⟨j,hj,rfl,hB⟩:=hrel;have hBw:=hB5.trans (hB.mono hB5.size)
      by_cases hlt:j<m
      · have hjl : (j : Int) < (l.length : Int) := by omega
        have hjm:(j:Int)<(m:Int):=by omega
        obtain ⟨g3,rfl,hl3⟩:=HG3.out (by omega)
        obtain ⟨g5,rfl,hl5⟩:=HG5.out (by omega)
        have hb3r:=hb35.trans (hB.mono hb35.size);obtain ⟨x0,x1,x2⟩:=repCells_get (Kd (l:=l) (k:=l.length) (i:=j) (by omega))
        obtain ⟨y0,y1,y2⟩:=repCells_get (Kd (l:=l.take m) (k:=m) (i:=j) hlt);rw[Vj hlt]at y0 y1 y2
        rw[←World.ownsRow.cellAt HRW3.out (j*3) (by omega),←hb3r.cell (p:=⟨g3,j*3,none⟩) hl3]at x0
        rw[←World.ownsRow.cellAt HRW3.out (j*3+1) (by omega),←hb3r.cell (p:=⟨g3,j*3+1,none⟩) hl3]at x1
        rw[←World.ownsRow.cellAt HRW3.out (j*3+2) (by omega),←hb3r.cell (p:=⟨g3,j*3+2,none⟩) hl3]at x2
        rw[←World.ownsRow.cellAt HRW5.out (j*3) (by omega),←hB.cell (p:=⟨g5,j*3,none⟩) hl5]at y0
        rw[←World.ownsRow.cellAt HRW5.out (j*3+1) (by omega),←hB.cell (p:=⟨g5,j*3+1,none⟩) hl5]at y1
        rw[←World.ownsRow.cellAt HRW5.out (j*3+2) (by omega),←hB.cell (p:=⟨g5,j*3+2,none⟩) hl5]at y2
        generalize Zc l j=q at x0 x1 x2 y0 y1 y2
        obtain ⟨rc,rn,rt⟩:=q;simp only at x0 x1 x2 y0 y1 y2
        clear HRW3 HRW5 HG3 HG5 hb3r;go_wp2_with fail
        go_quiet (fail)
        go_wp2_with fail
        go_roundg (m-(j+1))
        case measure => omega
        case rel => exact ⟨j+1,by omega,by go_num,below_drewN hB nq⟩
      · have hkk : j = m := by omega
        subst hkk;go_wp2_with fail;go_ret;exact ⟨rfl,hBw⟩
 · have hgt : (50 : Int) < (l.length : Int) := by omega
   go_enter Tryz.func3,Tryz.ntmps3
   go_wp2_with fail;refine Calls.mono (Qc w HE.out) ?_;rintro e w1 ⟨rfl,hb1⟩;have HE1:Hid _:=HE.out.later hb1;go_wp2_with fail;refine Calls.mono (Qc w1 HE1.out) ?_;rintro e w2 ⟨rfl,hb2⟩;go_wp2_with fail;go_ret;exact ⟨rfl,hb1.trans (hb2.mono hb1.size)⟩
end
end Go.Proofs.YtlldnnalamdegaaGreatDoor
