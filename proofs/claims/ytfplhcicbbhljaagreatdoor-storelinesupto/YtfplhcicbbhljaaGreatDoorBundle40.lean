/- Bundled: AimW StoM StrsL ChW DocCp StoG StoW StoX StoD ApC StoC. What each says stands ahead of it. -/
import Derived.Test.YtfplhcicbbhljaaGreatDoorBundle39
namespace Go.Proofs.YtfplhcicbbhljaaGreatDoor
open Go.ChangeShapes Go.WideShapes Go.ChangeAt Go.RowKit
set_option maxRecDepth 100000
section
attribute [local go_sem] qd
def JB (o:Opn)(l:List Int):List Opn:=l.map fun n=>{ o with target:=n }
def x6 (o:Opn)(ca:Option Addr)(cc:Nat)(l:List Int):List Orw:=l.map fun n=>⟨o.kind,n,ca,o.content.length,cc,o.name,o.s⟩
theorem X5 {w w':World}{B:Nat}{e:TypeId}{k n:Nat}{v:Value}{xs:List Value}(h:w.ownsRow B e k v n xs)(hk:∀ g,v.ownBlock=some g→w'.heap[g]?=w.heap[g]?):w'.ownsRow B e k v n xs:=by
 refine ⟨h.1,?_⟩
 rcases h.2 with ⟨rfl,hz⟩|⟨g,cap,cur,rfl,hB,hh,hc,hm,hs,ht⟩
 · exact Or.inl ⟨rfl,hz⟩
 · exact Or.inr ⟨g,cap,cur,rfl,hB,(hk g rfl).trans hh,hc,hm,hs,ht⟩
theorem Q2 {w:World}{B B':Nat}{e:TypeId}{k n:Nat}{v:Value}{xs:List Value}(h:w.ownsRow B e k v n xs)(hB:B'≤B):w.ownsRow B' e k v n xs:=by
 refine ⟨h.1,?_⟩
 rcases h.2 with ⟨rfl,hz⟩|⟨g,cap,cur,rfl,hB1,hh,hc,hm,hs,ht⟩
 · exact Or.inl ⟨rfl,hz⟩
 · exact Or.inr ⟨g,cap,cur,rfl,Nat.le_trans hB hB1,hh,hc,hm,hs,ht⟩
theorem qbL (o:Opn)(ca:Option Addr)(cc:Nat){l:List Int}{k:Nat}{t:Int}(h:l[k]?=some t):qO (x6 o ca cc (l.take (k+1)))=qO (x6 o ca cc (l.take k))++[.int .i64 o.kind,.int .i64 t,.slice ca o.content.length cc,.string o.name,.string o.s]:=by
 have hk:=qj h;have e:l[k]=t:=by simpa[hk] using h
 rw[List.take_succ_eq_append_getElem hk,e];unfold x6 qO;rw[List.map_append,List.flatMap_append];rfl
structure qfr (w:World) (o:Opn) (ca:Option Addr) (cc:Nat) (l:List Int) (k:Nat) (v:Value) (wr:World):Prop where
 below:Below w.heap.size w wr
 box:∃ t:Int,wr.heap[w.heap.size]?=some (.cells #[.int .i64 o.kind,.int .i64 t,.slice ca o.content.length cc,.string o.name,.string o.s] 24 (0,0))
 row:wr.ownsRow (w.heap.size+1) 24 5 v k (qO (x6 o ca cc (l.take k)))
set_option maxHeartbeats 1000000 in
theorem qbM (T:Nat→Prop)(o:Opn)(ca:Option Addr)(cc:Nat)(vi:Value)(l:List Int)(w:World)(hI:zr T w vi l)(hl:l.length≤1048576) :
 Calls Tryz.prog 109 #[.agg #[.int .i64 o.kind,.int .i64 o.target,.slice ca o.content.length cc,.string o.name,.string o.s],vi] w fun e w'=>∃ v,e=.returned v∧w'.ownsRow w.heap.size 24 5 v l.length (qO (x6 o ca cc l))∧Below w.heap.size w w':=by
 obtain ⟨ia,ic,rfl,hil,hic⟩:=hI.shape;obtain ⟨i0,hi,hz0,hz1,hz2⟩:=info_parts opInfo;have HI:Hid _:=hI;have HI0:Hid (qfr w o ca cc l 0 (.slice none 0 0) (w.alloc (.cells #[.int .i64 o.kind,.int .i64 o.target,.slice ca o.content.length cc,.string o.name,.string o.s] 24))):=⟨Below.alloc1 w _,⟨_,heap_alloc_new w _⟩,World.ownsRow_nil _ _ _ _⟩;unfold maxLen at hic
 clear hI
 go_enter Tryz.func109,Tryz.ntmps109
 go_wp2_with fail
 go_loopg [10,5] l.length (fun g i u wr=>∃ (k:Nat) (v:Value),k+g=l.length∧i=.int .i64 k∧v=u∧qfr w o ca cc l k v wr)
 case atStart => exact ⟨0,_,by omega,rfl,rfl,HI0.out⟩
 case round =>
  clear HI0;obtain ⟨k,v,hk,rfl,hvu,hA⟩:=hrel;subst hvu;obtain ⟨t0,hbx⟩:=hA.box;have HB:Hid _:=hA.below;have HRW:Hid _:=hA.row
  by_cases hlt:k<l.length
  · have hlti : (k : Int) < (l.length : Int) := by omega
    obtain ⟨t,ht⟩:∃ t,l[k]?=some t:=⟨l[k],by simp[hlt]⟩
    obtain ⟨b1,o1,c1,hv1,_,_,e1⟩:=(zr.later HI.out HB.out).at ht
    injection hv1 with hv1 hv1l hv1c
    subst hv1 hv1c;clear hv1l;have HSN:Hid _:=qbL o ca cc ht;have q0:wr.cell? ⟨w.heap.size,0,none⟩=some (.int .i64 o.kind):=by rw[cH9 hbx];rfl
    have q1:wr.cell? ⟨w.heap.size,1,none⟩=some (.int .i64 t0):=by rw[cH9 hbx];rfl
    have q2:wr.cell? ⟨w.heap.size,2,none⟩=some (.slice ca o.content.length cc):=by rw[cH9 hbx];rfl
    have q3:wr.cell? ⟨w.heap.size,3,none⟩=some (.string o.name):=by rw[cH9 hbx];rfl
    have q4:wr.cell? ⟨w.heap.size,4,none⟩=some (.string o.s):=by rw[cH9 hbx];rfl
    have qf:wr.frozen? ⟨w.heap.size,1,none⟩=false:=fH9 hbx _
    have hbx1:(wr.setCell ⟨w.heap.size,1,none⟩ (.int .i64 t)).heap[w.heap.size]?=some (.cells #[.int .i64 o.kind,.int .i64 t,.slice ca o.content.length cc,.string o.name,.string o.s] 24 (0,0)):=by
     simp[World.setCell,Array.getElem?_modify,hbx]
    have hrow1:(wr.setCell ⟨w.heap.size,1,none⟩ (.int .i64 t)).ownsRow (w.heap.size+1) 24 5 v k (qO (x6 o ca cc (l.take k))):=X5 HRW.out (fun g hg=>qc (by have:=(World.ownsRow.lt HRW.out g hg).1;omega))
    have hB1:Below w.heap.size w (wr.setCell ⟨w.heap.size,1,none⟩ (.int .i64 t)):=HB.out.setCell (p:=⟨w.heap.size,1,none⟩) (nR9 _) _;have p0:(wr.setCell ⟨w.heap.size,1,none⟩ (.int .i64 t)).cell? ⟨w.heap.size,0,none⟩=some (.int .i64 o.kind):=by rw[cH9 hbx1];rfl
    have p1:(wr.setCell ⟨w.heap.size,1,none⟩ (.int .i64 t)).cell? ⟨w.heap.size,1,none⟩=some (.int .i64 t):=by rw[cH9 hbx1];rfl
    have p2:(wr.setCell ⟨w.heap.size,1,none⟩ (.int .i64 t)).cell? ⟨w.heap.size,2,none⟩=some (.slice ca o.content.length cc):=by rw[cH9 hbx1];rfl
    have p3:(wr.setCell ⟨w.heap.size,1,none⟩ (.int .i64 t)).cell? ⟨w.heap.size,3,none⟩=some (.string o.name):=by rw[cH9 hbx1];rfl
    have p4:(wr.setCell ⟨w.heap.size,1,none⟩ (.int .i64 t)).cell? ⟨w.heap.size,4,none⟩=some (.string o.s):=by rw[cH9 hbx1];rfl
    have HX1:Hid _:=hbx1;have HW1:Hid _:=hrow1;have HB1:Hid _:=hB1;have hszw:w.heap.size<wr.heap.size:=qh hbx;clear hbx hbx1 hrow1 hB1 ht hA HRW;go_wp2_with (at_builtin;refine wpList_append_own_at _ rfl _ _ 124 rfl (w.heap.size+1) 24 i0 _ 5 72 Tryz.underlying124 hi hz0 hz1 hz2 rfl (by decide) v k (qO (x6 o ca cc (l.take k))) rfl ?qc0 ⟨wr.heap.size,0,none⟩ 1 1 [.int .i64 o.kind,.int .i64 t,.slice ca o.content.length cc,.string o.name,.string o.s] rfl ?qc1 ?qc2 ?qc3 ?qc4 ?qc5 ?qc6 ?_)
    case qc0 => exact World.ownsRow.alloc HW1.out _
    case qc1 => rfl
    case qc2 =>
     intro j u hj;have hnew:=heap_alloc_new (wr.setCell ⟨w.heap.size,1,none⟩ (.int .i64 t)) (.cells #[.int .i64 o.kind,.int .i64 t,.slice ca o.content.length cc,.string o.name,.string o.s] 24);rw[World.size_setCell]at hnew
     rw[Addr.add_lit,Nat.zero_add,cH9 hnew]
     simpa using hj
    case qc3 =>
     intro u hu;simp only[List.mem_cons,List.not_mem_nil,or_false]at hu
     rcases hu with rfl|rfl|rfl|rfl|rfl<;>rfl
    case qc4 => unfold maxLen;omega
    case qc5 => omega
    case qc6 => simp;omega
    intro v2 W2 hown hgr _ _;have hbA:=Below.alloc1 (wr.setCell ⟨w.heap.size,1,none⟩ (.int .i64 t)) (.cells #[.int .i64 o.kind,.int .i64 t,.slice ca o.content.length cc,.string o.name,.string o.s] 24)
    have HI2:Hid (qfr w o ca cc l (k+1) v2 W2):=by
     have hB2:Below (w.heap.size+1) ((wr.setCell ⟨w.heap.size,1,none⟩ (.int .i64 t)).alloc (.cells #[.int .i64 o.kind,.int .i64 t,.slice ca o.content.length cc,.string o.name,.string o.s] 24)) W2:=(Below.refl _ _).grown hgr (by simp;omega) (fun z hz=>(World.ownsRow.lt HW1.out z hz).1)
     have hBA:Below w.heap.size w ((wr.setCell ⟨w.heap.size,1,none⟩ (.int .i64 t)).alloc (.cells #[.int .i64 o.kind,.int .i64 t,.slice ca o.content.length cc,.string o.name,.string o.s] 24)):=HB1.out.alloc HB1.out.size _;refine ⟨hBA.trans (hB2.mono (by omega)),⟨t,?_⟩,?_⟩
     · exact (hB2.block _ (by omega)).trans ((hbA.block _ (qh HX1.out)).trans HX1.out)
     · rw[HSN.out];exact hown
    clear hown hgr hbA HX1 HW1 HB1 HSN p0 p1 p2 p3 p4 q0 q1 q2 q3 q4 qf;go_wp2_with fail
    go_roundg (l.length-(k+1))
    case measure => omega
    case rel => exact ⟨k+1,v2,by omega,by go_num,rfl,HI2.out⟩
  · have hlti : ¬ ((k : Int) < (l.length : Int)) := by omega
    have hkk:k=l.length:=by omega
    subst hkk;clear hA;go_wp2_with fail;go_ret;refine ⟨v,rfl,?_,HB.out⟩;have:=HRW.out;rw[List.take_length]at this
    exact Q2 this (by omega)
end
end Go.Proofs.YtfplhcicbbhljaaGreatDoor
namespace Go.Proofs.YtfplhcicbbhljaaGreatDoor
open Go.RowKit
set_option maxRecDepth 100000
abbrev Rep:=Int × Int × ByteArray
def Ke (c:Int):Rep:=(c,0,⟨#[]⟩)
def ye (ns:List Nd):List ByteArray→List Opn × Int
 | []=>([],0)
 | s :: r =>
   if (qL s.data.toList).2.2≠0 then ([],(qL s.data.toList).2.2)
   else if ZM ns (qL s.data.toList).2.1≠0 then ([],ZM ns (qL s.data.toList).2.1)
   else if QL ns (qL s.data.toList).2.1=[] then ([],3)
   else if (ye ns r).2≠0 then ([],(ye ns r).2)
   else (JB (qL s.data.toList).1 (QL ns (qL s.data.toList).2.1)++(ye ns r).1,0)
def Jp (ns:List Nd):Rep :=
 if (jL ns 0).2≠0 then Ke (jL ns 0).2
 else if (jg ns.length (jL ns 0).1).2≠0 then Ke (jg ns.length (jL ns 0).1).2
 else (0,(ns.length:Int),(jg ns.length (jL ns 0).1).1)
def newD:List Nd:=[⟨false,⟨#[100,111,99]⟩,[],-1,[]⟩]
theorem Vp (s:ByteArray):xn (yd s):=by
 intro x hx;unfold yd at hx
 cases hp:yR s.data.toList with
 | none=>rw[hp]at hx;simp[asS]at hx
 | some l =>
   rw[hp]at hx
   simp only[Option.getD_some]at hx
   have hl:jf l=true:=by
    unfold yR at hp
    split at hp
    · split at hp
      · cases hp
      · split at hp
        · rename_i h;cases hp;exact h
        · cases hp
    · cases hp
   rw[←X6]at hl
   simp only[yj,Bool.and_eq_true,List.all_eq_true]at hl
   have h1:=hl.2 x hx;simp only[zg,Bool.and_eq_true,Bool.or_eq_true,decide_eq_true_eq]at h1
   rcases h1.2 with (h|h)|h
   · rw[h];exact nZ9 _
   · rw[h];show 1≤maxLen;unfold maxLen;omega
   · have:=Yv h;unfold maxLen;omega
theorem qaE (s:List UInt8):xn (qL s).2.1:=by
 have h0:xn []:=by intro x hx;cases hx
 unfold qL
 split
 · exact h0
 · split
   · exact h0
   · split
     · exact h0
     · split
       · exact h0
       · exact Vp _
theorem qe9 {ns:List Nd}{l:List St}:(QL ns l).length≤80:=by
 unfold QL
 split
 · rename_i h
   simp only[Bool.and_eq_true]at h
   have hne:l≠[]:=by
    intro e;have:=h.2;rw[e]at this
    simp[yj]at this
   exact Nat.le_trans (Yu h.1 (qd9 h.1 hne)) (YV h.1)
 · exact nZ9 _
end Go.Proofs.YtfplhcicbbhljaaGreatDoor
namespace Go.Proofs.YtfplhcicbbhljaaGreatDoor
open Go.ChangeShapes Go.WideShapes Go.ChangeAt Go.RowKit
set_option maxRecDepth 100000
def Strs (S:Nat→Prop)(w:World)(v:Value)(l:List ByteArray):Prop :=
  ∃ a cap, v = .slice a l.length cap ∧ l.length ≤ cap ∧ cap ≤ maxLen ∧
    (l≠[]→∃ b o,a=some ⟨b,o,none⟩∧S b∧∀ (i:Nat) (x:ByteArray),l[i]?=some x→w.cell? ⟨b,o+i,none⟩=some (.string x))
theorem Strs.carry {S S':Nat→Prop}{w w':World}{v:Value}{l:List ByteArray}(h:Strs S w v l)(hw:∀ b,S b→S' b∧w'.heap[b]?=w.heap[b]?):Strs S' w' v l:=by
 obtain ⟨a,cap,h1,h2,h3,h4⟩:=h;refine ⟨a,cap,h1,h2,h3,fun hne=>?_⟩
 obtain ⟨b,o,ha,hs,hc⟩:=h4 hne;refine ⟨b,o,ha,(hw b hs).1,fun i x hx=>?_⟩
 rw[World.cell?_of_block (a:=⟨b,o+i,none⟩) (hw b hs).2];exact hc i x hx
theorem Strs.bounded {S:Nat→Prop}{w:World}{v:Value}{l:List ByteArray}(h:Strs S w v l):Strs (fun b=>S b∧b<w.heap.size) w v l:=by
 obtain ⟨a,cap,h1,h2,h3,h4⟩:=h;refine ⟨a,cap,h1,h2,h3,fun hne=>?_⟩
 obtain ⟨b,o,ha,hs,hc⟩:=h4 hne;refine ⟨b,o,ha,⟨hs,?_⟩,hc⟩;cases l with
 | nil=>exact absurd rfl hne
 | cons x r=>exact World.block_lt_of_cell? w _ (hc 0 x rfl)
theorem Strs.later {S:Nat→Prop}{w w':World}{v:Value}{l:List ByteArray}(h:Strs S w v l)(hb:Below w.heap.size w w'):Strs S w' v l :=
 h.bounded.carry fun b hb'=>⟨hb'.1,hb.block b hb'.2⟩
theorem Strs.shape {S:Nat→Prop}{w:World}{v:Value}{l:List ByteArray}(h:Strs S w v l):∃ a c,v=.slice a l.length c∧l.length≤c∧c≤maxLen:=by
 obtain ⟨a,cap,h1,h2,h3,_⟩:=h;exact ⟨a,cap,h1,h2,h3⟩
theorem Strs.at {S:Nat→Prop}{w:World}{v:Value}{l:List ByteArray}(h:Strs S w v l){i:Nat}{x:ByteArray}(hx:l[i]?=some x):∃ b o cap,v=.slice (some ⟨b,o,none⟩) l.length cap∧S b∧b<w.heap.size∧w.cell? ⟨b,o+i,none⟩=some (.string x):=by
 obtain ⟨a,cap,h1,h2,h3,h4⟩:=h;have hne:l≠[]:=by intro e;subst e;simp at hx
 obtain ⟨b,o,rfl,hs,hc⟩:=h4 hne;exact ⟨b,o,cap,h1,hs,World.block_lt_of_cell? w _ (hc i x hx),hc i x hx⟩
theorem Strs.nil {S:Nat→Prop}{w:World}:Strs S w (.slice none 0 0) []:=⟨none,0,rfl,nR9 _,nZ9 _,fun h=>absurd rfl h⟩
section
attribute [local go_sem] qd
def xR (acc:List Opn)(p:List Opn × Int):List Opn × Int:=if p.2≠0 then ([],p.2) else (acc++p.1,0)
theorem qeC (ns:List Nd):∀ l:List ByteArray,(ye ns l).2≠0→(ye ns l).1=[]:=by
 intro l h;cases l with
 | nil=>rfl
 | cons s r =>
   unfold ye at h ⊢
   split
   · rfl
   · split
     · rfl
     · split
       · rfl
       · split
         · rfl
         · rename_i h1 h2 h3 h4
           rw[if_neg h1,if_neg h2,if_neg h3,if_neg h4]at h
           exact absurd rfl h
theorem qdz (ns:List Nd)(l:List ByteArray):xR [] (ye ns l)=ye ns l:=by
 unfold xR
 split
 · rename_i h
   exact Prod.ext (qeC ns l h).symm rfl
 · rename_i h
   exact Prod.ext (by simp) (by simpa using (Classical.not_not.1 h).symm)
theorem qb6 (a b:List Opn)(p:List Opn × Int):xR a (xR b p)=xR (a++b) p:=by
 unfold xR
 by_cases h:p.2≠0
 · rw[if_pos h,if_pos h,if_pos h]
 · rw[if_neg h,if_neg h,if_neg (by simp),List.append_assoc]
theorem qdf {ns:List Nd}{s:ByteArray}{r:List ByteArray}(h1:(qL s.data.toList).2.2=0)(h2:ZM ns (qL s.data.toList).2.1=0)(h3:QL ns (qL s.data.toList).2.1≠[]):ye ns (s::r)=xR (JB (qL s.data.toList).1 (QL ns (qL s.data.toList).2.1)) (ye ns r):=by
 rw[ye,if_neg (by simpa using h1),if_neg (by simpa using h2),if_neg h3]
 rfl
structure ChI (w:World) (ns:List Nd) (vd:Value) (ls:List ByteArray) (k:Nat) (v:Value) (wr:World):Prop where
 below:Below w.heap.size w wr
 box:wr.heap[w.heap.size]?=some (.cells #[vd] 60 (0,0))
 rest:∃ (acc:List Opn) (rs:List Orw),wr.ownsRow (w.heap.size+1) 24 5 v acc.length (qO rs)∧rs.length=acc.length ∧
  (∀ (i:Nat) r x,rs[i]?=some r→acc[i]?=some x→JA (fun b=>w.heap.size+1≤b∧b<wr.heap.size∧v.ownBlock≠some b) wr 2501 r x)∧acc.length≤80*k∧ye ns ls=xR acc (ye ns (ls.drop k))
theorem qeA {T:Nat→Prop}{w:World}{n:Nat}{o:Opn}{ca:Option Addr}{cc:Nat}(l:List Int)(hT:qb T w n (.slice ca o.content.length cc) o.content):∀ (i:Nat) r x,(x6 o ca cc l)[i]?=some r→(JB o l)[i]?=some x→JA T w n r x:=by
 intro i r x hr hx;unfold x6 at hr
 unfold JB at hx
 rw[List.getElem?_map]at hr hx
 cases hl:l[i]? with
 | none=>rw[hl]at hr;simp at hr
 | some t =>
   rw[hl]at hr hx
   simp only[Option.map_some,Option.some.injEq]at hr hx
   subst hr hx;exact ⟨rfl,rfl,rfl,rfl,ca,cc,rfl,hT⟩
theorem JA.carry {T T':Nat→Prop}{w w':World}{n:Nat}{r:Orw}{x:Opn}(h:JA T w n r x)(hw:∀ b,T b→T' b∧w'.heap[b]?=w.heap[b]?):JA T' w' n r x:=by
 obtain ⟨e1,e2,e3,e4,ca,cc,e5,hT⟩:=h;exact ⟨e1,e2,e3,e4,ca,cc,e5,qb.carry hw n hT⟩
set_option maxHeartbeats 2000000 in
theorem KM (S:Nat→Prop)(vd vl:Value)(ns:List Nd)(ls:List ByteArray)(w:World)(hD:Yk S w vd ns)(hL:Strs S w vl ls)(hE:jp w)(h6:ls.length≤6)(hT:∀ s∈ls,s.size≤maxLen) :
 Calls Tryz.prog 77 #[.agg #[vd],vl] w fun e w'=>∃ v,e=.returned (.tuple #[v,.int .i64 (ye ns ls).2])∧Ops (fun b=>w.heap.size≤b) w' 2501 v (ye ns ls).1∧Below w.heap.size w w':=by
 obtain ⟨la,lc,rfl,hll,hlc⟩:=hL.shape;obtain ⟨na,nc,rfl,hnl,hnc⟩:=hD.nodes.shape;obtain ⟨i0,hi,hz0,hz1,hz2⟩:=info_parts opInfo;have HD:Hid _:=hD;have HL:Hid (Strs S w (.slice la ls.length lc) ls):=hL;have HT:Hid _:=hT;have HEV:Hid (∀ W,Below w.heap.size w W→jp W):=fun W hW=>hE.later hW
 have HI0:Hid (ChI w ns (.slice na ns.length nc) ls 0 (.slice none 0 0) (w.alloc (.cells #[.slice na ns.length nc] 60))):=⟨Below.alloc1 w _,heap_alloc_new w _,[],[],World.ownsRow_nil _ _ _ _,rfl,by intro i r x hr;simp at hr,nR9 _,by rw[List.drop_zero,qdz]⟩
 unfold maxLen at hlc hnc
 clear hD hL hE hT;have noOps:∀ W:World,Ops (fun b=>w.heap.size≤b) W 2501 (.slice none 0 0) []:=fun W=>⟨none,0,rfl,nR9 _,nZ9 _,fun h=>absurd rfl h⟩
 have HNO:Hid _:=noOps;clear noOps
 go_enter Tryz.func77,Tryz.ntmps77
 go_wp2_with fail
 go_loopg [15,6] ls.length (fun g i u wr=>∃ (k:Nat) (v:Value),k+g=ls.length∧i=.int .i64 k∧v=u∧ChI w ns (.slice na ns.length nc) ls k v wr)
 case atStart => exact ⟨0,_,by omega,rfl,rfl,HI0.out⟩
 case round =>
  clear HI0;obtain ⟨k,v,hk,rfl,hvu,hA⟩:=hrel;subst hvu;have HB:Hid _:=hA.below;have HBX:Hid _:=hA.box;obtain ⟨acc,rs,hrow,hrl,hraw,hal,hst⟩:=hA.rest;have HRW:Hid _:=hrow;have HRR:Hid _:=hraw;have HST:Hid _:=hst;clear hrow hraw hst hA
  by_cases hlt:k<ls.length
  · have hlti : (k : Int) < (ls.length : Int) := by omega
    obtain ⟨s,hs⟩:∃ s,ls[k]?=some s:=⟨ls[k],by simp[hlt]⟩
    have hdr:ls.drop k=s::ls.drop (k+1):=by
     rw[List.drop_eq_getElem_cons hlt];congr 1;simpa[hlt] using hs
    rw[hdr]at HST
    obtain ⟨b1,o1,c1,hv1,_,_,e1⟩:=(Strs.later HL.out HB.out).at hs
    injection hv1 with hv1 hv1l hv1c
    subst hv1 hv1c;clear hv1l;have hsz:=HT.out s (List.mem_of_getElem? hs)
    have HLN:Hid (Calls Tryz.prog 4 #[.string s] wr fun e w'=>zO s.data.toList wr e w'):=by
     have:=Vf s.data.toList wr (HEV.out wr HB.out) (by rw[jy];unfold maxLen at hsz;omega)
     rw[V5]at this
     exact this
    clear hs hdr hsz;go_wp2_with fail;refine Calls.mono HLN.out ?_;rintro e w1 ⟨a1,cc1,vs1,rfl,htg,hT1,hS1,hb1⟩;obtain ⟨sa,sc,rfl,_,_⟩:=hS1.shape;have HNM:Hid _:=qaE s.data.toList;obtain ⟨Q,hQ⟩:∃ Q,qL s.data.toList=Q:=⟨_,rfl⟩
    have HCC:Hid (Q.2.2=0→ZM ns Q.2.1=0→QL ns Q.2.1≠[]→ye ns (s::ls.drop (k+1))=xR (JB Q.1 (QL ns Q.2.1)) (ye ns (ls.drop (k+1)))):=by
     rw[←hQ];exact qdf
    have HC1:Hid (Q.2.2≠0→ye ns ls=([],Q.2.2)):=by
     intro h;rw[HST.out,ye,hQ,if_pos h];unfold xR;rw[if_pos h]
    have HC2:Hid (Q.2.2=0→ZM ns Q.2.1≠0→ye ns ls=([],ZM ns Q.2.1)):=by
     intro h h2;rw[HST.out,ye,hQ,if_neg (by simpa using h),if_pos h2];unfold xR;rw[if_pos h2]
    have HC3:Hid (Q.2.2=0→ZM ns Q.2.1=0→QL ns Q.2.1=[]→ye ns ls=([],3)):=by
     intro h h2 h3;rw[HST.out,ye,hQ,if_neg (by simpa using h),if_neg (by simpa using h2),if_pos h3];unfold xR;rw[if_pos (by decide)]
    rw[hQ]at htg hT1 hS1 HNM ⊢
    clear hQ HLN;obtain ⟨o,st,le⟩:=Q;simp only at htg hT1 hS1 HNM HCC HC1 HC2 HC3 ⊢
    have hb2:=Below.alloc1 w1 (.cells #[.int .i64 o.kind,.int .i64 0,.slice a1 o.content.length cc1,.string o.name,.string o.s] 24);have hb12:=hb1.trans (hb2.mono hb1.size);have HO2:Hid _:=heap_alloc_new w1 (.cells #[.int .i64 o.kind,.int .i64 0,.slice a1 o.content.length cc1,.string o.name,.string o.s] 24);have HT1:Hid (qb (fun b=>wr.heap.size≤b∧b<w1.heap.size) (w1.alloc (.cells #[.int .i64 o.kind,.int .i64 0,.slice a1 o.content.length cc1,.string o.name,.string o.s] 24)) 2501 (.slice a1 o.content.length cc1) o.content):=qb.carry (fun b hb=>⟨hb,hb2.block b hb.2⟩) _ (qb.bounded _ hT1)
    have HT2:Hid True:=trivial;have HOV:Hid (∀ z,v.ownBlock=some z→w.heap.size+1≤z∧z<wr.heap.size):=fun z hz=>World.ownsRow.lt HRW.out z hz
    have HS2:Hid _:=qC.later hS1 hb2;have hB2:=HB.out.trans (hb12.mono HB.out.size);have HBX2:Hid _:=(hb12.block _ (qh HBX.out)).trans HBX.out;have HRW2:Hid _:=qq HRW.out hb12;have x2:(w1.alloc (.cells #[.int .i64 o.kind,.int .i64 0,.slice a1 o.content.length cc1,.string o.name,.string o.s] 24)).cell? ⟨w.heap.size,0,none⟩=some (.slice na ns.length nc):=by rw[cH9 HBX2.out];rfl
    have hs12:wr.heap.size≤(w1.alloc (.cells #[.int .i64 o.kind,.int .i64 0,.slice a1 o.content.length cc1,.string o.name,.string o.s] 24)).heap.size:=hb12.size;have HB12:Hid _:=hb12;have hw1:wr.heap.size≤w1.heap.size:=hb1.size;have hw12:w1.heap.size≤(w1.alloc (.cells #[.int .i64 o.kind,.int .i64 0,.slice a1 o.content.length cc1,.string o.name,.string o.s] 24)).heap.size:=hb2.size;have hwr0:w.heap.size<wr.heap.size:=qh HBX.out;clear hT1 hS1 hb1 hb2 HBX HRW e1 hb12
    by_cases hle:le=0
    case neg =>
     have hleb:(le==0)=false:=by simpa using hle
     have HE:Hid _:=HC1.out hle;clear HC1 HC2 HC3 HCC hle;go_wp2_with fail
     go_ret2
     exact ⟨.slice none 0 0,by rw[HE.out];rfl,by rw[HE.out];exact HNO.out _,hB2⟩
    case pos =>
     subst hle;have HSL:Hid _:=qaX (fun b=>b<(w1.alloc (.cells #[.int .i64 o.kind,.int .i64 0,.slice a1 o.content.length cc1,.string o.name,.string o.s] 24)).heap.size) _ _ ns st _ ⟨(HD.out.later hB2).nodes.carry fun b hb=>⟨(HD.out.later hB2).here b hb,rfl⟩,fun b hb=>hb,HD.out.few,HD.out.short⟩ ((qC.bounded HS2.out).carry fun b hb=>⟨hb.2,rfl⟩) HNM.out
     go_wp2_with fail
     generalize w1.alloc (.cells #[.int .i64 o.kind,.int .i64 0,.slice a1 o.content.length cc1,.string o.name,.string o.s] 24)=W2 at *
     refine Calls.mono HSL.out ?_;rintro e w3 ⟨v3,rfl,hI3,hb3⟩;obtain ⟨ia,ic,rfl,_,hic⟩:=hI3.shape;have HI3:Hid _:=hI3;have hB3:=hB2.trans (hb3.mono hB2.size);have HO3:Hid _:=(hb3.block _ (qh HO2.out)).trans HO2.out;have hsl:(QL ns st).length≤80:=qe9;obtain ⟨E,hE⟩:∃ E,ZM ns st=E:=⟨_,rfl⟩;obtain ⟨D,hD⟩:∃ D,QL ns st=D:=⟨_,rfl⟩;rw[hE]at HCC HC2 HC3 ⊢
     rw[hD]at HCC HC3 HI3 hsl ⊢
     clear hE hD HSL hI3
     by_cases hE0:E=0
     case neg =>
      have hEb:(E==0)=false:=by simpa using hE0
      have HE:Hid _:=HC2.out (by trivial) hE0
      clear HC1 HC2 HC3 HCC hE0;go_wp2_with fail
      go_ret2
      exact ⟨.slice none 0 0,by rw[HE.out];rfl,by rw[HE.out];exact HNO.out _,hB3⟩
     case pos =>
      subst hE0
      by_cases hD0:D=[]
      · have HE : Hid _ := HC3.out (by trivial) (by trivial) hD0
        subst hD0;clear HC1 HC2 HC3 HCC;go_wp2_with fail
        go_ret2
        exact ⟨.slice none 0 0,by rw[HE.out];rfl,by rw[HE.out];exact HNO.out _,hB3⟩
      · have hDl : 0 < D.length := List.length_pos_iff.2 hD0;have hDb:((D.length:Int)==0)=false:=beq_eq_false_iff_ne.2 (by omega)
        have HE:Hid _:=HCC.out (by trivial) (by trivial) hD0
        have z0:w3.cell? ⟨w1.heap.size,0,none⟩=some (.int .i64 o.kind):=by rw[cH9 HO3.out];rfl
        have z1:w3.cell? ⟨w1.heap.size,1,none⟩=some (.int .i64 0):=by rw[cH9 HO3.out];rfl
        have z2:w3.cell? ⟨w1.heap.size,2,none⟩=some (.slice a1 o.content.length cc1):=by rw[cH9 HO3.out];rfl
        have z3:w3.cell? ⟨w1.heap.size,3,none⟩=some (.string o.name):=by rw[cH9 HO3.out];rfl
        have z4:w3.cell? ⟨w1.heap.size,4,none⟩=some (.string o.s):=by rw[cH9 HO3.out];rfl
        have HAM:Hid (Calls Tryz.prog 109 #[.agg #[.int .i64 o.kind,.int .i64 0,.slice a1 o.content.length cc1,.string o.name,.string o.s],.slice ia D.length ic] w3 fun e w'=>∃ v,e=.returned v∧w'.ownsRow w3.heap.size 24 5 v D.length (qO (x6 o a1 cc1 D))∧Below w3.heap.size w3 w'):=by
         have:=qbM _ o a1 cc1 _ D w3 HI3.out (by omega)
         rw[htg]at this
         exact this
        clear HC1 HC2 HC3 HCC;go_wp2_with fail;refine Calls.mono HAM.out ?_;rintro e w4 ⟨v4,rfl,hw4,hb4⟩;have hB4:=hB3.trans (hb4.mono hB3.size)
        obtain ⟨g4,cap4,rfl,hg4a,hg4b⟩:∃ g cap,v4=.slice (some ⟨g,0,none⟩) D.length cap∧w3.heap.size≤g∧g<w4.heap.size:=by
         rcases hw4.2 with ⟨_,h0⟩|⟨g,cap,cur,rfl,hg,hh,hc,hm,hs,ht⟩
         · omega
         · exact ⟨g,cap,rfl,hg,qh hh⟩
        have hb24:=hb3.trans (hb4.mono hb3.size);have HRW4:Hid _:=qq HRW2.out hb24;have HBX4:Hid _:=(hb24.block _ (qh HBX2.out)).trans HBX2.out;have hcl:=yb (x6 o a1 cc1 D);have hal2:(x6 o a1 cc1 D).length=D.length:=List.length_map _
        have HCE:Hid (∀ j u,(qO (x6 o a1 cc1 D))[j]?=some u→w4.cell? ((⟨g4,0,none⟩:Addr).add j)=some u):=by
         intro j u hj;have hjl:=qj hj;rw[Addr.add_lit,Nat.zero_add,World.ownsRow.cellAt hw4 j (by omega)]
         exact hj
        have H1C:Hid (∀ u∈qO (x6 o a1 cc1 D),u.oneCell'=true):=by
         intro u hu;obtain ⟨r,hr,hu⟩:=List.mem_flatMap.1 hu;exact YP r u hu
        have HRAW:Hid (∀ (i:Nat) r x,(rs++x6 o a1 cc1 D)[i]?=some r→(acc++JB o D)[i]?=some x→JA (fun b=>(w.heap.size+1≤b∧b<wr.heap.size∧v.ownBlock≠some b)∨(wr.heap.size≤b∧b<w1.heap.size)) w4 2501 r x):=by
         have hbr4:Below wr.heap.size wr w4:=HB12.out.trans (hb24.mono hs12);intro i r x hr hx
         by_cases hil:i<rs.length
         · rw[List.getElem?_append_left hil]at hr
           rw[List.getElem?_append_left (by omega)]at hx
           exact (HRR.out i r x hr hx).carry fun b hb=>⟨Or.inl hb,hbr4.block b hb.2.1⟩
         · rw[List.getElem?_append_right (by omega)]at hr
           rw[List.getElem?_append_right (by omega),←hrl]at hx
           refine (qeA (T:=fun b=>wr.heap.size≤b∧b<w1.heap.size) D ?_ _ r x hr hx).carry (fun b hb=>⟨Or.inr hb,rfl⟩)
           exact qb.carry (fun b hb=>⟨hb,hb24.block b (by have:=hb.2;omega)⟩) _ HT1.out
        have hszA:w.heap.size+1≤w4.heap.size:=by have:=qh HBX4.out;omega
        have hov:∀ z,v.ownBlock=some z→w.heap.size+1≤z∧z<wr.heap.size:=fun z hz=>HOV.out z hz
        have HOV4:Hid _:=hov;have hsz14:w1.heap.size≤w4.heap.size:=Nat.le_trans hw12 hb24.size;have hszr4:wr.heap.size≤w4.heap.size:=by omega
        clear hw4 hb4 hb3 hb24 HRW2 HBX2 HO2 HO3 HT2 HS2 HI3 HAM z0 z1 z2 z3 z4 hov HNM x2;go_wp2_with (at_builtin;refine wpList_append_own_at _ rfl _ _ 124 rfl (w.heap.size+1) 24 i0 _ 5 72 Tryz.underlying124 hi hz0 hz1 hz2 rfl (by decide) v acc.length (qO rs) rfl ?qc0 ⟨g4,0,none⟩ D.length cap4 (qO (x6 o a1 cc1 D)) rfl ?qc1 ?qc2 ?qc3 ?qc4 ?qc5 ?qc6 ?_)
        case qc0 => exact HRW4.out
        case qc1 => omega
        case qc2 => exact HCE.out
        case qc3 => exact H1C.out
        case qc4 => unfold maxLen;omega
        case qc5 => omega
        case qc6 => exact hszA
        intro v5 W5 hown hgr _ hob
        have HI5:Hid (ChI w ns (.slice na ns.length nc) ls (k+1) v5 W5):=by
         have hB5:Below (w.heap.size+1) w4 W5:=(Below.refl _ _).grown hgr hszA (fun z hz=>(HOV4.out z hz).1)
         refine ⟨hB4.trans (hB5.mono (by omega)),(hB5.block _ (by omega)).trans HBX4.out,acc++JB o D,rs++x6 o a1 cc1 D,?_,?_,?_,?_,?_⟩
         · have : qO (rs ++ x6 o a1 cc1 D) = qO rs ++ qO (x6 o a1 cc1 D) := List.flatMap_append;rw[this,List.length_append,show (JB o D).length=D.length from List.length_map _]
           exact hown
         · rw[List.length_append,List.length_append,hrl,hal2,show (JB o D).length=D.length from List.length_map _]
         · intro i r x hr hx;refine (HRAW.out i r x hr hx).carry fun b hb=>?_
           have hbl:b<w4.heap.size:=by rcases hb with hb|hb<;>omega
           have hne:v.ownBlock≠some b:=by
            rcases hb with hb|hb
            · exact hb.2.2
            · intro he;have:=(HOV4.out b he).2;omega
           refine ⟨⟨by rcases hb with hb|hb;exact hb.1;have:=hB2.size;omega,Nat.lt_of_lt_of_le hbl hgr.size,?_⟩,hgr.block b hbl (fun e=>hne e.symm)⟩
           rcases hob with h|h
           · rw[h];exact hne
           · rw[h];intro e;injection e with e;omega
         · rw[List.length_append,show (JB o D).length=D.length from List.length_map _];omega
         · rw[HST.out,HE.out,qb6]
        clear hown hgr hob HRAW HCE H1C HRW4 HBX4 HE HST HOV4;go_wp2_with fail
        go_roundg (ls.length-(k+1))
        case measure => omega
        case rel => exact ⟨k+1,v5,by omega,by go_num,rfl,HI5.out⟩
  · have hlti : ¬ ((k : Int) < (ls.length : Int)) := by omega
    have hkk:k=ls.length:=by omega
    subst hkk
    have HE:Hid (ye ns ls=(acc,0)):=by
     show _=_
     rw[HST.out,List.drop_length];unfold xR ye;simp
    go_wp2_with fail
    go_ret2
    refine ⟨v,by rw[HE.out];rfl,?_,HB.out⟩
    rw[HE.out];obtain ⟨a',c',h1,h2,h3,h4⟩:=Vv HRW.out hrl HRR.out;refine ⟨a',c',h1,h2,h3,fun hne=>?_⟩
    obtain ⟨b',o',q1,q2,q3⟩:=h4 hne;refine ⟨b',o',q1,?_,fun i x hx=>?_⟩
    · have := (World.ownsRow.lt HRW.out b' q2).1;omega
    · obtain ⟨ca', cc', d0, d1, d2, d3, d4, dT⟩ := q3 i x hx;exact ⟨ca',cc',d0,d1,d2,d3,d4,qb.carry (fun b hb=>⟨by have:=hb.1;omega,rfl⟩) _ dT⟩
end
section
attribute [local go_sem] qd
structure Sto (S:Nat→Prop) (w:World) (sb:Nat) (ns:List Nd) (n:Nat):Prop where
 here:∀ b,S b→b<w.heap.size∧b≠sb
 good:qG ns=true
 box:∃ a c,w.heap[sb]?=some (.cells #[.slice a ns.length c,.int .i64 (n:Int)] 83 (0,0))∧qB S w (.slice a ns.length c) ns∧c≤maxLen
theorem K0 {ns:List Nd}(hg:qG ns=true):(∀ x∈ns,x.attrs.length≤4398046511104)∧Qq ns:=by
 refine ⟨fun x hx=>Nat.le_trans ((Xa hg).2 x hx).2 (by omega),fun x hx=>⟨Nat.le_trans (qal hg x hx) (by unfold maxLen;omega),fun y hy=>?_⟩⟩
 obtain ⟨n,hn⟩:=List.mem_iff_getElem?.1 hx;obtain ⟨d,T,u,fs,hz⟩:=Kq hg (qj hn);obtain ⟨x',hx',e1,_,e3⟩:=hz.get;rw[hn]at hx'
 obtain rfl:=Option.some.inj hx';rw[e3]at hy
 have hr:=hz.right;cases ht:u.text with
 | true =>
   unfold qz at hr
   rw[ht]at hr
   simp at hr
   rw[hr.1.2]at hy
   cases hy
 | false =>
   have hA:=(QK hr ht).2;have key:=(Q7 hA).2 y hy;exact ⟨Nat.le_trans (Yv key.1) (by unfold maxLen;omega),Nat.le_trans (Jf key.2) (by unfold maxLen;omega)⟩
theorem Sto.doc {S:Nat→Prop}{w:World}{sb n:Nat}{ns:List Nd}(h:Sto S w sb ns n){a:Option Addr}{c:Nat}(hN:qB S w (.slice a ns.length c) ns):Yk S w (.slice a ns.length c) ns :=
 ⟨hN,fun b hb=>(h.here b hb).1,(K0 h.good).1,(K0 h.good).2⟩
theorem Sto.keep {S:Nat→Prop}{w w':World}{sb n:Nat}{ns:List Nd}(h:Sto S w sb ns n)(hs:w.heap.size≤w'.heap.size)(hb:∀ b,S b∨b=sb→w'.heap[b]?=w.heap[b]?):Sto S w' sb ns n:=by
 obtain ⟨a,c,h1,h2,h3⟩:=h.box;exact ⟨fun b hb=>⟨Nat.lt_of_lt_of_le (h.here b hb).1 hs,(h.here b hb).2⟩,h.good,a,c,(hb sb (Or.inr rfl)).trans h1,h2.carry fun b hb'=>⟨hb',hb b (Or.inl hb')⟩,h3⟩
theorem Sto.later {S:Nat→Prop}{w w':World}{sb n:Nat}{ns:List Nd}(h:Sto S w sb ns n)(hb:Below w.heap.size w w'):Sto S w' sb ns n:=by
 obtain ⟨a,c,h1,_⟩:=h.box;refine h.keep hb.size fun b hb'=>hb.block b ?_
 rcases hb' with hb'|rfl
 · exact (h.here b hb').1
 · exact qh h1
def Zl (B g:Nat)(W:World)(k:Nat)(v:Value):Prop :=
 ∃ a n c,v=.slice a n c∧n≤c∧c≤maxLen∧(0<n→∃ b cur T,a=some ⟨b,0,none⟩∧B≤b∧b≠g∧W.heap[b]?=some (.cells cur T (0,0))∧n*k≤cur.size)
theorem KH {W:World}{b:Nat}{cur:Array Value}{T:TypeId}(h:W.heap[b]?=some (.cells cur T (0,0)))(p:Addr)(v:Value):∃ cur',(W.setCell p v).heap[b]?=some (.cells cur' T (0,0))∧cur'.size=cur.size:=by
 by_cases hp:p.block=b
 · subst hp;exact ⟨if p.spot.isSome then cur else cur.setIfInBounds p.off v,by simp[World.setCell,Array.getElem?_modify,h],by split<;>simp⟩
 · exact ⟨cur,by simp[World.setCell,Array.getElem?_modify,hp,h],rfl⟩
theorem Zl.set {B g:Nat}{W:World}{k:Nat}{v:Value}(h:Zl B g W k v)(p:Addr)(x:Value):Zl B g (W.setCell p x) k v:=by
 obtain ⟨a,n,c,h1,h2,h3,h4⟩:=h;refine ⟨a,n,c,h1,h2,h3,fun hn=>?_⟩
 obtain ⟨b,cur,T,e1,e2,e3,e4,e5⟩:=h4 hn;obtain ⟨cur',f1,f2⟩:=KH e4 p x;exact ⟨b,cur',T,e1,e2,e3,f1,by rw[f2];exact e5⟩
theorem Zl.later {B g:Nat}{W W':World}{k:Nat}{v:Value}(h:Zl B g W k v)(hb:Below W.heap.size W W'):Zl B g W' k v:=by
 obtain ⟨a,n,c,h1,h2,h3,h4⟩:=h;refine ⟨a,n,c,h1,h2,h3,fun hn=>?_⟩
 obtain ⟨b,cur,T,e1,e2,e3,e4,e5⟩:=h4 hn;exact ⟨b,cur,T,e1,e2,e3,(hb.block b (qh e4)).trans e4,e5⟩
theorem Zl.of_row {B B' g:Nat}{W:World}{t:TypeId}{k n:Nat}{v:Value}{xs:List Value}(h:W.ownsRow B' t k v n xs)(hB:B≤B')(hg:g<B'):Zl B g W k v:=by
 rcases h.2 with ⟨rfl,_⟩|⟨b,cap,cur,rfl,h1,h2,h3,h4,h5,_⟩
 · exact ⟨none,0,0,rfl,nR9 _,nZ9 _,fun h=>by omega⟩
 · exact ⟨_,n,cap,rfl,h3,h4,fun _=>⟨b,cur,t,rfl,Nat.le_trans hB h1,by omega,h2,by rw[h5];exact Nat.mul_le_mul_right k h3⟩⟩
structure DcI (w:World) (v:Value) (ns:List Nd) (i:Nat) (ms:List Rw) (wr:World):Prop where
 below:Below w.heap.size w wr
 res:wr.heap[w.heap.size]?=some (.cells #[.slice none 0 0] 60 (0,0))
 len:ms.length=ns.length
 row:wr.ownsRow (w.heap.size+1) 90 5 v ns.length (rawCells ms)
 each:∀ (j:Nat) r x,ms[j]?=some r→ns[j]?=some x→(j<i→xq (fun b=>w.heap.size+1≤b∧b<wr.heap.size∧v.ownBlock≠some b) wr r x)∧(i≤j→xq (fun b=>b<w.heap.size) wr r x)
 own:∀ (g:Nat) (j:Nat) r,v.ownBlock=some g→ms[j]?=some r→j<i→Zl (w.heap.size+1) g wr 2 r.va∧Zl (w.heap.size+1) g wr 1 r.vk
theorem qcn {B:Nat}{T:Nat→Prop}{w:World}{v:Value}{ns:List Nd}{ms:List Rw}(h:w.ownsRow B 90 5 v ns.length (rawCells ms))(hl:ms.length=ns.length)(hr:∀ (j:Nat) r x,ms[j]?=some r→ns[j]?=some x→xq T w r x)(hT:∀ b,T b→B≤b):qB (fun b=>B≤b) w v ns:=by
 have h0:=h
 rcases h.2 with ⟨rfl,hz⟩|⟨g,cap,cur,rfl,hB,hg,hc,hm,hs,ht⟩
 · have : ns = [] := List.eq_nil_of_length_eq_zero hz;subst this;exact ⟨none,0,rfl,nR9 _,nZ9 _,fun hne=>absurd rfl hne⟩
 · refine ⟨_, cap, rfl, hc, hm, fun _ => ⟨g, 0, rfl, hB, fun i x hx => ?_⟩⟩
   have hi:=qj hx;obtain ⟨r,hri⟩:∃ r,ms[i]?=some r:=⟨ms[i]'(by omega),List.getElem?_eq_getElem (by omega)⟩
   obtain ⟨e1,e2,e3,hA,hK⟩:=hr i r x hri hx;obtain ⟨g0,g1,g2,g3,g4⟩:=zU ms i r hri
   have cell:∀ c,c<5→w.cell? ⟨g,0+i*5+c,none⟩=(rawCells ms)[i*5+c]?:=fun c hc=>by
    rw[Nat.zero_add];exact World.ownsRow.cellAt h0 (i*5+c) (by omega)
   refine ⟨r.va,r.vk,?_,?_,?_,?_,?_,hA.carry fun b hb=>⟨hT b hb,rfl⟩,hK.carry fun b hb=>⟨hT b hb,rfl⟩⟩
   · rw[←e1,←g0];exact cell 0 (by omega)
   · rw[←e2,←g1];exact cell 1 (by omega)
   · rw[←g2];exact cell 2 (by omega)
   · rw[←e3,←g3];exact cell 3 (by omega)
   · rw[←g4];exact cell 4 (by omega)
theorem Qo.attrsIn {B:Nat}{w:World}{v:Value}{l:List (ByteArray × ByteArray)}(h:Qo B w v l):qm (fun b=>B≤b∧b<w.heap.size) w v l:=by
 rcases id h.2 with ⟨hv,h0⟩|⟨g,cap,cur,hv,hB,hh,hc,hm,_⟩
 · have : l = [] := List.eq_nil_of_length_eq_zero h0;subst this;exact ⟨none,0,hv,nR9 _,nZ9 _,fun hne=>absurd rfl hne⟩
 · have hrow := h;unfold Qo at hrow
   subst hv;refine ⟨_,cap,rfl,hc,hm,fun _=>⟨g,0,rfl,⟨hB,qh hh⟩,fun i x hx=>?_⟩⟩
   have hi:=qj hx;obtain ⟨g0,g1⟩:=zV l i x hx;exact ⟨by rw[Nat.zero_add,World.ownsRow.cellAt hrow (i*2) (by omega),g0],by rw[Nat.zero_add,World.ownsRow.cellAt hrow (i*2+1) (by omega),g1]⟩
theorem DcI.step {w:World}{g cap:Nat}{ns:List Nd}{i:Nat}{ms:List Rw}{W Wa Wc:World}{va vk:Value}{r:Rw}{x:Nd}(h:DcI w (.slice (some ⟨g,0,none⟩) ns.length cap) ns i ms W)(hr:ms[i]?=some r)(hx:ns[i]?=some x)
 (hA:Qo W.heap.size Wa va x.attrs) (ha:Below W.heap.size W Wa) (hK:qZ Wa.heap.size Wc vk x.kids) (hc:Below Wa.heap.size (Wa.setCell ⟨g,i*5+2,none⟩ va) Wc) (he:r.text=x.text∧r.s=x.s∧r.par=x.parent) :
 DcI w (.slice (some ⟨g,0,none⟩) ns.length cap) ns (i+1) (ms.set i { r with va:=va,vk:=vk }) (Wc.setCell ⟨g,i*5+4,none⟩ vk):=by
 obtain ⟨hgB,hgl⟩:=h.row.lt g rfl;have hwl:=qh h.res;have hsa:=ha.size;have hsc:=hc.size;have hss:(Wa.setCell ⟨g,i*5+2,none⟩ va).heap.size=Wa.heap.size:=by simp
 have hsd:(Wc.setCell ⟨g,i*5+4,none⟩ vk).heap.size=Wc.heap.size:=by simp
 have him:i<ms.length:=qj hr
 have old:∀ b,b<W.heap.size→b≠g→(Wc.setCell ⟨g,i*5+4,none⟩ vk).heap[b]?=W.heap[b]?:=fun b hb hne=>by
  rw[qc hne,hc.block b (by omega),qc hne,ha.block b hb]
 have rowa:Wa.ownsRow (w.heap.size+1) 90 5 (.slice (some ⟨g,0,none⟩) ns.length cap) ns.length (rawCells ms):=qq h.row ha;have rowb:=(rowa.stored (i*5+2) va).1
 have rowc:Wc.ownsRow (w.heap.size+1) 90 5 (.slice (some ⟨g,0,none⟩) ns.length cap) ns.length ((rawCells ms).set (i*5+2) va):=qn rowb (fun b hb=>by
  have:g=b:=by injection hb
  subst this;exact hc.block g (by omega))
 have rowd:=(rowc.stored (i*5+4) vk).1
 have ecell:((rawCells ms).set (i*5+2) va).set (i*5+4) vk=rawCells (ms.set i { r with va:=va,vk:=vk }):=by
  have e1:=Q3 ms i r va hr;have hr2:(ms.set i { r with va:=va })[i]?=some { r with va:=va }:=List.getElem?_set_self him
  have e2:=yK (ms.set i { r with va:=va }) i { r with va:=va } vk hr2
  rw[←e1,←e2,List.set_set]
 rw[ecell]at rowd
 have hBd:Below w.heap.size w (Wc.setCell ⟨g,i*5+4,none⟩ vk):=by
  have s1:Below w.heap.size w Wa:=h.below.trans (ha.mono h.below.size);have s2:=s1.setCell (p:=⟨g,i*5+2,none⟩) (by show w.heap.size≤g;omega) va
  have s3:=s2.trans (hc.mono (Nat.le_trans h.below.size hsa));exact s3.setCell (p:=⟨g,i*5+4,none⟩) (by show w.heap.size≤g;omega) vk
 have hob:∀ b,(Value.slice (some ⟨g,0,none⟩) ns.length cap).ownBlock≠some b→b≠g:=fun b hb e=>hb (by rw[e];rfl)
 have hbo:∀ b,b≠g→(Value.slice (some ⟨g,0,none⟩) ns.length cap).ownBlock≠some b:=fun b hb e=>hb (by injection e with e;exact e.symm)
 refine ⟨hBd,(old _ hwl (by omega)).trans h.res,by rw[List.length_set];exact h.len,rowd,fun j q y hq hy=>?_,fun g' j q hg' hq hj=>?_⟩
 rotate_left
 · have : g' = g := by injection hg' with e;exact e.symm
   subst this
   by_cases hji:j=i
   · subst hji;rw[List.getElem?_set_self him]at hq
     obtain rfl:=Option.some.inj hq;exact ⟨(((Zl.of_row hA (by omega) hgl).set _ _).later (by rw[hss];exact hc)).set _ _,(Zl.of_row hK (by omega) (by omega)).set _ _⟩
   · rw[List.getElem?_set_ne (fun e => hji e.symm)]at hq
     obtain ⟨o1,o2⟩:=h.own g' j q hg' hq (by omega)
     exact ⟨((((o1.later ha).set _ _).later (by rw[hss];exact hc)).set _ _),((((o2.later ha).set _ _).later (by rw[hss];exact hc)).set _ _)⟩
 by_cases hji:j=i
 · subst hji;rw[List.getElem?_set_self him]at hq
   obtain rfl:=Option.some.inj hq;rw[hx]at hy
   obtain rfl:=Option.some.inj hy;refine ⟨fun _=>⟨he.1,he.2.1,he.2.2,?_,?_⟩,fun hh=>by omega⟩
   · refine (Qo.attrsIn hA).carry fun b hb => ?_
     have hne:b≠g:=by omega
     exact ⟨⟨by omega,by omega,hbo b hne⟩,by rw[qc hne,hc.block b hb.2,qc hne]⟩
   · refine (qZ.ints hK).bounded.carry fun b hb => ?_
     have hne:b≠g:=by omega
     exact ⟨⟨by omega,by omega,hbo b hne⟩,qc hne⟩
 · rw[List.getElem?_set_ne (fun e => hji e.symm)]at hq
   obtain ⟨f1,f2⟩:=h.each j q y hq hy;refine ⟨fun hj=>(f1 (by omega)).carry fun b hb=>⟨⟨hb.1,by omega,hb.2.2⟩,old b hb.2.1 (hob b hb.2.2)⟩,fun hj=>(f2 (by omega)).carry fun b hb=>⟨hb,old b (by omega) (by omega)⟩⟩
structure qcV (w:World) (ns:List Nd) (g cap:Nat) (ms:List Rw) (w':World):Prop where
 len:ms.length=ns.length
 row:w'.ownsRow (w.heap.size+1) 90 5 (.slice (some ⟨g,0,none⟩) ns.length cap) ns.length (rawCells ms)
 each:∀ (j:Nat) r x,ms[j]?=some r→ns[j]?=some x→xq (fun b=>w.heap.size+1≤b∧b<w'.heap.size∧b≠g) w' r x
def qft (w:World)(g:Nat)(ms:List Rw)(w':World):Prop:=∀ (j:Nat) r,ms[j]?=some r→Zl (w.heap.size+1) g w' 2 r.va∧Zl (w.heap.size+1) g w' 1 r.vk
set_option linter.unusedSimpArgs false in
set_option maxHeartbeats 2000000 in
theorem qad (S:Nat→Prop)(sb n:Nat)(ns:List Nd)(w:World)(h:Sto S w sb ns n) :
 Calls Tryz.prog 22 #[.pointer (some ⟨sb,0,none⟩)] w fun e w'=>∃ g cap,e=.returned (.agg #[.slice (some ⟨g,0,none⟩) ns.length cap])∧(∃ ms,qcV w ns g cap ms w'∧qft w g ms w')∧Below w.heap.size w w':=by
 obtain ⟨a,c,hbx,hN,hcm⟩:=h.box
 have hne:ns≠[]:=by
  intro e;have hg:=h.good;rw[e]at hg
  simp only[qG,Bool.and_eq_true]at hg
  have:=Ze hg.1.2;simp at this
 have hbd:=Xa h.good;have hN0:qB (fun b=>b<w.heap.size) w (.slice a ns.length c) ns:=hN.carry fun b hb=>⟨(h.here b hb).1,rfl⟩
 have hb0:=Below.alloc1 w (.cells #[.slice none 0 0] 60);have HR0:Hid _:=heap_alloc_new w (.cells #[.slice none 0 0] 60);have hsb:=qh hbx;have HX0:Hid _:=(hb0.block sb hsb).trans hbx;obtain ⟨a0,cap0,ms0,hv,ha0,hml,hraw,hcells,hone⟩:=(qB.later hN0 hb0).raw
 injection hv with hv1 _ hv2
 subst hv1 hv2;have hnl:0<ns.length:=List.length_pos_iff.2 hne;have hbl:=hbd.1;have HC:Hid _:=qbp (.slice a ns.length c) a ns.length c (rawCells ms0) _ rfl ha0 (by rw[yo,hml]) (by omega) hcells hone
 have HRW:Hid _:=hraw;have HBN:Hid _:=hbd;have x0:(w.alloc (.cells #[.slice none 0 0] 60)).cell? ⟨sb,0,none⟩=some (.slice a ns.length c):=by rw[cH9 HX0.out];rfl
 clear h hraw hcells hone ha0 hN hN0 hbd
 go_enter Tryz.func22,Tryz.ntmps22
 go_wp2_with fail
 generalize w.alloc (.cells #[.slice none 0 0] 60)=W0 at *
 refine (Calls.mono HC.out ?_);rintro e w1 ⟨v1,rfl,hown,hb1⟩;obtain ⟨g,cap,rfl,hcl,hcm1⟩:=j1 hown hnl;have hsz0:w.heap.size+1≤W0.heap.size:=qh HR0.out
 have HI0:Hid (DcI w (.slice (some ⟨g,0,none⟩) ns.length cap) ns 0 ms0 w1):=by
  refine ⟨hb0.trans (hb1.mono hb0.size),(hb1.block _ (qh HR0.out)).trans HR0.out,hml,Q2 hown hsz0,fun j r x hr hx=>⟨fun hj=>by omega,fun _=>(HRW.out j r x hr hx).carry fun b hb=>⟨hb,hb1.block b (by omega)⟩⟩,fun _ _ _ _ _ hj=>by omega⟩
 unfold maxLen at hcm1
 clear hown HC HRW hb1 hb0 x0;go_wp2_with fail
 go_loopg [16] ns.length (fun gh vi wr=>∃ (i:Nat) (ms:List Rw),i+gh=ns.length∧vi=.int .i64 (i:Int)∧DcI w (.slice (some ⟨g,0,none⟩) ns.length cap) ns i ms wr)
 case atStart => exact ⟨0,ms0,by omega,rfl,HI0.out⟩
 case round =>
  clear HI0;obtain ⟨i,ms,hig,rfl,hN⟩:=hrel;have HN:Hid _:=hN;clear hN
  by_cases hlt:i<ns.length
  · have hlti : (i : Int) < (ns.length : Int) := by omega
    obtain ⟨x,hx⟩:∃ x,ns[i]?=some x:=⟨ns[i],by simp[hlt]⟩
    obtain ⟨r,hr⟩:∃ r,ms[i]?=some r:=⟨ms[i]'(by rw[HN.out.len];exact hlt),by simp⟩
    obtain ⟨hbk,hba⟩:=HBN.out.2 x (List.mem_of_getElem? hx);obtain ⟨e1,e2,e3,hAt,hKt⟩:=(HN.out.each i r x hr hx).2 (nR9 _);obtain ⟨_,_,h2,_,h4⟩:=zU ms i r hr;have c2:wr.cell? ⟨g,i*5+2,none⟩=some r.va:=by rw[World.ownsRow.cellAt HN.out.row (i*5+2) (by omega)];exact h2
    obtain ⟨cur,hcur,_,_,_,_⟩:=QF HN.out.row;obtain ⟨aa,ac,hva⟩:∃ a c,r.va=.slice a x.attrs.length c:=by obtain ⟨a,c,e,_⟩:=hAt;exact ⟨a,c,e⟩
    obtain ⟨ka,kc,hvk⟩:∃ a c,r.vk=.slice a x.kids.length c:=by obtain ⟨a,c,e,_⟩:=hKt;exact ⟨a,c,e⟩
    have HA:Hid (Calls Tryz.prog 46 #[.slice aa x.attrs.length ac] wr fun e w'=>∃ v',e=.returned v'∧(Qo wr.heap.size w' v' x.attrs∧Below wr.heap.size wr w')):=by
     have:=YL (fun b=>b<w.heap.size) r.va x.attrs wr hAt (by omega)
     rw[hva]at this
     exact this
    have hgl:=HN.out.row.lt g rfl;rw[hva]at c2
    have HCUR:Hid _:=hcur;have HVK:Hid _:=hvk;have HKT:Hid _:=hKt;have HR:Hid _:=hr;have HXX:Hid _:=hx;have HEE:Hid (r.text=x.text∧r.s=x.s∧r.par=x.parent):=⟨e1,e2,e3⟩;have H4:Hid _:=h4;clear hAt hKt hx hr h2 h4 hcur hva hvk e1 e2 e3;go_wp2_with fail;refine Calls.mono HA.out ?_;rintro e wa ⟨va,rfl,hAr,hba'⟩;have HCA:Hid _:=(hba'.block g hgl.2).trans HCUR.out;have c2a:wa.cell? ⟨g,i*5+2,none⟩=some (.slice aa x.attrs.length ac):=(hba'.cell (p:=⟨g,i*5+2,none⟩) hgl.2).trans c2;have f2a:wa.frozen? ⟨g,i*5+2,none⟩=false:=fH9 HCA.out _;obtain ⟨va1,va2,hvs⟩:∃ a c,va=.slice a x.attrs.length c:=by obtain ⟨a,c,e,_⟩:=Qo.attrsIn hAr;exact ⟨a,c,e⟩
    have HVS:Hid _:=hvs;have c4w:wr.cell? ⟨g,i*5+4,none⟩=some r.vk:=by rw[World.ownsRow.cellAt HN.out.row (i*5+4) (by omega)];exact H4.out
    rw[HVK.out]at c4w
    have c4b:(wa.setCell ⟨g,i*5+2,none⟩ (.slice va1 x.attrs.length va2)).cell? ⟨g,i*5+4,none⟩=some (.slice ka x.kids.length kc):=by
     rw[World.cell?_setCell_other _ _ _ _ (Qz (by omega))]
     exact (hba'.cell (p:=⟨g,i*5+4,none⟩) hgl.2).trans c4w
    have HKC:Hid (Calls Tryz.prog 47 #[.slice ka x.kids.length kc] (wa.setCell ⟨g,i*5+2,none⟩ (.slice va1 x.attrs.length va2)) fun e w'=>∃ v',e=.returned v'∧qZ wa.heap.size w' v' x.kids∧Below wa.heap.size (wa.setCell ⟨g,i*5+2,none⟩ (.slice va1 x.attrs.length va2)) w'):=by
     have:=YM (fun b=>b<w.heap.size) r.vk x.kids (wa.setCell ⟨g,i*5+2,none⟩ (.slice va1 x.attrs.length va2)) (zr.carry HKT.out fun b hb=>⟨hb,by rw[qc (by omega)];exact hba'.block b (by have:=HN.out.below.size;omega)⟩) (by omega)
     rw[HVK.out]at this
     simp only[World.size_setCell]at this
     exact this
    have HFB:Hid ((wa.setCell ⟨g,i*5+2,none⟩ (.slice va1 x.attrs.length va2)).frozen? ⟨g,i*5+4,none⟩=false):=by
     show _=_
     rw[World.frozen?_setCell];exact fH9 HCA.out _
    have HAR:Hid _:=hAr;have HBA:Hid _:=hba';have hgla:g<wa.heap.size:=Nat.lt_of_lt_of_le hgl.2 hba'.size;subst hvs;clear hAr hba' c4w c2 HA;go_wp2_with fail;refine Calls.mono HKC.out ?_;rintro e wc ⟨vk,rfl,hKr,hbc⟩;obtain ⟨vk1,vk2,hks⟩:∃ a c,vk=.slice a x.kids.length c:=by obtain ⟨a,c,e,_⟩:=qZ.ints hKr;exact ⟨a,c,e⟩
    have c4c:wc.cell? ⟨g,i*5+4,none⟩=some (.slice ka x.kids.length kc):=(hbc.cell (p:=⟨g,i*5+4,none⟩) hgla).trans c4b
    have f4c:wc.frozen? ⟨g,i*5+4,none⟩=false:=by
     have hx':wc.heap[g]?=(wa.setCell ⟨g,i*5+2,none⟩ (.slice va1 x.attrs.length va2)).heap[g]?:=hbc.block g hgla;rw[World.frozen?_of_block (a:=⟨g,i*5+4,none⟩) hx'];exact HFB.out
    have HI2:Hid _:=HN.out.step HR.out HXX.out HAR.out HBA.out hKr hbc HEE.out;subst hks;clear hKr hbc c4b HKC HFB HAR HBA c2a f2a;go_wp2_with fail
    go_roundg (ns.length-(i+1))
    case measure => omega
    case rel => exact ⟨i+1,_,by omega,by go_num,HI2.out⟩
  · have hlti : ¬ ((i : Int) < (ns.length : Int)) := by omega
    have hii:i=ns.length:=by omega
    subst hii;have r0:wr.cell? ⟨w.heap.size,0,none⟩=some (.slice none 0 0):=by rw[cH9 HN.out.res];rfl
    have f0:wr.frozen? ⟨w.heap.size,0,none⟩=false:=fH9 HN.out.res _;go_wp2_with fail;refine bodyPost_ret (v:=.agg #[.slice (some ⟨g,0,none⟩) ns.length cap]) (by simp[results,Tryz.results22,go_sem,qd,World.cell?_setCell_other,r0]) rfl ?_
    obtain ⟨hgB,hgl⟩:=HN.out.row.lt g rfl;refine ⟨g,cap,rfl,⟨_,⟨HN.out.len,qn HN.out.row (fun b hb=>?_),fun j r x hr hx=>?_⟩,fun j r hr=>?_⟩,HN.out.below.setCell (p:=⟨w.heap.size,0,none⟩) (nR9 _) _⟩
    · have : g = b := by injection hb
      subst this;exact qc (by omega)
    · refine ((HN.out.each j r x hr hx).1 (qj hx)).carry fun b hb=>⟨⟨hb.1,by simpa using hb.2.1,fun e=>hb.2.2 (by rw[e];rfl)⟩,qc (by omega)⟩
    · obtain ⟨o1, o2⟩ := HN.out.own g j r rfl hr (by have := qj hr;rw[HN.out.len]at this;exact this)
      exact ⟨o1.set _ _,o2.set _ _⟩
theorem qae (S:Nat→Prop)(sb n:Nat)(ns:List Nd)(w:World)(h:Sto S w sb ns n) :
 Calls Tryz.prog 22 #[.pointer (some ⟨sb,0,none⟩)] w fun e w'=>∃ g cap,e=.returned (.agg #[.slice (some ⟨g,0,none⟩) ns.length cap])∧(∃ ms,qcV w ns g cap ms w')∧Below w.heap.size w w':=by
 refine (qad S sb n ns w h).mono ?_;rintro e w' ⟨g,cap,rfl,⟨ms,hD,_⟩,hb⟩;exact ⟨g,cap,rfl,⟨ms,hD⟩,hb⟩
theorem qeG (S:Nat→Prop)(sb n:Nat)(ns:List Nd)(w:World)(h:Sto S w sb ns n) :
 Calls Tryz.prog 22 #[.pointer (some ⟨sb,0,none⟩)] w fun e w'=>∃ v,e=.returned (.agg #[v])∧qB (fun b=>w.heap.size≤b) w' v ns∧Below w.heap.size w w':=by
 refine (qae S sb n ns w h).mono ?_;rintro e w' ⟨g,cap,rfl,⟨ms,hD⟩,hb⟩;exact ⟨_,rfl,(qcn hD.row hD.len (fun j r x hr hx=>hD.each j r x hr hx) (fun b hb=>hb.1)).carry fun b hb=>⟨by omega,rfl⟩,hb⟩
end
theorem VE {t:Tr}(h:qz t=true):YC t:=by
 refine ⟨Nat.le_trans (Jh h) (by unfold maxLen;omega),fun y hy=>?_⟩
 cases ht:t.text with
 | true =>
   unfold qz at h
   rw[ht]at h
   simp at h
   rw[h.1.2]at hy
   cases hy
 | false =>
   have key:=(Q7 (QK h ht).2).2 y hy;exact ⟨Nat.le_trans (Yv key.1) (by unfold maxLen;omega),Nat.le_trans (Jf key.2) (by unfold maxLen;omega)⟩
theorem rgt_texts:∀ {n:Nat}{ts:List Tr},(∀ N,rgt N ts=true)→TextsN n ts:=by
 intro n
 induction n with
 | zero=>intro ts _;trivial
 | succ n ih =>
   intro ts h t ht;obtain ⟨h1,_⟩:=QT _ _ (h (n+1)) t ht;refine ⟨VE h1,ih (fun N=>?_)⟩
   obtain ⟨h3,h4⟩:=QT _ _ (h (N+1)) t ht;cases hx:t.text with
   | true=>rw[ZK h3 hx];exact ZJ N
   | false=>rw[hx,Bool.false_or]at h4;exact h4
theorem JE {l:List Tr}(h:qF l=true)(n:Nat):TextsN n l:=by
 have hd:Deep 8 l:=rb_deep 8 80 l (by simpa[qF] using h)
 have h2:=h;rw[Qv hd]at h2
 simp only[Bool.and_eq_true,decide_eq_true_eq]at h2
 exact rgt_texts (rgt_all hd h2.2)
theorem qam {t:Tr}(h:zZ t=true)(n:Nat):TextsN n [t]:=by
 simp only[zZ,Bool.and_eq_true]at h
 exact JE h.2 n
section
attribute [local go_sem] qd
def JR (w:World)(b:Nat)(v0 v1 v2:Value):World:=((w.setCell ⟨b,0,none⟩ v0).setCell ⟨b,1,none⟩ v1).setCell ⟨b,2,none⟩ v2
theorem xg {w:World}{b c:Nat}{v0 v1 v2:Value}(h:c≠b):(JR w b v0 v1 v2).heap[c]?=w.heap[c]?:=by
 unfold JR;rw[qc h,qc h,qc h]
theorem Qe {B b:Nat}{w0 w:World}{v0 v1 v2:Value}(h:Below B w0 w)(hb:B≤b):Below B w0 (JR w b v0 v1 v2):=by
 unfold JR;exact ((h.setCell (p:=⟨b,0,none⟩) hb _).setCell (p:=⟨b,1,none⟩) hb _).setCell (p:=⟨b,2,none⟩) hb _
def xC (S:Nat→Prop)(sb:Nat)(w:World)(rep:Rep)(ns:List Nd)(n:Nat)(e:Ending)(w':World):Prop :=
 e=.returned (.agg #[.int .i64 rep.1,.int .i64 rep.2.1,.string rep.2.2])∧(∃ S':Nat→Prop,(∀ b,S' b→S b∨w.heap.size≤b)∧Sto S' w' sb ns n)∧CFr sb w w'
theorem Ye {S:Nat→Prop}{sb n:Nat}{ns:List Nd}{w w':World}(rep:Rep)(h:Sto S w sb ns n)(hb:Below w.heap.size w w'):xC S sb w rep ns n (.returned (.agg #[.int .i64 rep.1,.int .i64 rep.2.1,.string rep.2.2])) w' :=
 ⟨rfl,⟨S,fun _ hb=>Or.inl hb,h.later hb⟩,CFr.later hb⟩
theorem qac {S:Nat→Prop}{sb n:Nat}{ns ns':List Nd}{w W:World}(rep:Rep)(h:Sto S w sb ns n)(hb:Below w.heap.size w W){S':Nat→Prop}(hS':∀ b,S' b→(S b∨w.heap.size≤b)){a:Option Addr}{c:Nat}(hN:qB S' W (.slice a ns'.length c) ns')(hc:c≤maxLen)(hg:qG ns'=true){R:Nat}(hR:w.heap.size≤R){v0 v1 v2:Value}(hSR:∀ b,S' b→b≠R) :
 xC S sb w rep ns' n (.returned (.agg #[.int .i64 rep.1,.int .i64 rep.2.1,.string rep.2.2])) (JR (W.setCell ⟨sb,0,none⟩ (.slice a ns'.length c)) R v0 v1 v2):=by
 obtain ⟨a0,c0,hbx,_,_⟩:=h.box;have hsl:=qh hbx;have hsw:w.heap.size≤W.heap.size:=hb.size;have hbx1:W.heap[sb]?=_:=(hb.block sb hsl).trans hbx
 have hset:(W.setCell ⟨sb,0,none⟩ (.slice a ns'.length c)).heap[sb]?=some (.cells #[.slice a ns'.length c,.int .i64 (n:Int)] 83 (0,0)):=by
  simp[World.setCell,Array.getElem?_modify,hbx1]
 have hne:∀ b,S' b→b≠sb:=fun b hb'=>by
  rcases hS' b hb' with h1|h1
  · exact (h.here b h1).2
  · omega
 have hsz:(JR (W.setCell ⟨sb,0,none⟩ (.slice a ns'.length c)) R v0 v1 v2).heap.size=W.heap.size:=by unfold JR;simp
 refine ⟨rfl,⟨fun b=>S' b∧b<W.heap.size,fun b hb'=>hS' b hb'.1,?_⟩,?_⟩
 · refine ⟨fun b hb' => ⟨by rw[hsz];exact hb'.2, hne b hb'.1⟩, hg, a, c, ?_, ?_, hc⟩
   · rw[xg (by omega)];exact hset
   · exact hN.bounded.carry fun b hb'=>⟨hb',by rw[xg (hSR b hb'.1),qc (hne b hb'.1)]⟩
 · have h1 : CFr sb w (W.setCell ⟨sb, 0, none⟩ (.slice a ns'.length c)) := (CFr.later hb).trans (CFr.put sb W 0 _);refine ⟨Qe h1.below (nZ9 _),fun x hx hxs=>?_⟩
   rw[xg (by omega)]
   exact h1.frame x hx hxs
end
section
attribute [local go_sem] qd
theorem YW {ns:List Nd}(hg:qG ns=true):jL ns 0=(growF ns.length ns 0,0)∧zZ (growF ns.length ns 0)=true:=by
 have h:=hg;simp only[qG,Bool.and_eq_true]at h
 have h0:=Ze h.1.2;have hq:xD ns 0=true:=by unfold xD;simp;omega
 refine ⟨?_,h.2⟩;unfold jL;rw[hg,hq];rfl
set_option linter.unusedSimpArgs false in
set_option maxHeartbeats 2000000 in
theorem qea (S:Nat→Prop)(sb n:Nat)(ns:List Nd)(w:World)(h:Sto S w sb ns n)(hE:jp w) :
 Calls Tryz.prog 44 #[.pointer (some ⟨sb,0,none⟩)] w fun e w'=>xC S sb w (Jp ns) ns n e w':=by
 have HST:Hid _:=h;have hb0:=Below.alloc1 w (.cells #[.int .i64 0,.int .i64 0,.string ⟨#[]⟩] 54);have HR0:Hid _:=heap_alloc_new w (.cells #[.int .i64 0,.int .i64 0,.string ⟨#[]⟩] 54);have HEV:Hid (∀ W,Below w.heap.size w W→jp W):=fun W hW=>hE.later hW
 obtain ⟨a,c,hbx,hN,hcm⟩:=h.box;have hsl:=qh hbx
 have HX:Hid (∀ W,Below w.heap.size w W→W.cell? ⟨sb,0,none⟩=some (.slice a ns.length c)):=fun W hW=>by
  rw[cH9 ((hW.block sb hsl).trans hbx)];rfl
 have x0:=HX.out _ hb0;obtain ⟨htd,hgt⟩:=YW h.good;have HT:Hid _:=qcP S (.slice a ns.length c) ns 0 _ ((h.doc hN).later hb0)
 have HS:Hid (Jp ns=if (jg ns.length (growF ns.length ns 0)).2≠0 then Ke (jg ns.length (growF ns.length ns 0)).2 else (0,(ns.length:Int),(jg ns.length (growF ns.length ns 0)).1)):=by
  show _=_
  unfold Jp;rw[htd];rfl
 rw[htd]at HT
 generalize growF ns.length ns 0=t at *
 have HPR:Hid (∀ (U:Nat→Prop) (va vk:Value) (W:World),Below w.heap.size w W→qm U W va t.attrs→qb U W ns.length vk t.kids→Calls Tryz.prog 80 #[.agg #[.bool t.text,.string t.s,va,vk]] W fun e w'=>e=.returned (.tuple #[.string (jg ns.length t).1,.int .i64 (jg ns.length t).2])∧Below W.heap.size W w') :=
  fun U va vk W hW hA hK=>VA U ns.length va vk t W hA hK (HEV.out W hW).marks (qam hgt _)
 obtain ⟨P,E,hPE⟩:∃ P E,jg ns.length t=(P,E):=⟨_,_,rfl⟩;rw[hPE]at HS HPR
 simp only at HS HPR
 unfold maxLen at hcm
 clear h hE htd hgt hbx hN hPE HEV;have main:True:=trivial;clear main
 by_cases hE0:E=0
 · subst hE0;rw[if_neg (by simp)]at HS
   rw[HS.out]
   go_enter Tryz.func44,Tryz.ntmps44
   go_wp2_with fail
   generalize w.alloc (.cells #[.int .i64 0,.int .i64 0,.string ⟨#[]⟩] 54)=W0 at *
   refine Calls.mono HT.out ?_;rintro e w1 ⟨va,vk,rfl,hA1,hK1,hb1⟩;obtain ⟨aa,ac,rfl⟩:=hA1.shape;obtain ⟨ka,kc,rfl,_,_⟩:=qb.shape ns.length hK1;have hb2:=Below.alloc1 w1 (.cells #[.bool t.text,.string t.s,.slice aa t.attrs.length ac,.slice ka t.kids.length kc] 79);have hb12:=hb1.trans (hb2.mono hb1.size);have hB2:=hb0.trans (hb12.mono hb0.size);have HR2:Hid _:=(hb12.block _ (qh HR0.out)).trans HR0.out;have HP2:Hid _:=HPR.out _ _ _ _ hB2 (qm.later hA1 hb2) (qb.later hb2 ns.length hK1);clear hA1 hK1 hb1 hb2 hb12 HT HPR HS;go_wp2_with fail
   generalize w1.alloc (.cells #[.bool t.text,.string t.s,.slice aa t.attrs.length ac,.slice ka t.kids.length kc] 79)=W2 at *
   refine Calls.mono HP2.out ?_;rintro e w3 ⟨rfl,hb3⟩;have hB3:=hB2.trans (hb3.mono hB2.size);have HR3:Hid _:=(hb3.block _ (qh HR2.out)).trans HR2.out;have x3:=HX.out w3 hB3;have r0:w3.cell? ⟨w.heap.size,0,none⟩=some (.int .i64 0):=by rw[cH9 HR3.out];rfl
   have r1:w3.cell? ⟨w.heap.size,1,none⟩=some (.int .i64 0):=by rw[cH9 HR3.out];rfl
   have r2:w3.cell? ⟨w.heap.size,2,none⟩=some (.string ⟨#[]⟩):=by rw[cH9 HR3.out];rfl
   have f0:w3.frozen? ⟨w.heap.size,0,none⟩=false:=fH9 HR3.out _;have f1:w3.frozen? ⟨w.heap.size,1,none⟩=false:=fH9 HR3.out _;have f2:w3.frozen? ⟨w.heap.size,2,none⟩=false:=fH9 HR3.out _;clear hb3 HR2 HR3 HP2 HX x0;go_wp2_with fail;refine bodyPost_ret (v:=.agg #[.int .i64 0,.int .i64 (ns.length:Int),.string P]) (by simp[results,Tryz.results44,go_sem,qd,World.cell?_setCell_other,r0,r1,r2]) rfl ?_
   exact Ye (0,(ns.length:Int),P) HST.out (Qe hB3 (nR9 _))
 · have hEb : (E == 0) = false := by simpa using hE0
   rw[if_pos hE0]at HS
   rw[HS.out]
   go_enter Tryz.func44,Tryz.ntmps44
   go_wp2_with fail
   generalize w.alloc (.cells #[.int .i64 0,.int .i64 0,.string ⟨#[]⟩] 54)=W0 at *
   refine Calls.mono HT.out ?_;rintro e w1 ⟨va,vk,rfl,hA1,hK1,hb1⟩;obtain ⟨aa,ac,rfl⟩:=hA1.shape;obtain ⟨ka,kc,rfl,_,_⟩:=qb.shape ns.length hK1;have hb2:=Below.alloc1 w1 (.cells #[.bool t.text,.string t.s,.slice aa t.attrs.length ac,.slice ka t.kids.length kc] 79);have hb12:=hb1.trans (hb2.mono hb1.size);have hB2:=hb0.trans (hb12.mono hb0.size);have HR2:Hid _:=(hb12.block _ (qh HR0.out)).trans HR0.out;have HP2:Hid _:=HPR.out _ _ _ _ hB2 (qm.later hA1 hb2) (qb.later hb2 ns.length hK1);clear hA1 hK1 hb1 hb2 hb12 HT HPR HS hE0;go_wp2_with fail
   generalize w1.alloc (.cells #[.bool t.text,.string t.s,.slice aa t.attrs.length ac,.slice ka t.kids.length kc] 79)=W2 at *
   refine Calls.mono HP2.out ?_;rintro e w3 ⟨rfl,hb3⟩;have hB3:=hB2.trans (hb3.mono hB2.size);have HR3:Hid _:=(hb3.block _ (qh HR2.out)).trans HR2.out;clear hb3 HR2 HP2 HX x0;go_wp2_with fail;refine Calls.mono (VD E w3) ?_;rintro e wr1 ⟨rfl,hbr1⟩;have HRr:Hid _:=(hbr1.block _ (qh HR3.out)).trans HR3.out;have hBr:=hB3.trans (hbr1.mono hB3.size);have r0:wr1.cell? ⟨w.heap.size,0,none⟩=some (.int .i64 0):=by rw[cH9 HRr.out];rfl
   have r1:wr1.cell? ⟨w.heap.size,1,none⟩=some (.int .i64 0):=by rw[cH9 HRr.out];rfl
   have r2:wr1.cell? ⟨w.heap.size,2,none⟩=some (.string ⟨#[]⟩):=by rw[cH9 HRr.out];rfl
   have f0:wr1.frozen? ⟨w.heap.size,0,none⟩=false:=fH9 HRr.out _;have f1:wr1.frozen? ⟨w.heap.size,1,none⟩=false:=fH9 HRr.out _;have f2:wr1.frozen? ⟨w.heap.size,2,none⟩=false:=fH9 HRr.out _;clear hbr1 HRr;go_wp2_with fail;refine bodyPost_ret (v:=.agg #[.int .i64 (E),.int .i64 0,.string ⟨#[]⟩]) (by simp[results,Tryz.results44,go_sem,qd,World.cell?_setCell_other,r0,r1,r2]) rfl ?_
   exact Ye (Ke _) HST.out (Qe hBr (nR9 _))
end
section
attribute [local go_sem] qd
theorem Sto.acts {S:Nat→Prop}{w W:World}{sb n:Nat}{ns:List Nd}(h:Sto S w sb ns n)(hb:Below w.heap.size w W)(m:Nat):Sto S (W.setCell ⟨sb,1,none⟩ (.int .i64 (m:Int))) sb ns m:=by
 obtain ⟨a,c,h1,h2,h3⟩:=h.box;have hbx:W.heap[sb]?=_:=(hb.block sb (qh h1)).trans h1;refine ⟨fun b hb'=>⟨by simpa using Nat.lt_of_lt_of_le (h.here b hb').1 hb.size,(h.here b hb').2⟩,h.good,a,c,?_,?_,h3⟩
 · simp[World.setCell,Array.getElem?_modify,hbx]
 · exact h2.carry fun b hb'=>⟨hb',by rw[qc (h.here b hb').2];exact hb.block b (h.here b hb').1⟩
theorem KX {S:Nat→Prop}{sb n m R:Nat}{ns ns':List Nd}{w W1 w2:World}{rep:Rep}{e:Ending}{v0 v1 v2:Value}(h:Sto S w sb ns n)(hF1:CFr sb w W1)(hR:w.heap.size≤R)(hRl:R<W1.heap.size)(hP:xC S sb W1 rep ns' m e w2):xC S sb w rep ns' m e (JR w2 R v0 v1 v2):=by
 obtain ⟨h1,⟨S',hS',hSt⟩,hF⟩:=hP;obtain ⟨a,c,hbx,_,_⟩:=h.box;have hsl:=qh hbx;have hs1:=hF1.below.size;have hsz2:(JR w2 R v0 v1 v2).heap.size=w2.heap.size:=by unfold JR;simp
 refine ⟨h1,⟨S',fun b hb'=>?_,hSt.keep (by rw[hsz2];exact nR9 _) fun b hb'=>xg ?_⟩,?_⟩
 · rcases hS' b hb' with h2 | h2
   · exact Or.inl h2
   · exact Or.inr (Nat.le_trans hs1 h2)
 · rcases hb' with hb' | rfl
   · rcases hS' b hb' with h2 | h2
     · have:=(h.here b h2).1;omega
     · omega
   · omega
 · refine ⟨Qe (B := 0) (hF1.below.trans hF.below) (nZ9 _), fun x hx hxs => ?_⟩
   rw[xg (by omega),hF.frame x (Nat.lt_of_lt_of_le hx hs1) hxs]
   exact hF1.frame x hx hxs
theorem new_make:Y4 0 ⟨false,⟨#[100,111,99]⟩,[],[]⟩=newD∧Y5 ⟨false,⟨#[100,111,99]⟩,[],[]⟩=0∧qG newD=true:=by
 refine ⟨?_,?_,?_⟩<;>kernel_rfl
set_option maxHeartbeats 1000000 in
theorem qeX (w:World) :
 Calls Tryz.prog 20 #[] w fun e w'=>∃ (sb:Nat) (S:Nat→Prop),e=.returned (.pointer (some ⟨sb,0,none⟩))∧w.heap.size≤sb∧sb<w'.heap.size∧(∀ b,S b→w.heap.size≤b)∧Sto S w' sb newD 0∧Below w.heap.size w w':=by
 obtain ⟨e1,e2,e3⟩:=new_make
 have HM:Hid _:=Vh (fun _=>False) 0 (.slice none 0 0) (.slice none 0 0) ⟨false,⟨#[100,111,99]⟩,[],[]⟩ w qm.nil ⟨rfl,none,0,rfl,nZ9 _⟩ (by
  intro t ht;rw[List.mem_singleton.1 ht];exact ⟨⟨by show 3≤maxLen;unfold maxLen;omega,by intro y hy;cases hy⟩,trivial⟩) (fun _ h=>h.elim)
 rw[e1,e2]at HM
 have HG:Hid _:=e3;clear e1 e2 e3
 go_enter Tryz.func20,Tryz.ntmps20
 go_wp2_with fail;refine Calls.mono HM.out ?_;rintro e w1 ⟨v1,rfl,hN1,hb1⟩;obtain ⟨a1,c1,rfl,_,hc1⟩:=hN1.shape;have hb2:=Below.alloc1 w1 (.cells #[.slice a1 newD.length c1] 60);have hb12:=hb1.trans (hb2.mono hb1.size);have HN2:Hid _:=qB.later hN1.bounded hb2;clear hN1 HM;go_wp2_with fail;go_ret;have hb3:=Below.alloc1 (w1.alloc (.cells #[.slice a1 newD.length c1] 60)) (.cells #[.slice a1 newD.length c1,.int .i64 0] 83);have hs1:=hb1.size;refine ⟨w1.heap.size+1,fun b=>w.heap.size≤b∧b<w1.heap.size,rfl,by omega,by simp,fun b hb=>hb.1,⟨fun b hb=>⟨by simp;omega,by omega⟩,HG.out,a1,c1,?_,?_,hc1⟩,hb12.trans (hb3.mono hb12.size)⟩
 · have := heap_alloc_new (w1.alloc (.cells #[.slice a1 newD.length c1] 60)) (.cells #[.slice a1 newD.length c1, .int .i64 0] 83);rw[World.size_alloc]at this
   exact this
 · exact qB.later HN2.out hb3
end
section
attribute [local go_sem] qd
set_option linter.unusedSimpArgs false in
set_option maxHeartbeats 4000000 in
theorem qfx (S:Nat→Prop)(M k:Nat)(vn vl:Value)(ns:List Nd)(l:List Opn)(o:Opn)(y:Nd)(TT J:Tr)(w:World)(hl1:l=[o])(hN:qB S w vn ns)(hS:∀ b,S b→b<w.heap.size)(ha:∀ x∈ns,x.attrs.length≤4398046511104)(hx:Qq ns)(hO:Ops S w 9 vl l)(ht:XJ 9 l)(hc:YK ns l=0)(hk:o.kind=2)(ho:o.target=(k:Int))(hy:ns[k]?=some y)(hroom:ns.length+cnt (8+1) o.content≤1048576)(hkb:y.kids.length≤1048576)(hb:Bnd 1000 ns)(hne:ns≠[])
 (hB3:Bnd 1048576 (xV 8 ns k y.kids.length o.content)) (hfit:FitG M (xV 8 ns k y.kids.length o.content) 0) (hgrow:growF M (xV 8 ns k y.kids.length o.content) 0=TT) (hJ:(jt [TT]).map (jk M)=[J]) (hF1:Small (M+1) [TT]) (hF2:cnt (M+1) [TT]≤1048576) (hF3:TextsN (M+1) [J]) (hgd:zZ J=true) :
 Calls Tryz.prog 78 #[.agg #[vn],vl] w fun e w'=>∃ v',e=.returned (.tuple #[.agg #[v'],.int .i64 0])∧qB (fun b=>w.heap.size≤b) w' v' (layF M J (-1) 0)∧Below w.heap.size w w':=by
 obtain ⟨na,nc,rfl,hnl,hnc⟩:=hN.shape;obtain ⟨la,lc,rfl,hll,hlc⟩:=hO.shape;have HCK:Hid (∀ W,Below w.heap.size w W→Calls Tryz.prog 110 #[.agg #[.slice na ns.length nc],.slice la l.length lc] W fun e w'=>e=.returned (.int .i64 (YK ns l))∧Below W.heap.size W w'):=fun W hW=>qbR S 9 _ _ ns l W (hN.later hW) (fun b hb=>Nat.lt_of_lt_of_le (hS b hb) hW.size) ha hx (hO.later hW) ht
 have HP0:Hid (AP w (.slice na ns.length nc) ((w.alloc (.cells #[.slice na ns.length nc] 60)).alloc (.cells #[.slice none 0 0] 60))):=by
  refine ⟨(Below.alloc1 w _).alloc (by simp) _,?_,?_⟩
  · rw[Lib.alloc_old _ _ _ (by simp)];exact heap_alloc_new _ _
  · have e := heap_alloc_new (w.alloc (.cells #[.slice na ns.length nc] 60)) (.cells #[.slice none 0 0] 60);rw[World.size_alloc]at e
    exact e
 have HN:Hid (qB S w (.slice na ns.length nc) ns):=hN;have HS:Hid (∀ b,S b→b<w.heap.size):=hS;unfold maxLen at hnc hlc
 rw[hc]at HCK
 have HNB:Hid (∀ W,Below w.heap.size w W→Calls Tryz.prog 111 #[.slice na ns.length nc] W fun e w'=>∃ bb v' ms',e=.returned (.pointer (some ⟨bb,0,none⟩))∧Bx W.heap.size (fun b=>b<W.heap.size) ns.length bb w' v' ns ms'∧Below W.heap.size W w'):=fun W hW=>X0 _ ns W ((HN.out.later hW).bounded.carry fun b hb=>⟨hb.2,rfl⟩) hne hb
 obtain ⟨P,hP⟩:∃ P,xV 8 ns k y.kids.length o.content=P:=⟨_,rfl⟩;have HDA:Hid (∀ (B:Nat) (T:Nat→Prop) (bb:Nat) (v:Value) (ms:List Rw) (W:World),Bx B T ns.length bb W v ns ms→xI T T W (8+1) (.slice la l.length lc) l→Calls Tryz.prog 112 #[.pointer (some ⟨bb,0,none⟩),.slice la l.length lc] W fun e w'=>e=.returned (.tuple #[])∧Did B T ns.length bb W w' v ms P):=fun B T bb v ms W h1 h2=>by rw[←hP];exact qfy B T bb _ v l o ns ms W k y hl1 h1 h2 hk ho hy hroom hkb
 rw[hP]at hB3 hfit hgrow
 have HG:Hid (∀ (bb:Nat) (v:Value) (W:World),qB (fun b=>b<W.heap.size) W v P→W.heap[bb]?=some (.cells #[v] 190 (0,0))→Calls Tryz.prog 114 #[.pointer (some ⟨bb,0,none⟩),.int .i64 0] W fun e w'=>∃ va vk,e=.returned (.agg #[.bool TT.text,.string TT.s,va,vk])∧qm (fun b=>b<W.heap.size∨W.heap.size≤b) w' va TT.attrs∧qb (fun b=>b<W.heap.size∨W.heap.size≤b) w' M vk TT.kids∧Below W.heap.size W w'):=by
  intro bb v W h1 h2;have h:=V4 M (fun b=>b<W.heap.size) v P 0 bb W h1 (fun _ h=>h) h2 hB3 hfit
  rw[hgrow]at h
  exact h
 have HJN:Hid (∀ (S:Nat→Prop) (v:Value) (W:World),qb S W (M+1) v [TT]→(∀ b,S b→b<W.heap.size)→Calls Tryz.prog 113 #[v] W fun e w'=>∃ v',e=.returned v'∧qb (fun b=>W.heap.size≤b) w' (M+1) v' [J]∧Below W.heap.size W w'):=fun S v W h1 h2=>by rw[←hJ];exact qar S M v [TT] W h1 hF1 h2 hF2
 have HMK:Hid (∀ (S:Nat→Prop) (va vk:Value) (W:World),qm S W va J.attrs→qb S W M vk J.kids→(∀ b,S b→b<W.heap.size)→Calls Tryz.prog 40 #[.agg #[.bool J.text,.string J.s,va,vk]] W fun e w'=>∃ v,e=.returned (.tuple #[.agg #[v],.int .i64 0])∧qB (fun b=>W.heap.size≤b) w' v (layF M J (-1) 0)∧Below W.heap.size W w'):=by
  intro S va vk W h1 h2 h3;have h:=Vh S M va vk J W h1 h2 hF3 h3;rw[show Y5 J=0 by unfold Y5;rw[hgd];rfl,show Y4 M J=layF M J (-1) 0 by unfold Y4;rw[hgd];rfl]at h
  exact h
 have HO9:Hid (Ops S w 9 (.slice la l.length lc) l):=hO;obtain ⟨D,hD⟩:∃ D,layF M J (-1) 0=D:=⟨_,rfl⟩;rw[hD]at HMK ⊢
 clear hl1 hne hF1 hF2 hF3 hJ hN hO hS ha hx ht hB3 hfit hgrow hgd hD hP hy hk ho hroom hkb hb hc
 go_enter Tryz.func78,Tryz.ntmps78
 go_wp2_with fail;refine (HCK.out _ HP0.out.below).mono ?_;rintro e w1 ⟨rfl,hb1⟩;have HP1:Hid _:=HP0.out.later hb1 HP0.out.two;have x1:w1.cell? ⟨w.heap.size,0,none⟩=some (.slice na ns.length nc):=by rw[cH9 HP1.out.box];rfl
 clear hb1 HP0 HCK;go_wp2_with fail;refine (HNB.out _ HP1.out.below).mono ?_;rintro e w2 ⟨bb,v2,ms2,rfl,hX2,hb2⟩;have HX2:Hid _:=hX2;have HP2:Hid _:=HP1.out.later hb2 HP1.out.two;have HB2:Hid _:=hb2;clear hX2 hb2 HNB x1;go_wp2_with fail;refine (HDA.out _ _ _ _ _ _ HX2.out (xI.of9 HO9.out HS.out HP1.out.below HB2.out)).mono ?_;rintro e w3 ⟨rfl,hD3⟩;have hb3:=hD3.below HX2.out;have HP3:Hid _:=HP2.out.later hb3 HP1.out.two;obtain ⟨v3,ms3,hX3,_⟩:=hD3;have HG4:Hid _:=HG.out bb v3 w3 hX3.2.2.nodes hX3.1;clear hb3 hX3 HDA HX2 HO9 HB2 HP2 HP1 HG;go_wp2_with fail;refine Calls.mono HG4.out ?_;rintro e w4 ⟨va4,vk4,rfl,hA4,hK4,hb4⟩;obtain ⟨a4,c4,rfl⟩:=hA4.shape;obtain ⟨k4,d4,rfl,_,_⟩:=qb.shape _ hK4;have HP4:Hid _:=HP3.out.later hb4 HP3.out.two;have HT5:Hid _:=qdP hA4 hK4;have HP5:Hid _:=HP4.out.later (Below.alloc1 w4 (.cells #[.bool TT.text,.string TT.s,.slice a4 TT.attrs.length c4,.slice k4 TT.kids.length d4] 79)) HP4.out.two;clear hA4 hK4 hb4 HG4 HP3;go_wp2_with fail;refine (HJN.out _ _ _ HT5.out (fun b hb=>by simpa using hb)).mono ?_
 rintro e w6 ⟨v6,rfl,hT6,hb6⟩;have HP6:Hid _:=HP5.out.later hb6 HP5.out.two;obtain ⟨a6,c6,hv6,hl6,hm6,h6⟩:=hT6;obtain ⟨b6,o6,rfl,hs6,hc6⟩:=h6 (by simp)
 obtain ⟨va6,vk6,e0,e1,e2,e3,hA6,hK6⟩:=hc6 0 J rfl;obtain ⟨a7,c7,rfl⟩:=hA6.shape;obtain ⟨k7,d7,rfl,_,_⟩:=qb.shape _ hK6;simp only[Nat.zero_mul,Nat.add_zero,List.length_singleton]at e0 e1 e2 e3 hv6 hl6
 subst hv6;have HMK6:Hid _:=HMK.out _ _ _ w6 hA6.bounded (qb.bounded _ hK6) (fun b hb=>hb.2)
 clear hA6 hK6 hc6 h6 hs6 hb6 HMK HJN HT5 HP5 HP4;unfold maxLen at hm6
 go_wp2_with fail;refine Calls.mono HMK6.out ?_;rintro e w7 ⟨v7,rfl,hN7,hb7⟩;have HP7:Hid _:=HP6.out.later hb7 HP6.out.two;have HN7:Hid _:=hN7;have hz7:=HP7.out.two;have HZ6:Hid _:=HP6.out.two;obtain ⟨a8,c8,rfl,_,_⟩:=hN7.shape;clear hN7 hb7 HMK6 e0 e1 e2 e3;have HP8:Hid _:=HP7.out.later (Below.alloc1 w7 (.cells #[.slice a8 D.length c8] 60)) HP7.out.two;have HN8:Hid _:=qB.later HN7.out (Below.alloc1 w7 (.cells #[.slice a8 D.length c8] 60));have f8:(w7.alloc (.cells #[.slice a8 D.length c8] 60)).frozen? ⟨w.heap.size+1,0,none⟩=false:=fH9 HP8.out.res 0;have r8:(w7.alloc (.cells #[.slice a8 D.length c8] 60)).cell? ⟨w.heap.size+1,0,none⟩=some (.slice none 0 0):=by rw[cH9 HP8.out.res];rfl
 go_wp2_with fail;refine bodyPost_ret (v:=.tuple #[.agg #[.slice a8 D.length c8],.int .i64 0]) (by simp[results,Tryz.results78,go_sem,qd,r8]) rfl ⟨.slice a8 D.length c8,rfl,?_,?_⟩
 · have h1 : qB (fun b => w6.heap.size ≤ b) _ _ _ := HN8.out
   refine h1.carry fun b hb=>⟨by have:=HZ6.out;omega,?_⟩
   exact qc (by have:=HZ6.out;omega)
 · exact HP8.out.below.setCell (p:=⟨w.heap.size+1,0,none⟩) (by show w.heap.size≤w.heap.size+1;omega) _
end
section
attribute [local go_sem] qd
set_option linter.unusedSimpArgs false in
set_option maxHeartbeats 4000000 in
theorem qfw (S T:Nat→Prop)(sb n:Nat)(ns D:List Nd)(L:List Opn)(vl:Value)(ls:List ByteArray)(w:World)(h:Sto S w sb ns n)(hL:Strs T w vl ls)(hE:jp w)(hz:∀ s∈ls,s.size≤maxLen)(h6:ls.length≤6)(hch:ye ns ls=(L,0))(hdeep:∀ o∈L,Deep 9 o.content)(hg:qG D=true)
 (hap:∀ (S:Nat→Prop) (vn vl:Value) (w:World),qB S w vn ns→(∀ b,S b→b<w.heap.size)→Ops S w 9 vl L→Calls Tryz.prog 78 #[.agg #[vn],vl] w fun e w'=>∃ v',e=.returned (.tuple #[.agg #[v'],.int .i64 0])∧qB (fun b=>w.heap.size≤b) w' v' D∧Below w.heap.size w w') :
 Calls Tryz.prog 43 #[.pointer (some ⟨sb,0,none⟩),vl] w fun e w'=>xC S sb w (0,(L.length:Int),⟨#[]⟩) D n e w':=by
 obtain ⟨la,lc,rfl,hll,hlc⟩:=hL.shape;have HST:Hid _:=h;have hb0:=Below.alloc1 w (.cells #[.int .i64 0,.int .i64 0,.string ⟨#[]⟩] 54);have HR0:Hid _:=heap_alloc_new w (.cells #[.int .i64 0,.int .i64 0,.string ⟨#[]⟩] 54);obtain ⟨a,c,hbx,hN,hcm⟩:=h.box;have hsl:=qh hbx;have HBX:Hid _:=hbx
 have HX:Hid (∀ W,Below w.heap.size w W→W.cell? ⟨sb,0,none⟩=some (.slice a ns.length c)):=fun W hW=>by
  rw[cH9 ((hW.block sb hsl).trans hbx)];rfl
 have x0:=HX.out _ hb0;have HD:Hid _:=h.doc hN;unfold maxLen at hcm hlc
 have h6i:¬ (6:Int)<(ls.length:Int):=by omega
 obtain ⟨W0,hW0⟩:∃ W0,W0=w.alloc (.cells #[.int .i64 0,.int .i64 0,.string ⟨#[]⟩] 54):=⟨_,rfl⟩;rw[←hW0]at hb0 HR0
 have HCH:Hid _:=KM (fun b=>b<W0.heap.size) (.slice a ns.length c) (.slice la ls.length lc) ns ls W0 ⟨(HD.out.later hb0).nodes.carry fun b hb=>⟨(HD.out.later hb0).here b hb,rfl⟩,fun b hb=>hb,HD.out.few,HD.out.short⟩ ((hL.later hb0).bounded.carry fun b hb=>⟨hb.2,rfl⟩) (hE.later hb0) h6 hz
 rw[hch]at HCH
 have HAP:Hid (∀ (w1:World) (v:Value),Below W0.heap.size W0 w1→Ops (fun b=>W0.heap.size≤b) w1 2501 v L→Calls Tryz.prog 78 #[.agg #[.slice a ns.length c],v] w1 fun e w'=>∃ v',e=.returned (.tuple #[.agg #[v'],.int .i64 0])∧qB (fun b=>w1.heap.size≤b) w' v' D∧Below w1.heap.size w1 w'):=by
  intro w1 v hb1 hO;have hD1:=HD.out.later (hb0.trans (hb1.mono hb0.size));exact hap (fun b=>b<w1.heap.size) _ v w1 (hD1.nodes.carry fun b hb=>⟨hD1.here b hb,rfl⟩) (fun b hb=>hb) ((hO.narrow hdeep).bounded.carry fun b hb=>⟨hb.2,rfl⟩)
 have HGG:Hid _:=hg;clear h hE hL hg hap hdeep hN hbx hch hz
 go_enter Tryz.func43,Tryz.ntmps43
 go_wp2_with fail;rw[←hW0];refine Calls.mono HCH.out ?_;rintro e w1 ⟨v1,rfl,hO1,hb1⟩;obtain ⟨oa,oc,rfl,_,hocm⟩:=hO1.shape;have hB1:=hb0.trans (hb1.mono hb0.size);have HR1:Hid _:=(hb1.block _ (qh HR0.out)).trans HR0.out;have x1:=HX.out w1 hB1;have HA1:Hid _:=HAP.out w1 _ hb1 hO1;have hrw0:w.heap.size<W0.heap.size:=qh HR0.out;have hs1:=hb1.size;clear hO1 hb1 HCH x0 HAP hW0;go_wp2_with fail;refine Calls.mono HA1.out ?_;rintro e w2 ⟨v2,rfl,hN2,hb2⟩;obtain ⟨a2,c2,rfl,_,hc2⟩:=hN2.shape;have hb3:=Below.alloc1 w2 (.cells #[.slice a2 D.length c2] 60);have hb23:=hb2.trans (hb3.mono hb2.size);have hB3:=hB1.trans (hb23.mono hB1.size);have HR3:Hid _:=(hb23.block _ (qh HR1.out)).trans HR1.out;have HN3:Hid _:=qB.later hN2 hb3;obtain ⟨W3,hW3⟩:∃ W3,W3=w2.alloc (.cells #[.slice a2 D.length c2] 60):=⟨_,rfl⟩;rw[←hW3]at HN3 HR3 hB3
 have HX3:Hid _:=(hB3.block sb hsl).trans HBX.out;have x3:W3.cell? ⟨sb,0,none⟩=some (.slice a ns.length c):=by rw[cH9 HX3.out];rfl
 have xf3:W3.frozen? ⟨sb,0,none⟩=false:=fH9 HX3.out _;obtain ⟨W4,hW4⟩:∃ W4,W4=W3.setCell ⟨sb,0,none⟩ (.slice a2 D.length c2):=⟨_,rfl⟩;have HRs:Hid (W4.heap[w.heap.size]?=some (.cells #[.int .i64 0,.int .i64 0,.string ⟨#[]⟩] 54 (0,0))):=by show _=_;rw[hW4];exact (qc (by omega)).trans HR3.out
 have r0:W4.cell? ⟨w.heap.size,0,none⟩=some (.int .i64 0):=by rw[cH9 HRs.out];rfl
 have r1:W4.cell? ⟨w.heap.size,1,none⟩=some (.int .i64 0):=by rw[cH9 HRs.out];rfl
 have r2:W4.cell? ⟨w.heap.size,2,none⟩=some (.string ⟨#[]⟩):=by rw[cH9 HRs.out];rfl
 have f0:W4.frozen? ⟨w.heap.size,0,none⟩=false:=fH9 HRs.out _;have f1:W4.frozen? ⟨w.heap.size,1,none⟩=false:=fH9 HRs.out _;have f2:W4.frozen? ⟨w.heap.size,2,none⟩=false:=fH9 HRs.out _;clear hN2 hb2 hb3 hb23 HR1 x1 HX HA1 HRs HX3;rw[hW4,hW3]at r0 r1 r2 f0 f1 f2
 rw[hW3]at x3 xf3
 go_wp2_with fail;refine bodyPost_ret (v:=.agg #[.int .i64 0,.int .i64 (L.length:Int),.string ⟨#[]⟩]) (by simp[results,Tryz.results43,go_sem,qd,World.cell?_setCell_other,r0,r1,r2]) rfl ?_
 rw[←hW3];exact qac (0,(L.length:Int),⟨#[]⟩) HST.out hB3 (fun b hb=>Or.inr (by omega)) HN3.out hc2 HGG.out (nR9 _) (fun b hb=>by omega)
set_option linter.unusedSimpArgs false in
set_option maxHeartbeats 4000000 in
theorem doC (S T:Nat→Prop)(sb n:Nat)(ns D:List Nd)(vl:Value)(k:Int)(ls:List ByteArray)(rep:Rep)(w0 w:World)(h:Sto S w sb ns n)(hL:Strs T w vl ls)(hT:∀ b,T b→b≠sb)(hE:jp w0)(hB0:Below w0.heap.size w0 w)(hsb:w0.heap.size≤sb)(hn:n<100)
 (hk:(k=2∧∀ W,Sto S W sb ns (n+1)→Strs T W vl ls→jp W→Calls Tryz.prog 43 #[.pointer (some ⟨sb,0,none⟩),vl] W fun e w'=>xC S sb W rep D (n+1) e w')∨(k=3∧∀ W,Sto S W sb ns (n+1)→Strs T W vl ls→jp W→Calls Tryz.prog 44 #[.pointer (some ⟨sb,0,none⟩)] W fun e w'=>xC S sb W rep D (n+1) e w')) :
 Calls Tryz.prog 21 #[.pointer (some ⟨sb,0,none⟩),.agg #[.int .i64 k,vl]] w fun e w'=>xC S sb w rep D (n+1) e w':=by
 obtain ⟨la,lc,rfl,hll,hlc⟩:=hL.shape;have HST:Hid _:=h;obtain ⟨da,dc,hbx,_,_⟩:=h.box;have hsl:=qh hbx;have hni:¬ (100:Int)≤(n:Int):=by omega
 have hwr:IntKind.i64.wrap ((n:Int)+1)=(n:Int)+1:=IntWalk.i64_in _ (by omega)
 have y1:w.cell? ⟨sb,1,none⟩=some (.int .i64 (n:Int)):=by rw[cH9 hbx];rfl
 have yf1:w.frozen? ⟨sb,1,none⟩=false:=fH9 hbx _;have hb0:Below w.heap.size w ((w.alloc (.cells #[.int .i64 k,.slice la ls.length lc] 57)).alloc (.cells #[.int .i64 0,.int .i64 0,.string ⟨#[]⟩] 54)):=(Below.alloc1 w _).alloc (by simp) _
 have HBX:Hid _:=(hb0.block sb hsl).trans hbx;have x1:((w.alloc (.cells #[.int .i64 k,.slice la ls.length lc] 57)).alloc (.cells #[.int .i64 0,.int .i64 0,.string ⟨#[]⟩] 54)).cell? ⟨sb,1,none⟩=some (.int .i64 (n:Int)):=by rw[cH9 HBX.out];rfl
 have xf1:((w.alloc (.cells #[.int .i64 k,.slice la ls.length lc] 57)).alloc (.cells #[.int .i64 0,.int .i64 0,.string ⟨#[]⟩] 54)).frozen? ⟨sb,1,none⟩=false:=fH9 HBX.out _;obtain ⟨Ws,hWs⟩:∃ Ws,Ws=w.setCell ⟨sb,1,none⟩ (.int .i64 ((n:Int)+1)):=⟨_,rfl⟩;have hszs:Ws.heap.size=w.heap.size:=by rw[hWs];simp
 obtain ⟨W1,hW1⟩:∃ W1,W1=(Ws.alloc (.cells #[.int .i64 k,.slice la ls.length lc] 57)).alloc (.cells #[.int .i64 0,.int .i64 0,.string ⟨#[]⟩] 54):=⟨_,rfl⟩;have hbA:Below Ws.heap.size Ws W1:=by rw[hW1];exact (Below.alloc1 _ _).alloc (by simp) _
 have HF1:Hid (CFr sb w W1):=((hWs ▸ CFr.put sb w 1 _:CFr sb w Ws)).trans (CFr.later hbA);have HSE:Hid (jp W1):=hE.later ((hWs ▸ hB0.setCell (p:=⟨sb,1,none⟩) hsb _:Below w0.heap.size w0 Ws).trans (hbA.mono (by rw[hszs];exact hB0.size)))
 have HL1:Hid (Strs T W1 (.slice la ls.length lc) ls):=Strs.later (hL.carry fun b hb=>⟨hb,by rw[hWs];exact qc (hT b hb)⟩) hbA
 have HS1:Hid (Sto S W1 sb ns (n+1)):=by
  have:=h.acts (Below.refl _ w) (n+1);rw[show ((n+1:Nat):Int)=(n:Int)+1 by omega,←hWs]at this
  exact this.later hbA
 have h1:=heap_alloc_new Ws (.cells #[.int .i64 k,.slice la ls.length lc] 57)
 have HA1:Hid (W1.heap[w.heap.size]?=some (.cells #[.int .i64 k,.slice la ls.length lc] 57 (0,0))):=by
  rw[hszs]at h1
  show _=_
  rw[hW1,heap_alloc_old _ _ (by simp;omega)]
  exact h1
 have HR1:Hid (W1.heap[w.heap.size+1]?=some (.cells #[.int .i64 0,.int .i64 0,.string ⟨#[]⟩] 54 (0,0))):=by
  have h1:=heap_alloc_new (Ws.alloc (.cells #[.int .i64 k,.slice la ls.length lc] 57)) (.cells #[.int .i64 0,.int .i64 0,.string ⟨#[]⟩] 54);rw[World.size_alloc,hszs,←hW1]at h1
  exact h1
 have q0:W1.cell? ⟨w.heap.size,0,none⟩=some (.int .i64 k):=by rw[cH9 HA1.out];rfl
 have q1:W1.cell? ⟨w.heap.size,1,none⟩=some (.slice la ls.length lc):=by rw[cH9 HA1.out];rfl
 clear hbA hszs HBX hb0 h hL hE hbx hT h1 HA1;rw[hWs]at hW1
 rw[hW1]at q0 q1
 rcases hk with ⟨rfl,hC⟩|⟨rfl,hC⟩
 all_goals
  have HCL:Hid _:=hC W1 HS1.out HL1.out HSE.out;have HW:Hid (W1=_):=hW1;clear hC HS1 HL1 HSE hW1 hWs
  go_enter Tryz.func21,Tryz.ntmps21
  go_wp2_with fail;rw[←HW.out];refine Calls.mono HCL.out ?_;rintro e w2 hP;obtain ⟨rfl,hSt,hF⟩:=hP;have HPP:Hid (xC S sb W1 rep D (n+1) _ w2):=⟨rfl,hSt,hF⟩;have HRr:Hid (w2.heap[w.heap.size+1]?=_):=(hF.frame _ (qh HR1.out) (by omega)).trans HR1.out
  have r0:w2.cell? ⟨w.heap.size+1,0,none⟩=some (.int .i64 0):=by rw[cH9 HRr.out];rfl
  have r1:w2.cell? ⟨w.heap.size+1,1,none⟩=some (.int .i64 0):=by rw[cH9 HRr.out];rfl
  have r2:w2.cell? ⟨w.heap.size+1,2,none⟩=some (.string ⟨#[]⟩):=by rw[cH9 HRr.out];rfl
  have f0:w2.frozen? ⟨w.heap.size+1,0,none⟩=false:=fH9 HRr.out _;have f1:w2.frozen? ⟨w.heap.size+1,1,none⟩=false:=fH9 HRr.out _;have f2:w2.frozen? ⟨w.heap.size+1,2,none⟩=false:=fH9 HRr.out _;clear hSt hF HRr q0 q1 x1 xf1;go_wp2_with fail;refine bodyPost_ret (v:=.agg #[.int .i64 rep.1,.int .i64 rep.2.1,.string rep.2.2]) (by simp[results,Tryz.results21,go_sem,qd,World.cell?_setCell_other,r0,r1,r2]) rfl ?_
  exact KX HST.out HF1.out (by omega) (qh HR1.out) HPP.out
end
end Go.Proofs.YtfplhcicbbhljaaGreatDoor
