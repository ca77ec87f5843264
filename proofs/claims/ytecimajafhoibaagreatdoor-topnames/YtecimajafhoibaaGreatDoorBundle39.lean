/- Bundled: AimW StoM StrsL ChW DocCp StoG StoW StoX StoD AliveM AliveW PlayW TopS StoP StoL OrdM NamM NamA NamW TRefN TNamK. What each says stands ahead of it. -/
import Derived.Test.YtecimajafhoibaaGreatDoorBundle38
namespace Go.Proofs.YtecimajafhoibaaGreatDoor
open Go.ChangeShapes Go.WideShapes Go.ChangeAt Go.RowKit
set_option maxRecDepth 100000
section
attribute [local go_sem] qe
def Qm (o:Opn)(l:List Int):List Opn:=l.map fun n=>{ o with target:=n }
def xQ (o:Opn)(ca:Option Addr)(cc:Nat)(l:List Int):List Orw:=l.map fun n=>⟨o.kind,n,ca,o.content.length,cc,o.name,o.s⟩
theorem XX {w w':World}{B:Nat}{e:TypeId}{k n:Nat}{v:Value}{xs:List Value}(h:w.ownsRow B e k v n xs)(hk:∀ g,v.ownBlock=some g→w'.heap[g]?=w.heap[g]?):w'.ownsRow B e k v n xs:=by
 refine ⟨h.1,?_⟩
 rcases h.2 with ⟨rfl,hz⟩|⟨g,cap,cur,rfl,hB,hh,hc,hm,hs,ht⟩
 · exact Or.inl ⟨rfl,hz⟩
 · exact Or.inr ⟨g,cap,cur,rfl,hB,(hk g rfl).trans hh,hc,hm,hs,ht⟩
theorem QY {w:World}{B B':Nat}{e:TypeId}{k n:Nat}{v:Value}{xs:List Value}(h:w.ownsRow B e k v n xs)(hB:B'≤B):w.ownsRow B' e k v n xs:=by
 refine ⟨h.1,?_⟩
 rcases h.2 with ⟨rfl,hz⟩|⟨g,cap,cur,rfl,hB1,hh,hc,hm,hs,ht⟩
 · exact Or.inl ⟨rfl,hz⟩
 · exact Or.inr ⟨g,cap,cur,rfl,Nat.le_trans hB hB1,hh,hc,hm,hs,ht⟩
theorem qbf (o:Opn)(ca:Option Addr)(cc:Nat){l:List Int}{k:Nat}{t:Int}(h:l[k]?=some t):qD (xQ o ca cc (l.take (k+1)))=qD (xQ o ca cc (l.take k))++[.int .i64 o.kind,.int .i64 t,.slice ca o.content.length cc,.string o.name,.string o.s]:=by
 have hk:=qd h;have e:l[k]=t:=by simpa[hk] using h
 rw[List.take_succ_eq_append_getElem hk,e];unfold xQ qD;rw[List.map_append,List.flatMap_append];rfl
structure qeX (w:World) (o:Opn) (ca:Option Addr) (cc:Nat) (l:List Int) (k:Nat) (v:Value) (wr:World):Prop where
 below:Below w.heap.size w wr
 box:∃ t:Int,wr.heap[w.heap.size]?=some (.cells #[.int .i64 o.kind,.int .i64 t,.slice ca o.content.length cc,.string o.name,.string o.s] 90 (0,0))
 row:wr.ownsRow (w.heap.size+1) 90 5 v k (qD (xQ o ca cc (l.take k)))
set_option maxHeartbeats 1000000 in
theorem qbg (T:Nat→Prop)(o:Opn)(ca:Option Addr)(cc:Nat)(vi:Value)(l:List Int)(w:World)(hI:q6 T w vi l)(hl:l.length≤1048576) :
 Calls Tryz.prog 37 #[.agg #[.int .i64 o.kind,.int .i64 o.target,.slice ca o.content.length cc,.string o.name,.string o.s],vi] w fun e w'=>∃ v,e=.returned v∧w'.ownsRow w.heap.size 90 5 v l.length (qD (xQ o ca cc l))∧Below w.heap.size w w':=by
 obtain ⟨ia,ic,rfl,hil,hic⟩:=hI.shape;obtain ⟨i0,hi,hz0,hz1,hz2⟩:=info_parts opInfo;have HI:Hid _:=hI;have HI0:Hid (qeX w o ca cc l 0 (.slice none 0 0) (w.alloc (.cells #[.int .i64 o.kind,.int .i64 o.target,.slice ca o.content.length cc,.string o.name,.string o.s] 90))):=⟨Below.alloc1 w _,⟨_,heap_alloc_new w _⟩,World.ownsRow_nil _ _ _ _⟩;unfold maxLen at hic
 clear hI
 go_enter Tryz.func37,Tryz.ntmps37
 go_wp2_with fail
 go_loopg [10,5] l.length (fun g i u wr=>∃ (k:Nat) (v:Value),k+g=l.length∧i=.int .i64 k∧v=u∧qeX w o ca cc l k v wr)
 case atStart => exact ⟨0,_,by omega,rfl,rfl,HI0.out⟩
 case round =>
  clear HI0;obtain ⟨k,v,hk,rfl,hvu,hA⟩:=hrel;subst hvu;obtain ⟨t0,hbx⟩:=hA.box;have HB:Hid _:=hA.below;have HRW:Hid _:=hA.row
  by_cases hlt:k<l.length
  · have hlti : (k : Int) < (l.length : Int) := by omega
    obtain ⟨t,ht⟩:∃ t,l[k]?=some t:=⟨l[k],by simp[hlt]⟩
    obtain ⟨b1,o1,c1,hv1,_,_,e1⟩:=(q6.later HI.out HB.out).at ht
    injection hv1 with hv1 hv1l hv1c
    subst hv1 hv1c;clear hv1l;have HSN:Hid _:=qbf o ca cc ht;have q0:wr.cell? ⟨w.heap.size,0,none⟩=some (.int .i64 o.kind):=by rw[cH9 hbx];rfl
    have q1:wr.cell? ⟨w.heap.size,1,none⟩=some (.int .i64 t0):=by rw[cH9 hbx];rfl
    have q2:wr.cell? ⟨w.heap.size,2,none⟩=some (.slice ca o.content.length cc):=by rw[cH9 hbx];rfl
    have q3:wr.cell? ⟨w.heap.size,3,none⟩=some (.string o.name):=by rw[cH9 hbx];rfl
    have q4:wr.cell? ⟨w.heap.size,4,none⟩=some (.string o.s):=by rw[cH9 hbx];rfl
    have qf:wr.frozen? ⟨w.heap.size,1,none⟩=false:=fH9 hbx _
    have hbx1:(wr.setCell ⟨w.heap.size,1,none⟩ (.int .i64 t)).heap[w.heap.size]?=some (.cells #[.int .i64 o.kind,.int .i64 t,.slice ca o.content.length cc,.string o.name,.string o.s] 90 (0,0)):=by
     simp[World.setCell,Array.getElem?_modify,hbx]
    have hrow1:(wr.setCell ⟨w.heap.size,1,none⟩ (.int .i64 t)).ownsRow (w.heap.size+1) 90 5 v k (qD (xQ o ca cc (l.take k))):=XX HRW.out (fun g hg=>qb (by have:=(World.ownsRow.lt HRW.out g hg).1;omega))
    have hB1:Below w.heap.size w (wr.setCell ⟨w.heap.size,1,none⟩ (.int .i64 t)):=HB.out.setCell (p:=⟨w.heap.size,1,none⟩) (nR9 _) _;have p0:(wr.setCell ⟨w.heap.size,1,none⟩ (.int .i64 t)).cell? ⟨w.heap.size,0,none⟩=some (.int .i64 o.kind):=by rw[cH9 hbx1];rfl
    have p1:(wr.setCell ⟨w.heap.size,1,none⟩ (.int .i64 t)).cell? ⟨w.heap.size,1,none⟩=some (.int .i64 t):=by rw[cH9 hbx1];rfl
    have p2:(wr.setCell ⟨w.heap.size,1,none⟩ (.int .i64 t)).cell? ⟨w.heap.size,2,none⟩=some (.slice ca o.content.length cc):=by rw[cH9 hbx1];rfl
    have p3:(wr.setCell ⟨w.heap.size,1,none⟩ (.int .i64 t)).cell? ⟨w.heap.size,3,none⟩=some (.string o.name):=by rw[cH9 hbx1];rfl
    have p4:(wr.setCell ⟨w.heap.size,1,none⟩ (.int .i64 t)).cell? ⟨w.heap.size,4,none⟩=some (.string o.s):=by rw[cH9 hbx1];rfl
    have HX1:Hid _:=hbx1;have HW1:Hid _:=hrow1;have HB1:Hid _:=hB1;have hszw:w.heap.size<wr.heap.size:=qh hbx;clear hbx hbx1 hrow1 hB1 ht hA HRW;go_wp2_with (at_builtin;refine wpList_append_own_at _ rfl _ _ 66 rfl (w.heap.size+1) 90 i0 _ 5 72 Tryz.underlying66 hi hz0 hz1 hz2 rfl (by decide) v k (qD (xQ o ca cc (l.take k))) rfl ?qc0 ⟨wr.heap.size,0,none⟩ 1 1 [.int .i64 o.kind,.int .i64 t,.slice ca o.content.length cc,.string o.name,.string o.s] rfl ?qc1 ?qc2 ?qc3 ?qc4 ?qc5 ?qc6 ?_)
    case qc0 => exact World.ownsRow.alloc HW1.out _
    case qc1 => rfl
    case qc2 =>
     intro j u hj;have hnew:=heap_alloc_new (wr.setCell ⟨w.heap.size,1,none⟩ (.int .i64 t)) (.cells #[.int .i64 o.kind,.int .i64 t,.slice ca o.content.length cc,.string o.name,.string o.s] 90);rw[World.size_setCell]at hnew
     rw[Addr.add_lit,Nat.zero_add,cH9 hnew]
     simpa using hj
    case qc3 =>
     intro u hu;simp only[List.mem_cons,List.not_mem_nil,or_false]at hu
     rcases hu with rfl|rfl|rfl|rfl|rfl<;>rfl
    case qc4 => unfold maxLen;omega
    case qc5 => omega
    case qc6 => simp;omega
    intro v2 W2 hown hgr _ _;have hbA:=Below.alloc1 (wr.setCell ⟨w.heap.size,1,none⟩ (.int .i64 t)) (.cells #[.int .i64 o.kind,.int .i64 t,.slice ca o.content.length cc,.string o.name,.string o.s] 90)
    have HI2:Hid (qeX w o ca cc l (k+1) v2 W2):=by
     have hB2:Below (w.heap.size+1) ((wr.setCell ⟨w.heap.size,1,none⟩ (.int .i64 t)).alloc (.cells #[.int .i64 o.kind,.int .i64 t,.slice ca o.content.length cc,.string o.name,.string o.s] 90)) W2:=(Below.refl _ _).grown hgr (by simp;omega) (fun z hz=>(World.ownsRow.lt HW1.out z hz).1)
     have hBA:Below w.heap.size w ((wr.setCell ⟨w.heap.size,1,none⟩ (.int .i64 t)).alloc (.cells #[.int .i64 o.kind,.int .i64 t,.slice ca o.content.length cc,.string o.name,.string o.s] 90)):=HB1.out.alloc HB1.out.size _;refine ⟨hBA.trans (hB2.mono (by omega)),⟨t,?_⟩,?_⟩
     · exact (hB2.block _ (by omega)).trans ((hbA.block _ (qh HX1.out)).trans HX1.out)
     · rw[HSN.out];exact hown
    clear hown hgr hbA HX1 HW1 HB1 HSN p0 p1 p2 p3 p4 q0 q1 q2 q3 q4 qf;go_wp2_with fail
    go_roundg (l.length-(k+1))
    case measure => omega
    case rel => exact ⟨k+1,v2,by omega,by go_num,rfl,HI2.out⟩
  · have hlti : ¬ ((k : Int) < (l.length : Int)) := by omega
    have hkk:k=l.length:=by omega
    subst hkk;clear hA;go_wp2_with fail;go_ret;refine ⟨v,rfl,?_,HB.out⟩;have:=HRW.out;rw[List.take_length]at this
    exact QY this (by omega)
end
end Go.Proofs.YtecimajafhoibaaGreatDoor
namespace Go.Proofs.YtecimajafhoibaaGreatDoor
open Go.RowKit
set_option maxRecDepth 100000
abbrev Rep:=Int × Int × ByteArray
def qW (c:Int):Rep:=(c,0,⟨#[]⟩)
def qz (ns:List Nd):List ByteArray→List Opn × Int
 | []=>([],0)
 | s :: r =>
   if (qH s.data.toList).2.2≠0 then ([],(qH s.data.toList).2.2)
   else if Qd ns (qH s.data.toList).2.1≠0 then ([],Qd ns (qH s.data.toList).2.1)
   else if xe ns (qH s.data.toList).2.1=[] then ([],3)
   else if (qz ns r).2≠0 then ([],(qz ns r).2)
   else (Qm (qH s.data.toList).1 (xe ns (qH s.data.toList).2.1)++(qz ns r).1,0)
def Zi (l:List ByteArray)(ns:List Nd):Rep × List Nd :=
 match l with
 | [s]=>if (qC s.data.toList).2≠0 then (qW (qC s.data.toList).2,ns) else ((0,((yA s.data.toList.length (qC s.data.toList).1).length:Int),⟨#[]⟩),yA s.data.toList.length (qC s.data.toList).1)
 | _=>(qW 1,ns)
def Z4 (ns:List Nd):Rep :=
 if (jJ ns 0).2≠0 then qW (jJ ns 0).2
 else if (y9 ns.length (jJ ns 0).1).2≠0 then qW (y9 ns.length (jJ ns 0).1).2
 else (0,(ns.length:Int),(y9 ns.length (jJ ns 0).1).1)
def yb (l:List ByteArray)(ns:List Nd):Rep × List Nd :=
 if 6<l.length then (qW 2,ns)
 else if (qz ns l).2≠0 then (qW (qz ns l).2,ns)
 else if zn ns (qz ns l).1≠0 then (qW (zn ns (qz ns l).1),ns)
 else ((0,((qz ns l).1.length:Int),⟨#[]⟩),zZ ns (qz ns l).1)
structure Ac where
 kind:Int
 lines:List ByteArray
def jq (a:Ac)(ns:List Nd):Rep × List Nd :=
 if a.kind=1 then Zi a.lines ns else if a.kind=2 then yb a.lines ns else if a.kind=3 then (Z4 ns,ns) else (qW 4,ns)
def jp (a:Ac)(ns:List Nd)(n:Nat):Rep × List Nd × Nat :=
 if 100≤n then (qW 7,ns,n) else ((jq a ns).1,(jq a ns).2,n+1)
def newD:List Nd:=[⟨false,⟨#[100,111,99]⟩,[],-1,[]⟩]
theorem K1 (s:ByteArray):QH (z8 s):=by
 intro x hx;unfold z8 at hx
 cases hp:jM s.data.toList with
 | none=>rw[hp]at hx;simp[asS]at hx
 | some l =>
   rw[hp]at hx
   simp only[Option.getD_some]at hx
   have hl:QZ l=true:=by
    unfold jM at hp
    split at hp
    · split at hp
      · cases hp
      · split at hp
        · rename_i h;cases hp;exact h
        · cases hp
    · cases hp
   rw[←qa3]at hl
   simp only[yR,Bool.and_eq_true,List.all_eq_true]at hl
   have h1:=hl.2 x hx;simp only[zY,Bool.and_eq_true,Bool.or_eq_true,decide_eq_true_eq]at h1
   rcases h1.2 with (h|h)|h
   · rw[h];exact nZ9 _
   · rw[h];show 1≤maxLen;unfold maxLen;omega
   · have:=jR h;unfold maxLen;omega
theorem V4 (s:List UInt8):QH (qH s).2.1:=by
 have h0:QH []:=by intro x hx;cases hx
 unfold qH
 split
 · exact h0
 · split
   · exact h0
   · split
     · exact h0
     · split
       · exact h0
       · exact K1 _
theorem qeI {ns:List Nd}{l:List St}:(xe ns l).length≤80:=by
 unfold xe
 split
 · rename_i h
   simp only[Bool.and_eq_true]at h
   have hne:l≠[]:=by
    intro e;have:=h.2;rw[e]at this
    simp[yR]at this
   exact Nat.le_trans (Yr h.1 (qdD h.1 hne)) (Qx h.1)
 · exact nZ9 _
end Go.Proofs.YtecimajafhoibaaGreatDoor
namespace Go.Proofs.YtecimajafhoibaaGreatDoor
open Go.ChangeShapes Go.WideShapes Go.ChangeAt Go.RowKit
set_option maxRecDepth 100000
def Strs (S:Nat→Prop)(w:World)(v:Value)(l:List ByteArray):Prop :=
  ∃ a cap, v = .slice a l.length cap ∧ l.length ≤ cap ∧ cap ≤ maxLen ∧
    (l≠[]→∃ b o,a=some ⟨b,o,none⟩∧S b∧∀ (i:Nat) (x:ByteArray),l[i]?=some x→w.cell? ⟨b,o+i,none⟩=some (.string x))
theorem Strs.carry {S S':Nat→Prop}{w w':World}{v:Value}{l:List ByteArray}(h:Strs S w v l)(hw:∀ b,S b→S' b∧w'.heap[b]?=w.heap[b]?):Strs S' w' v l:=by
 obtain ⟨a,cap,h1,h2,h3,h4⟩:=h;refine ⟨a,cap,h1,h2,h3,fun hne=>?_⟩
 obtain ⟨b,o,ha,hs,hc⟩:=h4 hne;refine ⟨b,o,ha,(hw b hs).1,fun i x hx=>?_⟩
 rw[World.cell?_of_block (a:=⟨b,o+i,none⟩) (hw b hs).2];exact hc i x hx
theorem Strs.bounded {S:Nat→Prop}{w:World}{v:Value}{l:List ByteArray}(h:Strs S w v l):Strs (fun b=>S b∧b<w.heap.size) w v l:=by
 obtain ⟨a,cap,h1,h2,h3,h4⟩:=h;refine ⟨a,cap,h1,h2,h3,fun hne=>?_⟩
 obtain ⟨b,o,ha,hs,hc⟩:=h4 hne;refine ⟨b,o,ha,⟨hs,?_⟩,hc⟩;cases l with
 | nil=>exact absurd rfl hne
 | cons x r=>exact World.block_lt_of_cell? w _ (hc 0 x rfl)
theorem Strs.later {S:Nat→Prop}{w w':World}{v:Value}{l:List ByteArray}(h:Strs S w v l)(hb:Below w.heap.size w w'):Strs S w' v l :=
 h.bounded.carry fun b hb'=>⟨hb'.1,hb.block b hb'.2⟩
theorem Strs.shape {S:Nat→Prop}{w:World}{v:Value}{l:List ByteArray}(h:Strs S w v l):∃ a c,v=.slice a l.length c∧l.length≤c∧c≤maxLen:=by
 obtain ⟨a,cap,h1,h2,h3,_⟩:=h;exact ⟨a,cap,h1,h2,h3⟩
theorem Strs.at {S:Nat→Prop}{w:World}{v:Value}{l:List ByteArray}(h:Strs S w v l){i:Nat}{x:ByteArray}(hx:l[i]?=some x):∃ b o cap,v=.slice (some ⟨b,o,none⟩) l.length cap∧S b∧b<w.heap.size∧w.cell? ⟨b,o+i,none⟩=some (.string x):=by
 obtain ⟨a,cap,h1,h2,h3,h4⟩:=h;have hne:l≠[]:=by intro e;subst e;simp at hx
 obtain ⟨b,o,rfl,hs,hc⟩:=h4 hne;exact ⟨b,o,cap,h1,hs,World.block_lt_of_cell? w _ (hc i x hx),hc i x hx⟩
theorem Strs.nil {S:Nat→Prop}{w:World}:Strs S w (.slice none 0 0) []:=⟨none,0,rfl,nR9 _,nZ9 _,fun h=>absurd rfl h⟩
section
attribute [local go_sem] qe
def xI (acc:List Opn)(p:List Opn × Int):List Opn × Int:=if p.2≠0 then ([],p.2) else (acc++p.1,0)
theorem qd3 (ns:List Nd):∀ l:List ByteArray,(qz ns l).2≠0→(qz ns l).1=[]:=by
 intro l h;cases l with
 | nil=>rfl
 | cons s r =>
   unfold qz at h ⊢
   split
   · rfl
   · split
     · rfl
     · split
       · rfl
       · split
         · rfl
         · rename_i h1 h2 h3 h4
           rw[if_neg h1,if_neg h2,if_neg h3,if_neg h4]at h
           exact absurd rfl h
theorem qcZ (ns:List Nd)(l:List ByteArray):xI [] (qz ns l)=qz ns l:=by
 unfold xI
 split
 · rename_i h
   exact Prod.ext (qd3 ns l h).symm rfl
 · rename_i h
   exact Prod.ext (by simp) (by simpa using (Classical.not_not.1 h).symm)
theorem qbE (a b:List Opn)(p:List Opn × Int):xI a (xI b p)=xI (a++b) p:=by
 unfold xI
 by_cases h:p.2≠0
 · rw[if_pos h,if_pos h,if_pos h]
 · rw[if_neg h,if_neg h,if_neg (by simp),List.append_assoc]
theorem qcI {ns:List Nd}{s:ByteArray}{r:List ByteArray}(h1:(qH s.data.toList).2.2=0)(h2:Qd ns (qH s.data.toList).2.1=0)(h3:xe ns (qH s.data.toList).2.1≠[]):qz ns (s::r)=xI (Qm (qH s.data.toList).1 (xe ns (qH s.data.toList).2.1)) (qz ns r):=by
 rw[qz,if_neg (by simpa using h1),if_neg (by simpa using h2),if_neg h3]
 rfl
structure ChI (w:World) (ns:List Nd) (vd:Value) (ls:List ByteArray) (k:Nat) (v:Value) (wr:World):Prop where
 below:Below w.heap.size w wr
 box:wr.heap[w.heap.size]?=some (.cells #[vd] 30 (0,0))
 rest:∃ (acc:List Opn) (rs:List Orw),wr.ownsRow (w.heap.size+1) 90 5 v acc.length (qD rs)∧rs.length=acc.length ∧
  (∀ (i:Nat) r x,rs[i]?=some r→acc[i]?=some x→Js (fun b=>w.heap.size+1≤b∧b<wr.heap.size∧v.ownBlock≠some b) wr 2501 r x)∧acc.length≤80*k∧qz ns ls=xI acc (qz ns (ls.drop k))
theorem qdT {T:Nat→Prop}{w:World}{n:Nat}{o:Opn}{ca:Option Addr}{cc:Nat}(l:List Int)(hT:qa T w n (.slice ca o.content.length cc) o.content):∀ (i:Nat) r x,(xQ o ca cc l)[i]?=some r→(Qm o l)[i]?=some x→Js T w n r x:=by
 intro i r x hr hx;unfold xQ at hr
 unfold Qm at hx
 rw[List.getElem?_map]at hr hx
 cases hl:l[i]? with
 | none=>rw[hl]at hr;simp at hr
 | some t =>
   rw[hl]at hr hx
   simp only[Option.map_some,Option.some.injEq]at hr hx
   subst hr hx;exact ⟨rfl,rfl,rfl,rfl,ca,cc,rfl,hT⟩
theorem Js.carry {T T':Nat→Prop}{w w':World}{n:Nat}{r:Orw}{x:Opn}(h:Js T w n r x)(hw:∀ b,T b→T' b∧w'.heap[b]?=w.heap[b]?):Js T' w' n r x:=by
 obtain ⟨e1,e2,e3,e4,ca,cc,e5,hT⟩:=h;exact ⟨e1,e2,e3,e4,ca,cc,e5,qa.carry hw n hT⟩
set_option maxHeartbeats 2000000 in
theorem Kz (S:Nat→Prop)(vd vl:Value)(ns:List Nd)(ls:List ByteArray)(w:World)(hD:Q8 S w vd ns)(hL:Strs S w vl ls)(hE:jg w)(h6:ls.length≤6)(hT:∀ s∈ls,s.size≤maxLen) :
 Calls Tryz.prog 23 #[.agg #[vd],vl] w fun e w'=>∃ v,e=.returned (.tuple #[v,.int .i64 (qz ns ls).2])∧Ops (fun b=>w.heap.size≤b) w' 2501 v (qz ns ls).1∧Below w.heap.size w w':=by
 obtain ⟨la,lc,rfl,hll,hlc⟩:=hL.shape;obtain ⟨na,nc,rfl,hnl,hnc⟩:=hD.nodes.shape;obtain ⟨i0,hi,hz0,hz1,hz2⟩:=info_parts opInfo;have HD:Hid _:=hD;have HL:Hid (Strs S w (.slice la ls.length lc) ls):=hL;have HT:Hid _:=hT;have HEV:Hid (∀ W,Below w.heap.size w W→jg W):=fun W hW=>hE.later hW
 have HI0:Hid (ChI w ns (.slice na ns.length nc) ls 0 (.slice none 0 0) (w.alloc (.cells #[.slice na ns.length nc] 30))):=⟨Below.alloc1 w _,heap_alloc_new w _,[],[],World.ownsRow_nil _ _ _ _,rfl,by intro i r x hr;simp at hr,nR9 _,by rw[List.drop_zero,qcZ]⟩
 unfold maxLen at hlc hnc
 clear hD hL hE hT;have noOps:∀ W:World,Ops (fun b=>w.heap.size≤b) W 2501 (.slice none 0 0) []:=fun W=>⟨none,0,rfl,nR9 _,nZ9 _,fun h=>absurd rfl h⟩
 have HNO:Hid _:=noOps;clear noOps
 go_enter Tryz.func23,Tryz.ntmps23
 go_wp2_with fail
 go_loopg [15,6] ls.length (fun g i u wr=>∃ (k:Nat) (v:Value),k+g=ls.length∧i=.int .i64 k∧v=u∧ChI w ns (.slice na ns.length nc) ls k v wr)
 case atStart => exact ⟨0,_,by omega,rfl,rfl,HI0.out⟩
 case round =>
  clear HI0;obtain ⟨k,v,hk,rfl,hvu,hA⟩:=hrel;subst hvu;have HB:Hid _:=hA.below;have HBX:Hid _:=hA.box;obtain ⟨acc,rs,hrow,hrl,hraw,hal,hst⟩:=hA.rest;have HRW:Hid _:=hrow;have HRR:Hid _:=hraw;have HST:Hid _:=hst;clear hrow hraw hst hA
  by_cases hlt:k<ls.length
  · have hlti : (k : Int) < (ls.length : Int) := by omega
    obtain ⟨s,hs⟩:∃ s,ls[k]?=some s:=⟨ls[k],by simp[hlt]⟩
    have hdr:ls.drop k=s::ls.drop (k+1):=by
     rw[List.drop_eq_getElem_cons hlt];congr 1;simpa[hlt] using hs
    rw[hdr]at HST
    obtain ⟨b1,o1,c1,hv1,_,_,e1⟩:=(Strs.later HL.out HB.out).at hs
    injection hv1 with hv1 hv1l hv1c
    subst hv1 hv1c;clear hv1l;have hsz:=HT.out s (List.mem_of_getElem? hs)
    have HLN:Hid (Calls Tryz.prog 35 #[.string s] wr fun e w'=>Qk s.data.toList wr e w'):=by
     have:=qde s.data.toList wr (HEV.out wr HB.out) (by rw[yS];unfold maxLen at hsz;omega)
     rw[Ze]at this
     exact this
    clear hs hdr hsz;go_wp2_with fail;refine Calls.mono HLN.out ?_;rintro e w1 ⟨a1,cc1,vs1,rfl,htg,hT1,hS1,hb1⟩;obtain ⟨sa,sc,rfl,_,_⟩:=hS1.shape;have HNM:Hid _:=V4 s.data.toList;obtain ⟨Q,hQ⟩:∃ Q,qH s.data.toList=Q:=⟨_,rfl⟩
    have HCC:Hid (Q.2.2=0→Qd ns Q.2.1=0→xe ns Q.2.1≠[]→qz ns (s::ls.drop (k+1))=xI (Qm Q.1 (xe ns Q.2.1)) (qz ns (ls.drop (k+1)))):=by
     rw[←hQ];exact qcI
    have HC1:Hid (Q.2.2≠0→qz ns ls=([],Q.2.2)):=by
     intro h;rw[HST.out,qz,hQ,if_pos h];unfold xI;rw[if_pos h]
    have HC2:Hid (Q.2.2=0→Qd ns Q.2.1≠0→qz ns ls=([],Qd ns Q.2.1)):=by
     intro h h2;rw[HST.out,qz,hQ,if_neg (by simpa using h),if_pos h2];unfold xI;rw[if_pos h2]
    have HC3:Hid (Q.2.2=0→Qd ns Q.2.1=0→xe ns Q.2.1=[]→qz ns ls=([],3)):=by
     intro h h2 h3;rw[HST.out,qz,hQ,if_neg (by simpa using h),if_neg (by simpa using h2),if_pos h3];unfold xI;rw[if_pos (by decide)]
    rw[hQ]at htg hT1 hS1 HNM ⊢
    clear hQ HLN;obtain ⟨o,st,le⟩:=Q;simp only at htg hT1 hS1 HNM HCC HC1 HC2 HC3 ⊢
    have hb2:=Below.alloc1 w1 (.cells #[.int .i64 o.kind,.int .i64 0,.slice a1 o.content.length cc1,.string o.name,.string o.s] 90);have hb12:=hb1.trans (hb2.mono hb1.size);have HO2:Hid _:=heap_alloc_new w1 (.cells #[.int .i64 o.kind,.int .i64 0,.slice a1 o.content.length cc1,.string o.name,.string o.s] 90);have HT1:Hid (qa (fun b=>wr.heap.size≤b∧b<w1.heap.size) (w1.alloc (.cells #[.int .i64 o.kind,.int .i64 0,.slice a1 o.content.length cc1,.string o.name,.string o.s] 90)) 2501 (.slice a1 o.content.length cc1) o.content):=qa.carry (fun b hb=>⟨hb,hb2.block b hb.2⟩) _ (qa.bounded _ hT1)
    have HT2:Hid True:=trivial;have HOV:Hid (∀ z,v.ownBlock=some z→w.heap.size+1≤z∧z<wr.heap.size):=fun z hz=>World.ownsRow.lt HRW.out z hz
    have HS2:Hid _:=zU.later hS1 hb2;have hB2:=HB.out.trans (hb12.mono HB.out.size);have HBX2:Hid _:=(hb12.block _ (qh HBX.out)).trans HBX.out;have HRW2:Hid _:=qn HRW.out hb12;have x2:(w1.alloc (.cells #[.int .i64 o.kind,.int .i64 0,.slice a1 o.content.length cc1,.string o.name,.string o.s] 90)).cell? ⟨w.heap.size,0,none⟩=some (.slice na ns.length nc):=by rw[cH9 HBX2.out];rfl
    have hs12:wr.heap.size≤(w1.alloc (.cells #[.int .i64 o.kind,.int .i64 0,.slice a1 o.content.length cc1,.string o.name,.string o.s] 90)).heap.size:=hb12.size;have HB12:Hid _:=hb12;have hw1:wr.heap.size≤w1.heap.size:=hb1.size;have hw12:w1.heap.size≤(w1.alloc (.cells #[.int .i64 o.kind,.int .i64 0,.slice a1 o.content.length cc1,.string o.name,.string o.s] 90)).heap.size:=hb2.size;have hwr0:w.heap.size<wr.heap.size:=qh HBX.out;clear hT1 hS1 hb1 hb2 HBX HRW e1 hb12
    by_cases hle:le=0
    case neg =>
     have hleb:(le==0)=false:=by simpa using hle
     have HE:Hid _:=HC1.out hle;clear HC1 HC2 HC3 HCC hle;go_wp2_with fail
     go_ret2
     exact ⟨.slice none 0 0,by rw[HE.out];rfl,by rw[HE.out];exact HNO.out _,hB2⟩
    case pos =>
     subst hle;have HSL:Hid _:=qak (fun b=>b<(w1.alloc (.cells #[.int .i64 o.kind,.int .i64 0,.slice a1 o.content.length cc1,.string o.name,.string o.s] 90)).heap.size) _ _ ns st _ ⟨(HD.out.later hB2).nodes.carry fun b hb=>⟨(HD.out.later hB2).here b hb,rfl⟩,fun b hb=>hb,HD.out.few,HD.out.short⟩ ((zU.bounded HS2.out).carry fun b hb=>⟨hb.2,rfl⟩) HNM.out
     go_wp2_with fail
     generalize w1.alloc (.cells #[.int .i64 o.kind,.int .i64 0,.slice a1 o.content.length cc1,.string o.name,.string o.s] 90)=W2 at *
     refine Calls.mono HSL.out ?_;rintro e w3 ⟨v3,rfl,hI3,hb3⟩;obtain ⟨ia,ic,rfl,_,hic⟩:=hI3.shape;have HI3:Hid _:=hI3;have hB3:=hB2.trans (hb3.mono hB2.size);have HO3:Hid _:=(hb3.block _ (qh HO2.out)).trans HO2.out;have hsl:(xe ns st).length≤80:=qeI;obtain ⟨E,hE⟩:∃ E,Qd ns st=E:=⟨_,rfl⟩;obtain ⟨D,hD⟩:∃ D,xe ns st=D:=⟨_,rfl⟩;rw[hE]at HCC HC2 HC3 ⊢
     rw[hD]at HCC HC3 HI3 hsl ⊢
     clear hE hD HSL hI3
     by_cases hE0:E=0
     case neg =>
      have hEb:(E==0)=false:=by simpa using hE0
      have HE:Hid _:=HC2.out (by trivial) hE0
      clear HC1 HC2 HC3 HCC hE0;go_wp2_with fail
      go_ret2
      exact ⟨.slice none 0 0,by rw[HE.out];rfl,by rw[HE.out];exact HNO.out _,hB3⟩
     case pos =>
      subst hE0
      by_cases hD0:D=[]
      · have HE : Hid _ := HC3.out (by trivial) (by trivial) hD0
        subst hD0;clear HC1 HC2 HC3 HCC;go_wp2_with fail
        go_ret2
        exact ⟨.slice none 0 0,by rw[HE.out];rfl,by rw[HE.out];exact HNO.out _,hB3⟩
      · have hDl : 0 < D.length := List.length_pos_iff.2 hD0;have hDb:((D.length:Int)==0)=false:=beq_eq_false_iff_ne.2 (by omega)
        have HE:Hid _:=HCC.out (by trivial) (by trivial) hD0
        have z0:w3.cell? ⟨w1.heap.size,0,none⟩=some (.int .i64 o.kind):=by rw[cH9 HO3.out];rfl
        have z1:w3.cell? ⟨w1.heap.size,1,none⟩=some (.int .i64 0):=by rw[cH9 HO3.out];rfl
        have z2:w3.cell? ⟨w1.heap.size,2,none⟩=some (.slice a1 o.content.length cc1):=by rw[cH9 HO3.out];rfl
        have z3:w3.cell? ⟨w1.heap.size,3,none⟩=some (.string o.name):=by rw[cH9 HO3.out];rfl
        have z4:w3.cell? ⟨w1.heap.size,4,none⟩=some (.string o.s):=by rw[cH9 HO3.out];rfl
        have HAM:Hid (Calls Tryz.prog 37 #[.agg #[.int .i64 o.kind,.int .i64 0,.slice a1 o.content.length cc1,.string o.name,.string o.s],.slice ia D.length ic] w3 fun e w'=>∃ v,e=.returned v∧w'.ownsRow w3.heap.size 90 5 v D.length (qD (xQ o a1 cc1 D))∧Below w3.heap.size w3 w'):=by
         have:=qbg _ o a1 cc1 _ D w3 HI3.out (by omega)
         rw[htg]at this
         exact this
        clear HC1 HC2 HC3 HCC;go_wp2_with fail;refine Calls.mono HAM.out ?_;rintro e w4 ⟨v4,rfl,hw4,hb4⟩;have hB4:=hB3.trans (hb4.mono hB3.size)
        obtain ⟨g4,cap4,rfl,hg4a,hg4b⟩:∃ g cap,v4=.slice (some ⟨g,0,none⟩) D.length cap∧w3.heap.size≤g∧g<w4.heap.size:=by
         rcases hw4.2 with ⟨_,h0⟩|⟨g,cap,cur,rfl,hg,hh,hc,hm,hs,ht⟩
         · omega
         · exact ⟨g,cap,rfl,hg,qh hh⟩
        have hb24:=hb3.trans (hb4.mono hb3.size);have HRW4:Hid _:=qn HRW2.out hb24;have HBX4:Hid _:=(hb24.block _ (qh HBX2.out)).trans HBX2.out;have hcl:=zR (xQ o a1 cc1 D);have hal2:(xQ o a1 cc1 D).length=D.length:=List.length_map _
        have HCE:Hid (∀ j u,(qD (xQ o a1 cc1 D))[j]?=some u→w4.cell? ((⟨g4,0,none⟩:Addr).add j)=some u):=by
         intro j u hj;have hjl:=qd hj;rw[Addr.add_lit,Nat.zero_add,World.ownsRow.cellAt hw4 j (by omega)]
         exact hj
        have H1C:Hid (∀ u∈qD (xQ o a1 cc1 D),u.oneCell'=true):=by
         intro u hu;obtain ⟨r,hr,hu⟩:=List.mem_flatMap.1 hu;exact YN r u hu
        have HRAW:Hid (∀ (i:Nat) r x,(rs++xQ o a1 cc1 D)[i]?=some r→(acc++Qm o D)[i]?=some x→Js (fun b=>(w.heap.size+1≤b∧b<wr.heap.size∧v.ownBlock≠some b)∨(wr.heap.size≤b∧b<w1.heap.size)) w4 2501 r x):=by
         have hbr4:Below wr.heap.size wr w4:=HB12.out.trans (hb24.mono hs12);intro i r x hr hx
         by_cases hil:i<rs.length
         · rw[List.getElem?_append_left hil]at hr
           rw[List.getElem?_append_left (by omega)]at hx
           exact (HRR.out i r x hr hx).carry fun b hb=>⟨Or.inl hb,hbr4.block b hb.2.1⟩
         · rw[List.getElem?_append_right (by omega)]at hr
           rw[List.getElem?_append_right (by omega),←hrl]at hx
           refine (qdT (T:=fun b=>wr.heap.size≤b∧b<w1.heap.size) D ?_ _ r x hr hx).carry (fun b hb=>⟨Or.inr hb,rfl⟩)
           exact qa.carry (fun b hb=>⟨hb,hb24.block b (by have:=hb.2;omega)⟩) _ HT1.out
        have hszA:w.heap.size+1≤w4.heap.size:=by have:=qh HBX4.out;omega
        have hov:∀ z,v.ownBlock=some z→w.heap.size+1≤z∧z<wr.heap.size:=fun z hz=>HOV.out z hz
        have HOV4:Hid _:=hov;have hsz14:w1.heap.size≤w4.heap.size:=Nat.le_trans hw12 hb24.size;have hszr4:wr.heap.size≤w4.heap.size:=by omega
        clear hw4 hb4 hb3 hb24 HRW2 HBX2 HO2 HO3 HT2 HS2 HI3 HAM z0 z1 z2 z3 z4 hov HNM x2;go_wp2_with (at_builtin;refine wpList_append_own_at _ rfl _ _ 66 rfl (w.heap.size+1) 90 i0 _ 5 72 Tryz.underlying66 hi hz0 hz1 hz2 rfl (by decide) v acc.length (qD rs) rfl ?qc0 ⟨g4,0,none⟩ D.length cap4 (qD (xQ o a1 cc1 D)) rfl ?qc1 ?qc2 ?qc3 ?qc4 ?qc5 ?qc6 ?_)
        case qc0 => exact HRW4.out
        case qc1 => omega
        case qc2 => exact HCE.out
        case qc3 => exact H1C.out
        case qc4 => unfold maxLen;omega
        case qc5 => omega
        case qc6 => exact hszA
        intro v5 W5 hown hgr _ hob
        have HI5:Hid (ChI w ns (.slice na ns.length nc) ls (k+1) v5 W5):=by
         have hB5:Below (w.heap.size+1) w4 W5:=(Below.refl _ _).grown hgr hszA (fun z hz=>(HOV4.out z hz).1)
         refine ⟨hB4.trans (hB5.mono (by omega)),(hB5.block _ (by omega)).trans HBX4.out,acc++Qm o D,rs++xQ o a1 cc1 D,?_,?_,?_,?_,?_⟩
         · have : qD (rs ++ xQ o a1 cc1 D) = qD rs ++ qD (xQ o a1 cc1 D) := List.flatMap_append;rw[this,List.length_append,show (Qm o D).length=D.length from List.length_map _]
           exact hown
         · rw[List.length_append,List.length_append,hrl,hal2,show (Qm o D).length=D.length from List.length_map _]
         · intro i r x hr hx;refine (HRAW.out i r x hr hx).carry fun b hb=>?_
           have hbl:b<w4.heap.size:=by rcases hb with hb|hb<;>omega
           have hne:v.ownBlock≠some b:=by
            rcases hb with hb|hb
            · exact hb.2.2
            · intro he;have:=(HOV4.out b he).2;omega
           refine ⟨⟨by rcases hb with hb|hb;exact hb.1;have:=hB2.size;omega,Nat.lt_of_lt_of_le hbl hgr.size,?_⟩,hgr.block b hbl (fun e=>hne e.symm)⟩
           rcases hob with h|h
           · rw[h];exact hne
           · rw[h];intro e;injection e with e;omega
         · rw[List.length_append,show (Qm o D).length=D.length from List.length_map _];omega
         · rw[HST.out,HE.out,qbE]
        clear hown hgr hob HRAW HCE H1C HRW4 HBX4 HE HST HOV4;go_wp2_with fail
        go_roundg (ls.length-(k+1))
        case measure => omega
        case rel => exact ⟨k+1,v5,by omega,by go_num,rfl,HI5.out⟩
  · have hlti : ¬ ((k : Int) < (ls.length : Int)) := by omega
    have hkk:k=ls.length:=by omega
    subst hkk
    have HE:Hid (qz ns ls=(acc,0)):=by
     show _=_
     rw[HST.out,List.drop_length];unfold xI qz;simp
    go_wp2_with fail
    go_ret2
    refine ⟨v,by rw[HE.out];rfl,?_,HB.out⟩
    rw[HE.out];obtain ⟨a',c',h1,h2,h3,h4⟩:=K7 HRW.out hrl HRR.out;refine ⟨a',c',h1,h2,h3,fun hne=>?_⟩
    obtain ⟨b',o',q1,q2,q3⟩:=h4 hne;refine ⟨b',o',q1,?_,fun i x hx=>?_⟩
    · have := (World.ownsRow.lt HRW.out b' q2).1;omega
    · obtain ⟨ca', cc', d0, d1, d2, d3, d4, dT⟩ := q3 i x hx;exact ⟨ca',cc',d0,d1,d2,d3,d4,qa.carry (fun b hb=>⟨by have:=hb.1;omega,rfl⟩) _ dT⟩
end
section
attribute [local go_sem] qe
structure Sto (S:Nat→Prop) (w:World) (sb:Nat) (ns:List Nd) (n:Nat):Prop where
 here:∀ b,S b→b<w.heap.size∧b≠sb
 good:qp ns=true
 box:∃ a c,w.heap[sb]?=some (.cells #[.slice a ns.length c,.int .i64 (n:Int)] 49 (0,0))∧qu S w (.slice a ns.length c) ns∧c≤maxLen
theorem Zu {ns:List Nd}(hg:qp ns=true):(∀ x∈ns,x.attrs.length≤4398046511104)∧xw ns:=by
 refine ⟨fun x hx=>Nat.le_trans ((xF hg).2 x hx).2 (by omega),fun x hx=>⟨Nat.le_trans (YV hg x hx) (by unfold maxLen;omega),fun y hy=>?_⟩⟩
 obtain ⟨n,hn⟩:=List.mem_iff_getElem?.1 hx;obtain ⟨d,T,u,fs,hz⟩:=Yv hg (qd hn);obtain ⟨x',hx',e1,_,e3⟩:=hz.get;rw[hn]at hx'
 obtain rfl:=Option.some.inj hx';rw[e3]at hy
 have hr:=hz.right;cases ht:u.text with
 | true =>
   unfold qw at hr
   rw[ht]at hr
   simp at hr
   rw[hr.1.2]at hy
   cases hy
 | false =>
   have hA:=(jH hr ht).2;have key:=(Zc hA).2 y hy;exact ⟨Nat.le_trans (jR key.1) (by unfold maxLen;omega),Nat.le_trans (ZG key.2) (by unfold maxLen;omega)⟩
theorem Sto.doc {S:Nat→Prop}{w:World}{sb n:Nat}{ns:List Nd}(h:Sto S w sb ns n){a:Option Addr}{c:Nat}(hN:qu S w (.slice a ns.length c) ns):Q8 S w (.slice a ns.length c) ns :=
 ⟨hN,fun b hb=>(h.here b hb).1,(Zu h.good).1,(Zu h.good).2⟩
theorem Sto.keep {S:Nat→Prop}{w w':World}{sb n:Nat}{ns:List Nd}(h:Sto S w sb ns n)(hs:w.heap.size≤w'.heap.size)(hb:∀ b,S b∨b=sb→w'.heap[b]?=w.heap[b]?):Sto S w' sb ns n:=by
 obtain ⟨a,c,h1,h2,h3⟩:=h.box;exact ⟨fun b hb=>⟨Nat.lt_of_lt_of_le (h.here b hb).1 hs,(h.here b hb).2⟩,h.good,a,c,(hb sb (Or.inr rfl)).trans h1,h2.carry fun b hb'=>⟨hb',hb b (Or.inl hb')⟩,h3⟩
theorem Sto.later {S:Nat→Prop}{w w':World}{sb n:Nat}{ns:List Nd}(h:Sto S w sb ns n)(hb:Below w.heap.size w w'):Sto S w' sb ns n:=by
 obtain ⟨a,c,h1,_⟩:=h.box;refine h.keep hb.size fun b hb'=>hb.block b ?_
 rcases hb' with hb'|rfl
 · exact (h.here b hb').1
 · exact qh h1
structure DcI (w:World) (v:Value) (ns:List Nd) (i:Nat) (ms:List Rw) (wr:World):Prop where
 below:Below w.heap.size w wr
 res:wr.heap[w.heap.size]?=some (.cells #[.slice none 0 0] 30 (0,0))
 len:ms.length=ns.length
 row:wr.ownsRow (w.heap.size+1) 42 5 v ns.length (rawCells ms)
 each:∀ (j:Nat) r x,ms[j]?=some r→ns[j]?=some x→(j<i→xf (fun b=>w.heap.size+1≤b∧b<wr.heap.size∧v.ownBlock≠some b) wr r x)∧(i≤j→xf (fun b=>b<w.heap.size) wr r x)
theorem Xm {B:Nat}{T:Nat→Prop}{w:World}{v:Value}{ns:List Nd}{ms:List Rw}(h:w.ownsRow B 42 5 v ns.length (rawCells ms))(hl:ms.length=ns.length)(hr:∀ (j:Nat) r x,ms[j]?=some r→ns[j]?=some x→xf T w r x)(hT:∀ b,T b→B≤b):qu (fun b=>B≤b) w v ns:=by
 have h0:=h
 rcases h.2 with ⟨rfl,hz⟩|⟨g,cap,cur,rfl,hB,hg,hc,hm,hs,ht⟩
 · have : ns = [] := List.eq_nil_of_length_eq_zero hz;subst this;exact ⟨none,0,rfl,nR9 _,nZ9 _,fun hne=>absurd rfl hne⟩
 · refine ⟨_, cap, rfl, hc, hm, fun _ => ⟨g, 0, rfl, hB, fun i x hx => ?_⟩⟩
   have hi:=qd hx;obtain ⟨r,hri⟩:∃ r,ms[i]?=some r:=⟨ms[i]'(by omega),List.getElem?_eq_getElem (by omega)⟩
   obtain ⟨e1,e2,e3,hA,hK⟩:=hr i r x hri hx;obtain ⟨g0,g1,g2,g3,g4⟩:=za ms i r hri
   have cell:∀ c,c<5→w.cell? ⟨g,0+i*5+c,none⟩=(rawCells ms)[i*5+c]?:=fun c hc=>by
    rw[Nat.zero_add];exact World.ownsRow.cellAt h0 (i*5+c) (by omega)
   refine ⟨r.va,r.vk,?_,?_,?_,?_,?_,hA.carry fun b hb=>⟨hT b hb,rfl⟩,hK.carry fun b hb=>⟨hT b hb,rfl⟩⟩
   · rw[←e1,←g0];exact cell 0 (by omega)
   · rw[←e2,←g1];exact cell 1 (by omega)
   · rw[←g2];exact cell 2 (by omega)
   · rw[←e3,←g3];exact cell 3 (by omega)
   · rw[←g4];exact cell 4 (by omega)
theorem yE.attrsIn {B:Nat}{w:World}{v:Value}{l:List (ByteArray × ByteArray)}(h:yE B w v l):qk (fun b=>B≤b∧b<w.heap.size) w v l:=by
 rcases id h.2 with ⟨hv,h0⟩|⟨g,cap,cur,hv,hB,hh,hc,hm,_⟩
 · have : l = [] := List.eq_nil_of_length_eq_zero h0;subst this;exact ⟨none,0,hv,nR9 _,nZ9 _,fun hne=>absurd rfl hne⟩
 · have hrow := h;unfold yE at hrow
   subst hv;refine ⟨_,cap,rfl,hc,hm,fun _=>⟨g,0,rfl,⟨hB,qh hh⟩,fun i x hx=>?_⟩⟩
   have hi:=qd hx;obtain ⟨g0,g1⟩:=yf l i x hx;exact ⟨by rw[Nat.zero_add,World.ownsRow.cellAt hrow (i*2) (by omega),g0],by rw[Nat.zero_add,World.ownsRow.cellAt hrow (i*2+1) (by omega),g1]⟩
theorem DcI.step {w:World}{g cap:Nat}{ns:List Nd}{i:Nat}{ms:List Rw}{W Wa Wc:World}{va vk:Value}{r:Rw}{x:Nd}(h:DcI w (.slice (some ⟨g,0,none⟩) ns.length cap) ns i ms W)(hr:ms[i]?=some r)(hx:ns[i]?=some x)
 (hA:yE W.heap.size Wa va x.attrs) (ha:Below W.heap.size W Wa) (hK:qJ Wa.heap.size Wc vk x.kids) (hc:Below Wa.heap.size (Wa.setCell ⟨g,i*5+2,none⟩ va) Wc) (he:r.text=x.text∧r.s=x.s∧r.par=x.parent) :
 DcI w (.slice (some ⟨g,0,none⟩) ns.length cap) ns (i+1) (ms.set i { r with va:=va,vk:=vk }) (Wc.setCell ⟨g,i*5+4,none⟩ vk):=by
 obtain ⟨hgB,hgl⟩:=h.row.lt g rfl;have hwl:=qh h.res;have hsa:=ha.size;have hsc:=hc.size;have hss:(Wa.setCell ⟨g,i*5+2,none⟩ va).heap.size=Wa.heap.size:=by simp
 have hsd:(Wc.setCell ⟨g,i*5+4,none⟩ vk).heap.size=Wc.heap.size:=by simp
 have him:i<ms.length:=qd hr
 have old:∀ b,b<W.heap.size→b≠g→(Wc.setCell ⟨g,i*5+4,none⟩ vk).heap[b]?=W.heap[b]?:=fun b hb hne=>by
  rw[qb hne,hc.block b (by omega),qb hne,ha.block b hb]
 have rowa:Wa.ownsRow (w.heap.size+1) 42 5 (.slice (some ⟨g,0,none⟩) ns.length cap) ns.length (rawCells ms):=qn h.row ha;have rowb:=(rowa.stored (i*5+2) va).1
 have rowc:Wc.ownsRow (w.heap.size+1) 42 5 (.slice (some ⟨g,0,none⟩) ns.length cap) ns.length ((rawCells ms).set (i*5+2) va):=qj rowb (fun b hb=>by
  have:g=b:=by injection hb
  subst this;exact hc.block g (by omega))
 have rowd:=(rowc.stored (i*5+4) vk).1
 have ecell:((rawCells ms).set (i*5+2) va).set (i*5+4) vk=rawCells (ms.set i { r with va:=va,vk:=vk }):=by
  have e1:=xB ms i r va hr;have hr2:(ms.set i { r with va:=va })[i]?=some { r with va:=va }:=List.getElem?_set_self him
  have e2:=yK (ms.set i { r with va:=va }) i { r with va:=va } vk hr2
  rw[←e1,←e2,List.set_set]
 rw[ecell]at rowd
 have hBd:Below w.heap.size w (Wc.setCell ⟨g,i*5+4,none⟩ vk):=by
  have s1:Below w.heap.size w Wa:=h.below.trans (ha.mono h.below.size);have s2:=s1.setCell (p:=⟨g,i*5+2,none⟩) (by show w.heap.size≤g;omega) va
  have s3:=s2.trans (hc.mono (Nat.le_trans h.below.size hsa));exact s3.setCell (p:=⟨g,i*5+4,none⟩) (by show w.heap.size≤g;omega) vk
 have hob:∀ b,(Value.slice (some ⟨g,0,none⟩) ns.length cap).ownBlock≠some b→b≠g:=fun b hb e=>hb (by rw[e];rfl)
 have hbo:∀ b,b≠g→(Value.slice (some ⟨g,0,none⟩) ns.length cap).ownBlock≠some b:=fun b hb e=>hb (by injection e with e;exact e.symm)
 refine ⟨hBd,(old _ hwl (by omega)).trans h.res,by rw[List.length_set];exact h.len,rowd,fun j q y hq hy=>?_⟩
 by_cases hji:j=i
 · subst hji;rw[List.getElem?_set_self him]at hq
   obtain rfl:=Option.some.inj hq;rw[hx]at hy
   obtain rfl:=Option.some.inj hy;refine ⟨fun _=>⟨he.1,he.2.1,he.2.2,?_,?_⟩,fun hh=>by omega⟩
   · refine (yE.attrsIn hA).carry fun b hb => ?_
     have hne:b≠g:=by omega
     exact ⟨⟨by omega,by omega,hbo b hne⟩,by rw[qb hne,hc.block b hb.2,qb hne]⟩
   · refine (qJ.ints hK).bounded.carry fun b hb => ?_
     have hne:b≠g:=by omega
     exact ⟨⟨by omega,by omega,hbo b hne⟩,qb hne⟩
 · rw[List.getElem?_set_ne (fun e => hji e.symm)]at hq
   obtain ⟨f1,f2⟩:=h.each j q y hq hy;refine ⟨fun hj=>(f1 (by omega)).carry fun b hb=>⟨⟨hb.1,by omega,hb.2.2⟩,old b hb.2.1 (hob b hb.2.2)⟩,fun hj=>(f2 (by omega)).carry fun b hb=>⟨hb,old b (by omega) (by omega)⟩⟩
structure zO (w:World) (ns:List Nd) (g cap:Nat) (ms:List Rw) (w':World):Prop where
 len:ms.length=ns.length
 row:w'.ownsRow (w.heap.size+1) 42 5 (.slice (some ⟨g,0,none⟩) ns.length cap) ns.length (rawCells ms)
 each:∀ (j:Nat) r x,ms[j]?=some r→ns[j]?=some x→xf (fun b=>w.heap.size+1≤b∧b<w'.heap.size∧b≠g) w' r x
set_option linter.unusedSimpArgs false in
set_option maxHeartbeats 2000000 in
theorem YM (S:Nat→Prop)(sb n:Nat)(ns:List Nd)(w:World)(h:Sto S w sb ns n) :
 Calls Tryz.prog 7 #[.pointer (some ⟨sb,0,none⟩)] w fun e w'=>∃ g cap,e=.returned (.agg #[.slice (some ⟨g,0,none⟩) ns.length cap])∧(∃ ms,zO w ns g cap ms w')∧Below w.heap.size w w':=by
 obtain ⟨a,c,hbx,hN,hcm⟩:=h.box
 have hne:ns≠[]:=by
  intro e;have hg:=h.good;rw[e]at hg
  simp only[qp,Bool.and_eq_true]at hg
  have:=x9 hg.1.2;simp at this
 have hbd:=xF h.good;have hN0:qu (fun b=>b<w.heap.size) w (.slice a ns.length c) ns:=hN.carry fun b hb=>⟨(h.here b hb).1,rfl⟩
 have hb0:=Below.alloc1 w (.cells #[.slice none 0 0] 30);have HR0:Hid _:=heap_alloc_new w (.cells #[.slice none 0 0] 30);have hsb:=qh hbx;have HX0:Hid _:=(hb0.block sb hsb).trans hbx;obtain ⟨a0,cap0,ms0,hv,ha0,hml,hraw,hcells,hone⟩:=(qu.later hN0 hb0).raw
 injection hv with hv1 _ hv2
 subst hv1 hv2;have hnl:0<ns.length:=List.length_pos_iff.2 hne;have hbl:=hbd.1;have HC:Hid _:=qaI (.slice a ns.length c) a ns.length c (rawCells ms0) _ rfl ha0 (by rw[ye,hml]) (by omega) hcells hone
 have HRW:Hid _:=hraw;have HBN:Hid _:=hbd;have x0:(w.alloc (.cells #[.slice none 0 0] 30)).cell? ⟨sb,0,none⟩=some (.slice a ns.length c):=by rw[cH9 HX0.out];rfl
 clear h hraw hcells hone ha0 hN hN0 hbd
 go_enter Tryz.func7,Tryz.ntmps7
 go_wp2_with fail
 generalize w.alloc (.cells #[.slice none 0 0] 30)=W0 at *
 refine (Calls.mono HC.out ?_);rintro e w1 ⟨v1,rfl,hown,hb1⟩;obtain ⟨g,cap,rfl,hcl,hcm1⟩:=yy hown hnl;have hsz0:w.heap.size+1≤W0.heap.size:=qh HR0.out
 have HI0:Hid (DcI w (.slice (some ⟨g,0,none⟩) ns.length cap) ns 0 ms0 w1):=by
  refine ⟨hb0.trans (hb1.mono hb0.size),(hb1.block _ (qh HR0.out)).trans HR0.out,hml,QY hown hsz0,fun j r x hr hx=>⟨fun hj=>by omega,fun _=>(HRW.out j r x hr hx).carry fun b hb=>⟨hb,hb1.block b (by omega)⟩⟩⟩
 unfold maxLen at hcm1
 clear hown HC HRW hb1 hb0 x0;go_wp2_with fail
 go_loopg [16] ns.length (fun gh vi wr=>∃ (i:Nat) (ms:List Rw),i+gh=ns.length∧vi=.int .i64 (i:Int)∧DcI w (.slice (some ⟨g,0,none⟩) ns.length cap) ns i ms wr)
 case atStart => exact ⟨0,ms0,by omega,rfl,HI0.out⟩
 case round =>
  clear HI0;obtain ⟨i,ms,hig,rfl,hN⟩:=hrel;have HN:Hid _:=hN;clear hN
  by_cases hlt:i<ns.length
  · have hlti : (i : Int) < (ns.length : Int) := by omega
    obtain ⟨x,hx⟩:∃ x,ns[i]?=some x:=⟨ns[i],by simp[hlt]⟩
    obtain ⟨r,hr⟩:∃ r,ms[i]?=some r:=⟨ms[i]'(by rw[HN.out.len];exact hlt),by simp⟩
    obtain ⟨hbk,hba⟩:=HBN.out.2 x (List.mem_of_getElem? hx);obtain ⟨e1,e2,e3,hAt,hKt⟩:=(HN.out.each i r x hr hx).2 (nR9 _);obtain ⟨_,_,h2,_,h4⟩:=za ms i r hr;have c2:wr.cell? ⟨g,i*5+2,none⟩=some r.va:=by rw[World.ownsRow.cellAt HN.out.row (i*5+2) (by omega)];exact h2
    obtain ⟨cur,hcur,_,_,_,_⟩:=y7 HN.out.row;obtain ⟨aa,ac,hva⟩:∃ a c,r.va=.slice a x.attrs.length c:=by obtain ⟨a,c,e,_⟩:=hAt;exact ⟨a,c,e⟩
    obtain ⟨ka,kc,hvk⟩:∃ a c,r.vk=.slice a x.kids.length c:=by obtain ⟨a,c,e,_⟩:=hKt;exact ⟨a,c,e⟩
    have HA:Hid (Calls Tryz.prog 13 #[.slice aa x.attrs.length ac] wr fun e w'=>∃ v',e=.returned v'∧(yE wr.heap.size w' v' x.attrs∧Below wr.heap.size wr w')):=by
     have:=YG (fun b=>b<w.heap.size) r.va x.attrs wr hAt (by omega)
     rw[hva]at this
     exact this
    have hgl:=HN.out.row.lt g rfl;rw[hva]at c2
    have HCUR:Hid _:=hcur;have HVK:Hid _:=hvk;have HKT:Hid _:=hKt;have HR:Hid _:=hr;have HXX:Hid _:=hx;have HEE:Hid (r.text=x.text∧r.s=x.s∧r.par=x.parent):=⟨e1,e2,e3⟩;have H4:Hid _:=h4;clear hAt hKt hx hr h2 h4 hcur hva hvk e1 e2 e3;go_wp2_with fail;refine Calls.mono HA.out ?_;rintro e wa ⟨va,rfl,hAr,hba'⟩;have HCA:Hid _:=(hba'.block g hgl.2).trans HCUR.out;have c2a:wa.cell? ⟨g,i*5+2,none⟩=some (.slice aa x.attrs.length ac):=(hba'.cell (p:=⟨g,i*5+2,none⟩) hgl.2).trans c2;have f2a:wa.frozen? ⟨g,i*5+2,none⟩=false:=fH9 HCA.out _;obtain ⟨va1,va2,hvs⟩:∃ a c,va=.slice a x.attrs.length c:=by obtain ⟨a,c,e,_⟩:=yE.attrsIn hAr;exact ⟨a,c,e⟩
    have HVS:Hid _:=hvs;have c4w:wr.cell? ⟨g,i*5+4,none⟩=some r.vk:=by rw[World.ownsRow.cellAt HN.out.row (i*5+4) (by omega)];exact H4.out
    rw[HVK.out]at c4w
    have c4b:(wa.setCell ⟨g,i*5+2,none⟩ (.slice va1 x.attrs.length va2)).cell? ⟨g,i*5+4,none⟩=some (.slice ka x.kids.length kc):=by
     rw[World.cell?_setCell_other _ _ _ _ (Qt (by omega))]
     exact (hba'.cell (p:=⟨g,i*5+4,none⟩) hgl.2).trans c4w
    have HKC:Hid (Calls Tryz.prog 14 #[.slice ka x.kids.length kc] (wa.setCell ⟨g,i*5+2,none⟩ (.slice va1 x.attrs.length va2)) fun e w'=>∃ v',e=.returned v'∧qJ wa.heap.size w' v' x.kids∧Below wa.heap.size (wa.setCell ⟨g,i*5+2,none⟩ (.slice va1 x.attrs.length va2)) w'):=by
     have:=YH (fun b=>b<w.heap.size) r.vk x.kids (wa.setCell ⟨g,i*5+2,none⟩ (.slice va1 x.attrs.length va2)) (q6.carry HKT.out fun b hb=>⟨hb,by rw[qb (by omega)];exact hba'.block b (by have:=HN.out.below.size;omega)⟩) (by omega)
     rw[HVK.out]at this
     simp only[World.size_setCell]at this
     exact this
    have HFB:Hid ((wa.setCell ⟨g,i*5+2,none⟩ (.slice va1 x.attrs.length va2)).frozen? ⟨g,i*5+4,none⟩=false):=by
     show _=_
     rw[World.frozen?_setCell];exact fH9 HCA.out _
    have HAR:Hid _:=hAr;have HBA:Hid _:=hba';have hgla:g<wa.heap.size:=Nat.lt_of_lt_of_le hgl.2 hba'.size;subst hvs;clear hAr hba' c4w c2 HA;go_wp2_with fail;refine Calls.mono HKC.out ?_;rintro e wc ⟨vk,rfl,hKr,hbc⟩;obtain ⟨vk1,vk2,hks⟩:∃ a c,vk=.slice a x.kids.length c:=by obtain ⟨a,c,e,_⟩:=qJ.ints hKr;exact ⟨a,c,e⟩
    have c4c:wc.cell? ⟨g,i*5+4,none⟩=some (.slice ka x.kids.length kc):=(hbc.cell (p:=⟨g,i*5+4,none⟩) hgla).trans c4b
    have f4c:wc.frozen? ⟨g,i*5+4,none⟩=false:=by
     have hx':wc.heap[g]?=(wa.setCell ⟨g,i*5+2,none⟩ (.slice va1 x.attrs.length va2)).heap[g]?:=hbc.block g hgla;rw[World.frozen?_of_block (a:=⟨g,i*5+4,none⟩) hx'];exact HFB.out
    have HI2:Hid _:=HN.out.step HR.out HXX.out HAR.out HBA.out hKr hbc HEE.out;subst hks;clear hKr hbc c4b HKC HFB HAR HBA c2a f2a;go_wp2_with fail
    go_roundg (ns.length-(i+1))
    case measure => omega
    case rel => exact ⟨i+1,_,by omega,by go_num,HI2.out⟩
  · have hlti : ¬ ((i : Int) < (ns.length : Int)) := by omega
    have hii:i=ns.length:=by omega
    subst hii;have r0:wr.cell? ⟨w.heap.size,0,none⟩=some (.slice none 0 0):=by rw[cH9 HN.out.res];rfl
    have f0:wr.frozen? ⟨w.heap.size,0,none⟩=false:=fH9 HN.out.res _;go_wp2_with fail;refine bodyPost_ret (v:=.agg #[.slice (some ⟨g,0,none⟩) ns.length cap]) (by simp[results,Tryz.results7,go_sem,qe,World.cell?_setCell_other,r0]) rfl ?_
    obtain ⟨hgB,hgl⟩:=HN.out.row.lt g rfl;refine ⟨g,cap,rfl,⟨_,HN.out.len,qj HN.out.row (fun b hb=>?_),fun j r x hr hx=>?_⟩,HN.out.below.setCell (p:=⟨w.heap.size,0,none⟩) (nR9 _) _⟩
    · have : g = b := by injection hb
      subst this;exact qb (by omega)
    · refine ((HN.out.each j r x hr hx).1 (qd hx)).carry fun b hb=>⟨⟨hb.1,by simpa using hb.2.1,fun e=>hb.2.2 (by rw[e];rfl)⟩,qb (by omega)⟩
theorem XN (S:Nat→Prop)(sb n:Nat)(ns:List Nd)(w:World)(h:Sto S w sb ns n) :
 Calls Tryz.prog 7 #[.pointer (some ⟨sb,0,none⟩)] w fun e w'=>∃ v,e=.returned (.agg #[v])∧qu (fun b=>w.heap.size≤b) w' v ns∧Below w.heap.size w w':=by
 refine (YM S sb n ns w h).mono ?_;rintro e w' ⟨g,cap,rfl,⟨ms,hD⟩,hb⟩;exact ⟨_,rfl,(Xm hD.row hD.len (fun j r x hr hx=>hD.each j r x hr hx) (fun b hb=>hb.1)).carry fun b hb=>⟨by omega,rfl⟩,hb⟩
end
theorem Vg {t:Tr}(h:qw t=true):Yy t:=by
 refine ⟨Nat.le_trans (Zg h) (by unfold maxLen;omega),fun y hy=>?_⟩
 cases ht:t.text with
 | true =>
   unfold qw at h
   rw[ht]at h
   simp at h
   rw[h.1.2]at hy
   cases hy
 | false =>
   have key:=(Zc (jH h ht).2).2 y hy;exact ⟨Nat.le_trans (jR key.1) (by unfold maxLen;omega),Nat.le_trans (ZG key.2) (by unfold maxLen;omega)⟩
theorem rgt_texts:∀ {n:Nat}{ts:List Tr},(∀ N,rgt N ts=true)→TextsN n ts:=by
 intro n
 induction n with
 | zero=>intro ts _;trivial
 | succ n ih =>
   intro ts h t ht;obtain ⟨h1,_⟩:=jC _ _ (h (n+1)) t ht;refine ⟨Vg h1,ih (fun N=>?_)⟩
   obtain ⟨h3,h4⟩:=jC _ _ (h (N+1)) t ht;cases hx:t.text with
   | true=>rw[xN h3 hx];exact Qc N
   | false=>rw[hx,Bool.false_or]at h4;exact h4
theorem QT {l:List Tr}(h:qG l=true)(n:Nat):TextsN n l:=by
 have hd:Deep 8 l:=rb_deep 8 80 l (by simpa[qG] using h)
 have h2:=h;rw[xh hd]at h2
 simp only[Bool.and_eq_true,decide_eq_true_eq]at h2
 exact rgt_texts (rgt_all hd h2.2)
theorem YW {t:Tr}(h:qS t=true)(n:Nat):TextsN n [t]:=by
 simp only[qS,Bool.and_eq_true]at h
 exact QT h.2 n
theorem Va (s:List UInt8):(∃ c:Int,(c=1∨c=2)∧(qC s).2=c)∨(qS (qC s).1=true∧(qC s).2=0):=by
 unfold qC
 split
 · exact Or.inl ⟨2,Or.inr rfl,rfl⟩
 · split
   · exact Or.inl ⟨1,Or.inl rfl,rfl⟩
   · rename_i h
     simp only[Bool.or_eq_true,not_or,Bool.not_eq_true',Bool.not_eq_false]at h
     exact Or.inr ⟨by simpa using h.2,rfl⟩
theorem VG (s:List UInt8):(qR s).2≠0∧(qR s).1=[]∨qG (qR s).1=true∧(qR s).2=0:=by
 unfold qR
 split
 · exact Or.inl ⟨by show (2:Int)≠0;decide,rfl⟩
 · split
   · exact Or.inl ⟨by show (1:Int)≠0;decide,rfl⟩
   · rename_i h
     simp only[Bool.or_eq_true,not_or,Bool.not_eq_true',Bool.not_eq_false]at h
     exact Or.inr ⟨by simpa using h.2,rfl⟩
section
attribute [local go_sem] qe
def JF (w:World)(b:Nat)(v0 v1 v2:Value):World:=((w.setCell ⟨b,0,none⟩ v0).setCell ⟨b,1,none⟩ v1).setCell ⟨b,2,none⟩ v2
theorem j7 {w:World}{b c:Nat}{v0 v1 v2:Value}(h:c≠b):(JF w b v0 v1 v2).heap[c]?=w.heap[c]?:=by
 unfold JF;rw[qb h,qb h,qb h]
theorem zM {B b:Nat}{w0 w:World}{v0 v1 v2:Value}(h:Below B w0 w)(hb:B≤b):Below B w0 (JF w b v0 v1 v2):=by
 unfold JF;exact ((h.setCell (p:=⟨b,0,none⟩) hb _).setCell (p:=⟨b,1,none⟩) hb _).setCell (p:=⟨b,2,none⟩) hb _
def jK (S:Nat→Prop)(sb:Nat)(w:World)(rep:Rep)(ns:List Nd)(n:Nat)(e:Ending)(w':World):Prop :=
 e=.returned (.agg #[.int .i64 rep.1,.int .i64 rep.2.1,.string rep.2.2])∧(∃ S':Nat→Prop,(∀ b,S' b→S b∨w.heap.size≤b)∧Sto S' w' sb ns n)∧CFr sb w w'
theorem zB {S:Nat→Prop}{sb n:Nat}{ns:List Nd}{w w':World}(rep:Rep)(h:Sto S w sb ns n)(hb:Below w.heap.size w w'):jK S sb w rep ns n (.returned (.agg #[.int .i64 rep.1,.int .i64 rep.2.1,.string rep.2.2])) w' :=
 ⟨rfl,⟨S,fun _ hb=>Or.inl hb,h.later hb⟩,CFr.later hb⟩
theorem YL {S:Nat→Prop}{sb n:Nat}{ns ns':List Nd}{w W:World}(rep:Rep)(h:Sto S w sb ns n)(hb:Below w.heap.size w W){S':Nat→Prop}(hS':∀ b,S' b→(S b∨w.heap.size≤b)){a:Option Addr}{c:Nat}(hN:qu S' W (.slice a ns'.length c) ns')(hc:c≤maxLen)(hg:qp ns'=true){R:Nat}(hR:w.heap.size≤R){v0 v1 v2:Value}(hSR:∀ b,S' b→b≠R) :
 jK S sb w rep ns' n (.returned (.agg #[.int .i64 rep.1,.int .i64 rep.2.1,.string rep.2.2])) (JF (W.setCell ⟨sb,0,none⟩ (.slice a ns'.length c)) R v0 v1 v2):=by
 obtain ⟨a0,c0,hbx,_,_⟩:=h.box;have hsl:=qh hbx;have hsw:w.heap.size≤W.heap.size:=hb.size;have hbx1:W.heap[sb]?=_:=(hb.block sb hsl).trans hbx
 have hset:(W.setCell ⟨sb,0,none⟩ (.slice a ns'.length c)).heap[sb]?=some (.cells #[.slice a ns'.length c,.int .i64 (n:Int)] 49 (0,0)):=by
  simp[World.setCell,Array.getElem?_modify,hbx1]
 have hne:∀ b,S' b→b≠sb:=fun b hb'=>by
  rcases hS' b hb' with h1|h1
  · exact (h.here b h1).2
  · omega
 have hsz:(JF (W.setCell ⟨sb,0,none⟩ (.slice a ns'.length c)) R v0 v1 v2).heap.size=W.heap.size:=by unfold JF;simp
 refine ⟨rfl,⟨fun b=>S' b∧b<W.heap.size,fun b hb'=>hS' b hb'.1,?_⟩,?_⟩
 · refine ⟨fun b hb' => ⟨by rw[hsz];exact hb'.2, hne b hb'.1⟩, hg, a, c, ?_, ?_, hc⟩
   · rw[j7 (by omega)];exact hset
   · exact hN.bounded.carry fun b hb'=>⟨hb',by rw[j7 (hSR b hb'.1),qb (hne b hb'.1)]⟩
 · have h1 : CFr sb w (W.setCell ⟨sb, 0, none⟩ (.slice a ns'.length c)) := (CFr.later hb).trans (CFr.put sb W 0 _);refine ⟨zM h1.below (nZ9 _),fun x hx hxs=>?_⟩
   rw[j7 (by omega)]
   exact h1.frame x hx hxs
set_option linter.unusedSimpArgs false in
set_option maxHeartbeats 2000000 in
theorem qdf (S T:Nat→Prop)(sb n:Nat)(ns:List Nd)(vl:Value)(ls:List ByteArray)(w:World)(h:Sto S w sb ns n)(hL:Strs T w vl ls)(hE:jg w)(hz:∀ s∈ls,s.size≤maxLen) :
 Calls Tryz.prog 16 #[.pointer (some ⟨sb,0,none⟩),vl] w fun e w'=>jK S sb w (Zi ls ns).1 (Zi ls ns).2 n e w':=by
 obtain ⟨la,lc,rfl,hll,hlc⟩:=hL.shape;have HST:Hid _:=h;have hb0:=Below.alloc1 w (.cells #[.int .i64 0,.int .i64 0,.string ⟨#[]⟩] 34);have HR0:Hid _:=heap_alloc_new w (.cells #[.int .i64 0,.int .i64 0,.string ⟨#[]⟩] 34);have HEV:Hid (∀ W,Below w.heap.size w W→jg W):=fun W hW=>hE.later hW
 have HL:Hid (Strs T w (.slice la ls.length lc) ls):=hL;unfold maxLen at hlc
 clear h hE hL
 by_cases hl1:ls.length=1
 case neg =>
  have HS:Hid (Zi ls ns=(qW 1,ns)):=by
   show _=_
   match ls,hl1 with
   | [],_=>rfl
   | [_],h=>exact absurd rfl h
   | _::_::_,_=>rfl
  have hl1b:((ls.length:Int)==1)=false:=beq_eq_false_iff_ne.2 (by omega)
  rw[HS.out];clear HEV HL
  go_enter Tryz.func16,Tryz.ntmps16
  go_wp2_with fail
  generalize w.alloc (.cells #[.int .i64 0,.int .i64 0,.string ⟨#[]⟩] 34)=W0 at *
  refine Calls.mono (zW 1 W0) ?_;rintro e wr1 ⟨rfl,hbr1⟩;have HRr:Hid _:=(hbr1.block _ (qh HR0.out)).trans HR0.out;have hBr:=hb0.trans (hbr1.mono hb0.size);have r0:wr1.cell? ⟨w.heap.size,0,none⟩=some (.int .i64 0):=by rw[cH9 HRr.out];rfl
  have r1:wr1.cell? ⟨w.heap.size,1,none⟩=some (.int .i64 0):=by rw[cH9 HRr.out];rfl
  have r2:wr1.cell? ⟨w.heap.size,2,none⟩=some (.string ⟨#[]⟩):=by rw[cH9 HRr.out];rfl
  have f0:wr1.frozen? ⟨w.heap.size,0,none⟩=false:=fH9 HRr.out _;have f1:wr1.frozen? ⟨w.heap.size,1,none⟩=false:=fH9 HRr.out _;have f2:wr1.frozen? ⟨w.heap.size,2,none⟩=false:=fH9 HRr.out _;clear hbr1 HRr;go_wp2_with fail;refine bodyPost_ret (v:=.agg #[.int .i64 (1),.int .i64 0,.string ⟨#[]⟩]) (by simp[results,Tryz.results16,go_sem,qe,World.cell?_setCell_other,r0,r1,r2]) rfl ?_
  exact zB (qW _) HST.out (zM hBr (nR9 _))
 case pos =>
  obtain ⟨s,rfl⟩:∃ s,ls=[s]:=by
   match ls,hl1 with
   | [s],_=>exact ⟨s,rfl⟩
  obtain ⟨b1,o1,c1,hv1,_,_,e1⟩:=(Strs.later HL.out hb0).at (i:=0) (x:=s) rfl
  injection hv1 with hv1 hv1l hv1c
  subst hv1 hv1c;clear hv1l hl1;simp only[List.length_cons,List.length_nil,Nat.zero_add,Nat.add_zero]at e1 hll ⊢
  have hsz:=hz s (List.mem_cons_self)
  have HP:Hid (∀ W,Below w.heap.size w W→Calls Tryz.prog 22 #[.string s] W fun e w'=>∃ va vk,e=.returned (.tuple #[.agg #[.bool (qC s.data.toList).1.text,.string (qC s.data.toList).1.s,va,vk],.int .i64 (qC s.data.toList).2])∧qk (fun b=>W.heap.size≤b) w' va (qC s.data.toList).1.attrs∧qa (fun b=>W.heap.size≤b) w' s.data.toList.length vk (qC s.data.toList).1.kids∧Below W.heap.size W w'):=by
   intro W hW;have:=qbV s.data.toList W (HEV.out W hW).marks (by rw[yS];unfold maxLen at hsz;omega)
   rw[Ze]at this
   exact this
  have hpc:=Va s.data.toList;have HS:Hid (Zi [s] ns=if (qC s.data.toList).2≠0 then (qW (qC s.data.toList).2,ns) else ((0,((yA s.data.toList.length (qC s.data.toList).1).length:Int),⟨#[]⟩),yA s.data.toList.length (qC s.data.toList).1)):=rfl
  obtain ⟨Q,hQ⟩:∃ Q,qC s.data.toList=Q:=⟨_,rfl⟩;rw[hQ]at HP HS hpc
  clear hQ hsz HEV HL hz;obtain ⟨t,E⟩:=Q;simp only at HP HS hpc
  generalize s.data.toList.length=N at *
  rcases hpc with ⟨c,hc,rfl⟩|⟨hg,rfl⟩
  · have hc0 : ¬ E = 0 := by rcases hc with rfl | rfl <;> decide
    have hcb:(E==0)=false:=by simpa using hc0
    rw[if_pos hc0]at HS
    rw[HS.out];clear hc hc0
    go_enter Tryz.func16,Tryz.ntmps16
    go_wp2_with fail
    generalize w.alloc (.cells #[.int .i64 0,.int .i64 0,.string ⟨#[]⟩] 34)=W0 at *
    refine Calls.mono (HP.out W0 hb0) ?_;rintro e w1 ⟨va,vk,rfl,hA1,hK1,hb1⟩;obtain ⟨aa,ac,rfl⟩:=hA1.shape;obtain ⟨ka,kc,rfl,_,_⟩:=qa.shape N hK1;have hb2:=Below.alloc1 w1 (.cells #[.bool t.text,.string t.s,.slice aa t.attrs.length ac,.slice ka t.kids.length kc] 59);have hb12:=hb1.trans (hb2.mono hb1.size);have hB2:=hb0.trans (hb12.mono hb0.size);have HR2:Hid _:=(hb12.block _ (qh HR0.out)).trans HR0.out;clear hA1 hK1 hb1 hb2 hb12 HP;go_wp2_with fail
    generalize w1.alloc (.cells #[.bool t.text,.string t.s,.slice aa t.attrs.length ac,.slice ka t.kids.length kc] 59)=W2 at *
    refine Calls.mono (zW E W2) ?_;rintro e wr1 ⟨rfl,hbr1⟩;have HRr:Hid _:=(hbr1.block _ (qh HR2.out)).trans HR2.out;have hBr:=hB2.trans (hbr1.mono hB2.size);have r0:wr1.cell? ⟨w.heap.size,0,none⟩=some (.int .i64 0):=by rw[cH9 HRr.out];rfl
    have r1:wr1.cell? ⟨w.heap.size,1,none⟩=some (.int .i64 0):=by rw[cH9 HRr.out];rfl
    have r2:wr1.cell? ⟨w.heap.size,2,none⟩=some (.string ⟨#[]⟩):=by rw[cH9 HRr.out];rfl
    have f0:wr1.frozen? ⟨w.heap.size,0,none⟩=false:=fH9 HRr.out _;have f1:wr1.frozen? ⟨w.heap.size,1,none⟩=false:=fH9 HRr.out _;have f2:wr1.frozen? ⟨w.heap.size,2,none⟩=false:=fH9 HRr.out _;clear hbr1 HRr;go_wp2_with fail;refine bodyPost_ret (v:=.agg #[.int .i64 (E),.int .i64 0,.string ⟨#[]⟩]) (by simp[results,Tryz.results16,go_sem,qe,World.cell?_setCell_other,r0,r1,r2]) rfl ?_
    exact zB (qW _) HST.out (zM hBr (nR9 _))
  · rw[if_neg (by simp)]at HS
    rw[HS.out];obtain ⟨D,hD⟩:∃ D,yA N t=D:=⟨_,rfl⟩;rw[hD]
    go_enter Tryz.func16,Tryz.ntmps16
    go_wp2_with fail
    generalize w.alloc (.cells #[.int .i64 0,.int .i64 0,.string ⟨#[]⟩] 34)=W0 at *
    refine Calls.mono (HP.out W0 hb0) ?_;rintro e w1 ⟨va,vk,rfl,hA1,hK1,hb1⟩;obtain ⟨aa,ac,rfl⟩:=hA1.shape;obtain ⟨ka,kc,rfl,_,_⟩:=qa.shape N hK1;have hb2:=Below.alloc1 w1 (.cells #[.bool t.text,.string t.s,.slice aa t.attrs.length ac,.slice ka t.kids.length kc] 59);have hb12:=hb1.trans (hb2.mono hb1.size);have hB2:=hb0.trans (hb12.mono hb0.size);have HR2:Hid _:=(hb12.block _ (qh HR0.out)).trans HR0.out;have hdp:=qa.deep N hK1;have HMK:Hid _:=Y2 (fun b=>b<(w1.alloc (.cells #[.bool t.text,.string t.s,.slice aa t.attrs.length ac,.slice ka t.kids.length kc] 59)).heap.size) N _ _ t _ ((qk.later hA1 hb2).bounded.carry fun b hb=>⟨hb.2,rfl⟩) (qa.carry (fun b hb=>⟨hb.2,rfl⟩) N (qa.bounded N (qa.later hb2 N hK1))) (YW hg _) (fun b hb=>hb)
    have HMG:Hid (qp (yA N t)=true):=by
     show _=_
     unfold yA;rw[if_pos hg];exact (Xb hdp hg).1
    have hme:Qf t=0:=by unfold Qf;rw[if_pos hg]
    rw[hme]at HMK
    rw[hD]at HMK HMG
    clear hA1 hK1 hb1 hb2 hb12 HP hme hdp hg HS hD;go_wp2_with fail
    generalize w1.alloc (.cells #[.bool t.text,.string t.s,.slice aa t.attrs.length ac,.slice ka t.kids.length kc] 59)=W2 at *
    refine Calls.mono HMK.out ?_;rintro e w3 ⟨v3,rfl,hN3,hb3⟩;obtain ⟨a3,c3,rfl,_,hc3⟩:=hN3.shape;have hb4:=Below.alloc1 w3 (.cells #[.slice a3 D.length c3] 30);have hb34:=hb3.trans (hb4.mono hb3.size);have hB4:=hB2.trans (hb34.mono hB2.size);have HR4:Hid _:=(hb34.block _ (qh HR2.out)).trans HR2.out;have HN4:Hid _:=qu.later hN3 hb4;have hrw2:w.heap.size<W2.heap.size:=qh HR2.out;obtain ⟨a0,c0,hbx,_,_⟩:=HST.out.box;have hsbl:=qh hbx;have HX4:Hid _:=(hB4.block sb hsbl).trans hbx;have x4:(w3.alloc (.cells #[.slice a3 D.length c3] 30)).cell? ⟨sb,0,none⟩=some (.slice a0 ns.length c0):=by rw[cH9 HX4.out];rfl
    have xf4:(w3.alloc (.cells #[.slice a3 D.length c3] 30)).frozen? ⟨sb,0,none⟩=false:=fH9 HX4.out _;have HRs:Hid (((w3.alloc (.cells #[.slice a3 D.length c3] 30)).setCell ⟨sb,0,none⟩ (.slice a3 D.length c3)).heap[w.heap.size]?=_):=(qb (by omega)).trans HR4.out
    have HD4:Hid _:=heap_alloc_new w3 (.cells #[.slice a3 D.length c3] 30);have hd4ne:sb≠w3.heap.size:=by have:=hB4.size;have:=hb34.size;have:=hb3.size;omega
    have d4:((w3.alloc (.cells #[.slice a3 D.length c3] 30)).setCell ⟨sb,0,none⟩ (.slice a3 D.length c3)).cell? ⟨w3.heap.size,0,none⟩=some (.slice a3 D.length c3):=by
     rw[World.cell?_of_block (a:=⟨w3.heap.size,0,none⟩) (qb (fun e=>hd4ne e.symm)),cH9 HD4.out];rfl
    have r0:((w3.alloc (.cells #[.slice a3 D.length c3] 30)).setCell ⟨sb,0,none⟩ (.slice a3 D.length c3)).cell? ⟨w.heap.size,0,none⟩=some (.int .i64 0):=by rw[cH9 HRs.out];rfl
    have r1:((w3.alloc (.cells #[.slice a3 D.length c3] 30)).setCell ⟨sb,0,none⟩ (.slice a3 D.length c3)).cell? ⟨w.heap.size,1,none⟩=some (.int .i64 0):=by rw[cH9 HRs.out];rfl
    have r2:((w3.alloc (.cells #[.slice a3 D.length c3] 30)).setCell ⟨sb,0,none⟩ (.slice a3 D.length c3)).cell? ⟨w.heap.size,2,none⟩=some (.string ⟨#[]⟩):=by rw[cH9 HRs.out];rfl
    have f0:((w3.alloc (.cells #[.slice a3 D.length c3] 30)).setCell ⟨sb,0,none⟩ (.slice a3 D.length c3)).frozen? ⟨w.heap.size,0,none⟩=false:=fH9 HRs.out _;have f1:((w3.alloc (.cells #[.slice a3 D.length c3] 30)).setCell ⟨sb,0,none⟩ (.slice a3 D.length c3)).frozen? ⟨w.heap.size,1,none⟩=false:=fH9 HRs.out _;have f2:((w3.alloc (.cells #[.slice a3 D.length c3] 30)).setCell ⟨sb,0,none⟩ (.slice a3 D.length c3)).frozen? ⟨w.heap.size,2,none⟩=false:=fH9 HRs.out _;clear hN3 hb3 hb4 hb34 HR2 HMK HRs HX4 hbx;go_wp2_with fail;refine bodyPost_ret (v:=.agg #[.int .i64 0,.int .i64 (D.length:Int),.string ⟨#[]⟩]) (by simp[results,Tryz.results16,go_sem,qe,World.cell?_setCell_other,r0,r1,r2]) rfl ?_
    exact YL (0,(D.length:Int),⟨#[]⟩) HST.out hB4 (fun b hb=>Or.inr (by omega)) HN4.out hc3 HMG.out (nR9 _) (fun b hb=>by omega)
end
section
attribute [local go_sem] qe
theorem Qy {ns:List Nd}(hg:qp ns=true):jJ ns 0=(growF ns.length ns 0,0)∧qS (growF ns.length ns 0)=true:=by
 have h:=hg;simp only[qp,Bool.and_eq_true]at h
 have h0:=x9 h.1.2;have hq:jL ns 0=true:=by unfold jL;simp;omega
 refine ⟨?_,h.2⟩;unfold jJ;rw[hg,hq];rfl
set_option linter.unusedSimpArgs false in
set_option maxHeartbeats 2000000 in
theorem qdE (S:Nat→Prop)(sb n:Nat)(ns:List Nd)(w:World)(h:Sto S w sb ns n)(hE:jg w) :
 Calls Tryz.prog 18 #[.pointer (some ⟨sb,0,none⟩)] w fun e w'=>jK S sb w (Z4 ns) ns n e w':=by
 have HST:Hid _:=h;have hb0:=Below.alloc1 w (.cells #[.int .i64 0,.int .i64 0,.string ⟨#[]⟩] 34);have HR0:Hid _:=heap_alloc_new w (.cells #[.int .i64 0,.int .i64 0,.string ⟨#[]⟩] 34);have HEV:Hid (∀ W,Below w.heap.size w W→jg W):=fun W hW=>hE.later hW
 obtain ⟨a,c,hbx,hN,hcm⟩:=h.box;have hsl:=qh hbx
 have HX:Hid (∀ W,Below w.heap.size w W→W.cell? ⟨sb,0,none⟩=some (.slice a ns.length c)):=fun W hW=>by
  rw[cH9 ((hW.block sb hsl).trans hbx)];rfl
 have x0:=HX.out _ hb0;obtain ⟨htd,hgt⟩:=Qy h.good;have HT:Hid _:=Z9 S (.slice a ns.length c) ns 0 _ ((h.doc hN).later hb0)
 have HS:Hid (Z4 ns=if (y9 ns.length (growF ns.length ns 0)).2≠0 then qW (y9 ns.length (growF ns.length ns 0)).2 else (0,(ns.length:Int),(y9 ns.length (growF ns.length ns 0)).1)):=by
  show _=_
  unfold Z4;rw[htd];rfl
 rw[htd]at HT
 generalize growF ns.length ns 0=t at *
 have HPR:Hid (∀ (U:Nat→Prop) (va vk:Value) (W:World),Below w.heap.size w W→qk U W va t.attrs→qa U W ns.length vk t.kids→Calls Tryz.prog 25 #[.agg #[.bool t.text,.string t.s,va,vk]] W fun e w'=>e=.returned (.tuple #[.string (y9 ns.length t).1,.int .i64 (y9 ns.length t).2])∧Below W.heap.size W w') :=
  fun U va vk W hW hA hK=>Vb U ns.length va vk t W hA hK (HEV.out W hW).marks (YW hgt _)
 obtain ⟨P,E,hPE⟩:∃ P E,y9 ns.length t=(P,E):=⟨_,_,rfl⟩;rw[hPE]at HS HPR
 simp only at HS HPR
 unfold maxLen at hcm
 clear h hE htd hgt hbx hN hPE HEV;have main:True:=trivial;clear main
 by_cases hE0:E=0
 · subst hE0;rw[if_neg (by simp)]at HS
   rw[HS.out]
   go_enter Tryz.func18,Tryz.ntmps18
   go_wp2_with fail
   generalize w.alloc (.cells #[.int .i64 0,.int .i64 0,.string ⟨#[]⟩] 34)=W0 at *
   refine Calls.mono HT.out ?_;rintro e w1 ⟨va,vk,rfl,hA1,hK1,hb1⟩;obtain ⟨aa,ac,rfl⟩:=hA1.shape;obtain ⟨ka,kc,rfl,_,_⟩:=qa.shape ns.length hK1;have hb2:=Below.alloc1 w1 (.cells #[.bool t.text,.string t.s,.slice aa t.attrs.length ac,.slice ka t.kids.length kc] 59);have hb12:=hb1.trans (hb2.mono hb1.size);have hB2:=hb0.trans (hb12.mono hb0.size);have HR2:Hid _:=(hb12.block _ (qh HR0.out)).trans HR0.out;have HP2:Hid _:=HPR.out _ _ _ _ hB2 (qk.later hA1 hb2) (qa.later hb2 ns.length hK1);clear hA1 hK1 hb1 hb2 hb12 HT HPR HS;go_wp2_with fail
   generalize w1.alloc (.cells #[.bool t.text,.string t.s,.slice aa t.attrs.length ac,.slice ka t.kids.length kc] 59)=W2 at *
   refine Calls.mono HP2.out ?_;rintro e w3 ⟨rfl,hb3⟩;have hB3:=hB2.trans (hb3.mono hB2.size);have HR3:Hid _:=(hb3.block _ (qh HR2.out)).trans HR2.out;have x3:=HX.out w3 hB3;have r0:w3.cell? ⟨w.heap.size,0,none⟩=some (.int .i64 0):=by rw[cH9 HR3.out];rfl
   have r1:w3.cell? ⟨w.heap.size,1,none⟩=some (.int .i64 0):=by rw[cH9 HR3.out];rfl
   have r2:w3.cell? ⟨w.heap.size,2,none⟩=some (.string ⟨#[]⟩):=by rw[cH9 HR3.out];rfl
   have f0:w3.frozen? ⟨w.heap.size,0,none⟩=false:=fH9 HR3.out _;have f1:w3.frozen? ⟨w.heap.size,1,none⟩=false:=fH9 HR3.out _;have f2:w3.frozen? ⟨w.heap.size,2,none⟩=false:=fH9 HR3.out _;clear hb3 HR2 HR3 HP2 HX x0;go_wp2_with fail;refine bodyPost_ret (v:=.agg #[.int .i64 0,.int .i64 (ns.length:Int),.string P]) (by simp[results,Tryz.results18,go_sem,qe,World.cell?_setCell_other,r0,r1,r2]) rfl ?_
   exact zB (0,(ns.length:Int),P) HST.out (zM hB3 (nR9 _))
 · have hEb : (E == 0) = false := by simpa using hE0
   rw[if_pos hE0]at HS
   rw[HS.out]
   go_enter Tryz.func18,Tryz.ntmps18
   go_wp2_with fail
   generalize w.alloc (.cells #[.int .i64 0,.int .i64 0,.string ⟨#[]⟩] 34)=W0 at *
   refine Calls.mono HT.out ?_;rintro e w1 ⟨va,vk,rfl,hA1,hK1,hb1⟩;obtain ⟨aa,ac,rfl⟩:=hA1.shape;obtain ⟨ka,kc,rfl,_,_⟩:=qa.shape ns.length hK1;have hb2:=Below.alloc1 w1 (.cells #[.bool t.text,.string t.s,.slice aa t.attrs.length ac,.slice ka t.kids.length kc] 59);have hb12:=hb1.trans (hb2.mono hb1.size);have hB2:=hb0.trans (hb12.mono hb0.size);have HR2:Hid _:=(hb12.block _ (qh HR0.out)).trans HR0.out;have HP2:Hid _:=HPR.out _ _ _ _ hB2 (qk.later hA1 hb2) (qa.later hb2 ns.length hK1);clear hA1 hK1 hb1 hb2 hb12 HT HPR HS hE0;go_wp2_with fail
   generalize w1.alloc (.cells #[.bool t.text,.string t.s,.slice aa t.attrs.length ac,.slice ka t.kids.length kc] 59)=W2 at *
   refine Calls.mono HP2.out ?_;rintro e w3 ⟨rfl,hb3⟩;have hB3:=hB2.trans (hb3.mono hB2.size);have HR3:Hid _:=(hb3.block _ (qh HR2.out)).trans HR2.out;clear hb3 HR2 HP2 HX x0;go_wp2_with fail;refine Calls.mono (zW E w3) ?_;rintro e wr1 ⟨rfl,hbr1⟩;have HRr:Hid _:=(hbr1.block _ (qh HR3.out)).trans HR3.out;have hBr:=hB3.trans (hbr1.mono hB3.size);have r0:wr1.cell? ⟨w.heap.size,0,none⟩=some (.int .i64 0):=by rw[cH9 HRr.out];rfl
   have r1:wr1.cell? ⟨w.heap.size,1,none⟩=some (.int .i64 0):=by rw[cH9 HRr.out];rfl
   have r2:wr1.cell? ⟨w.heap.size,2,none⟩=some (.string ⟨#[]⟩):=by rw[cH9 HRr.out];rfl
   have f0:wr1.frozen? ⟨w.heap.size,0,none⟩=false:=fH9 HRr.out _;have f1:wr1.frozen? ⟨w.heap.size,1,none⟩=false:=fH9 HRr.out _;have f2:wr1.frozen? ⟨w.heap.size,2,none⟩=false:=fH9 HRr.out _;clear hbr1 HRr;go_wp2_with fail;refine bodyPost_ret (v:=.agg #[.int .i64 (E),.int .i64 0,.string ⟨#[]⟩]) (by simp[results,Tryz.results18,go_sem,qe,World.cell?_setCell_other,r0,r1,r2]) rfl ?_
   exact zB (qW _) HST.out (zM hBr (nR9 _))
theorem XI (k:Int)(said:List UInt8)(hs:said.length≤2500)(n:Nat):TextsN n (qq k said).1.content∧(qq k said).1.name.size≤maxLen∧(qq k said).1.s.size≤maxLen:=by
 have h0:TextsN n []:=by cases n with|zero=>trivial|succ n=>intro t ht;cases ht
 have hz:(⟨#[]⟩:ByteArray).size≤maxLen:=nZ9 _
 have hc:TextsN n (qR said).1:=by
  rcases VG said with ⟨_,h⟩|⟨h,_⟩
  · rw[h];exact h0
  · exact QT h n
 have ht:∀ s:List UInt8,s.length≤2500→(qc (zT s).1).size≤maxLen:=by
  intro s hs;rw[ql];unfold zT
  split
  · exact nZ9 _
  · split
    · exact nZ9 _
    · exact Nat.le_trans (ZU textEnds _ _) (by unfold Rs.left maxLen;simp;omega)
 have hcs:=jT 61 said;unfold qq
 split
 · exact ⟨hc,hz,hz⟩
 · split
   · exact ⟨h0,hz,ht said hs⟩
   · split
     · exact ⟨h0,by rw[ql];unfold maxLen;omega,hz⟩
     · split
       · split
         · exact ⟨h0,by rw[ql];unfold maxLen;omega,ht _ (by omega)⟩
         · exact ⟨h0,hz,hz⟩
       · exact ⟨h0,hz,hz⟩
theorem VW (s:List UInt8)(n:Nat):TextsN n (qH s).1.content∧(qH s).1.name.size≤maxLen∧(qH s).1.s.size≤maxLen:=by
 have h00:TextsN n []:=by cases n with|zero=>trivial|succ n=>intro t ht;cases ht
 have h0:TextsN n noOp.content∧noOp.name.size≤maxLen∧noOp.s.size≤maxLen:=⟨h00,nZ9 _,nZ9 _⟩;unfold qH
 split
 · exact h0
 · rename_i hl
   have h1:=jT 32 s;have h2:=jT 32 (zg s);have hsl:(zF s).length≤2500:=by have:=h1.2;have:=h2.2;unfold zF;unfold zg at *;omega
   split
   · exact h0
   · split
     · exact h0
     · split
       · exact h0
       · exact XI _ _ hsl n
theorem qbq (ns:List Nd)(n:Nat):∀ ls:List ByteArray,Za n (qz ns ls).1:=by
 intro ls
 induction ls with
 | nil=>intro x hx;cases hx
 | cons s r ih =>
   intro x hx;unfold qz at hx
   split at hx
   · cases hx
   · split at hx
     · cases hx
     · split at hx
       · cases hx
       · split at hx
         · cases hx
         · rcases List.mem_append.1 hx with hx | hx
           · unfold Qm at hx
             obtain ⟨t,_,rfl⟩:=List.mem_map.1 hx;exact VW s.data.toList n
           · exact ih x hx
set_option linter.unusedSimpArgs false in
set_option maxHeartbeats 2000000 in
theorem qbk (S T:Nat→Prop)(sb n:Nat)(ns:List Nd)(vl:Value)(ls:List ByteArray)(w:World)(h:Sto S w sb ns n)(hL:Strs T w vl ls)(hE:jg w)(hz:∀ s∈ls,s.size≤maxLen) :
 Calls Tryz.prog 17 #[.pointer (some ⟨sb,0,none⟩),vl] w fun e w'=>jK S sb w (yb ls ns).1 (yb ls ns).2 n e w':=by
 obtain ⟨la,lc,rfl,hll,hlc⟩:=hL.shape;have HST:Hid _:=h;have hb0:=Below.alloc1 w (.cells #[.int .i64 0,.int .i64 0,.string ⟨#[]⟩] 34);have HR0:Hid _:=heap_alloc_new w (.cells #[.int .i64 0,.int .i64 0,.string ⟨#[]⟩] 34);have HEV:Hid (∀ W,Below w.heap.size w W→jg W):=fun W hW=>hE.later hW
 obtain ⟨a,c,hbx,hN,hcm⟩:=h.box;have hsl:=qh hbx;have HBX:Hid _:=hbx
 have HX:Hid (∀ W,Below w.heap.size w W→W.cell? ⟨sb,0,none⟩=some (.slice a ns.length c)):=fun W hW=>by
  rw[cH9 ((hW.block sb hsl).trans hbx)];rfl
 have x0:=HX.out _ hb0;have HD:Hid _:=h.doc hN;unfold maxLen at hcm hlc
 clear hbx hN
 by_cases h6:6<ls.length
 · have h6i : (6 : Int) < (ls.length : Int) := by omega
   have HS:Hid (yb ls ns=(qW 2,ns)):=by show _=_;unfold yb;rw[if_pos h6]
   rw[HS.out];clear h hE HEV hL HX x0 HD HBX
   go_enter Tryz.func17,Tryz.ntmps17
   go_wp2_with fail
   generalize w.alloc (.cells #[.int .i64 0,.int .i64 0,.string ⟨#[]⟩] 34)=W0 at *
   refine Calls.mono (zW 2 W0) ?_;rintro e wr1 ⟨rfl,hbr1⟩;have HRr:Hid _:=(hbr1.block _ (qh HR0.out)).trans HR0.out;have hBr:=hb0.trans (hbr1.mono hb0.size);have r0:wr1.cell? ⟨w.heap.size,0,none⟩=some (.int .i64 0):=by rw[cH9 HRr.out];rfl
   have r1:wr1.cell? ⟨w.heap.size,1,none⟩=some (.int .i64 0):=by rw[cH9 HRr.out];rfl
   have r2:wr1.cell? ⟨w.heap.size,2,none⟩=some (.string ⟨#[]⟩):=by rw[cH9 HRr.out];rfl
   have f0:wr1.frozen? ⟨w.heap.size,0,none⟩=false:=fH9 HRr.out _;have f1:wr1.frozen? ⟨w.heap.size,1,none⟩=false:=fH9 HRr.out _;have f2:wr1.frozen? ⟨w.heap.size,2,none⟩=false:=fH9 HRr.out _;clear hbr1 HRr;go_wp2_with fail;refine bodyPost_ret (v:=.agg #[.int .i64 (2),.int .i64 0,.string ⟨#[]⟩]) (by simp[results,Tryz.results17,go_sem,qe,World.cell?_setCell_other,r0,r1,r2]) rfl ?_
   exact zB (qW _) HST.out (zM hBr (nR9 _))
 · have h6i : ¬ (6 : Int) < (ls.length : Int) := by omega
   have HS:Hid (yb ls ns=if (qz ns ls).2≠0 then (qW (qz ns ls).2,ns) else if zn ns (qz ns ls).1≠0 then (qW (zn ns (qz ns ls).1),ns) else ((0,((qz ns ls).1.length:Int),⟨#[]⟩),zZ ns (qz ns ls).1)):=by show _=_;unfold yb;rw[if_neg h6]
   have HCH:Hid _:=Kz (fun b=>b<(w.alloc (.cells #[.int .i64 0,.int .i64 0,.string ⟨#[]⟩] 34)).heap.size) (.slice a ns.length c) (.slice la ls.length lc) ns ls _ ⟨(HD.out.later hb0).nodes.carry fun b hb=>⟨(HD.out.later hb0).here b hb,rfl⟩,fun b hb=>hb,HD.out.few,HD.out.short⟩ ((hL.later hb0).bounded.carry fun b hb=>⟨hb.2,rfl⟩) (HEV.out _ hb0) (by omega) hz
   have HTX:Hid _:=qbq ns 2501 ls;obtain ⟨L,hLL⟩:∃ L,(qz ns ls).1=L:=⟨_,rfl⟩;obtain ⟨E,hEE⟩:∃ E,(qz ns ls).2=E:=⟨_,rfl⟩;rw[hLL,hEE]at HCH HS
   rw[hLL]at HTX
   clear h hE HEV hL hLL hEE
   by_cases hE0:E=0
   case neg =>
    have hEb:(E==0)=false:=by simpa using hE0
    rw[if_pos hE0]at HS
    rw[HS.out];clear hE0
    go_enter Tryz.func17,Tryz.ntmps17
    go_wp2_with fail
    generalize w.alloc (.cells #[.int .i64 0,.int .i64 0,.string ⟨#[]⟩] 34)=W0 at *
    refine Calls.mono HCH.out ?_;rintro e w1 ⟨v1,rfl,hO1,hb1⟩;obtain ⟨oa,oc,rfl,_,_⟩:=hO1.shape;have hB1:=hb0.trans (hb1.mono hb0.size);have HR1:Hid _:=(hb1.block _ (qh HR0.out)).trans HR0.out;clear hO1 hb1 HCH HX x0;go_wp2_with fail;refine Calls.mono (zW E w1) ?_;rintro e wr1 ⟨rfl,hbr1⟩;have HRr:Hid _:=(hbr1.block _ (qh HR1.out)).trans HR1.out;have hBr:=hB1.trans (hbr1.mono hB1.size);have r0:wr1.cell? ⟨w.heap.size,0,none⟩=some (.int .i64 0):=by rw[cH9 HRr.out];rfl
    have r1:wr1.cell? ⟨w.heap.size,1,none⟩=some (.int .i64 0):=by rw[cH9 HRr.out];rfl
    have r2:wr1.cell? ⟨w.heap.size,2,none⟩=some (.string ⟨#[]⟩):=by rw[cH9 HRr.out];rfl
    have f0:wr1.frozen? ⟨w.heap.size,0,none⟩=false:=fH9 HRr.out _;have f1:wr1.frozen? ⟨w.heap.size,1,none⟩=false:=fH9 HRr.out _;have f2:wr1.frozen? ⟨w.heap.size,2,none⟩=false:=fH9 HRr.out _;clear hbr1 HRr;go_wp2_with fail;refine bodyPost_ret (v:=.agg #[.int .i64 (E),.int .i64 0,.string ⟨#[]⟩]) (by simp[results,Tryz.results17,go_sem,qe,World.cell?_setCell_other,r0,r1,r2]) rfl ?_
    exact zB (qW _) HST.out (zM hBr (nR9 _))
   case pos =>
    subst hE0;rw[if_neg (by simp)]at HS
    obtain ⟨F,hF⟩:∃ F,zn ns L=F:=⟨_,rfl⟩;obtain ⟨D,hD⟩:∃ D,zZ ns L=D:=⟨_,rfl⟩
    have HGD:Hid (F=0→qp D=true):=by
     intro h0;rw[←hD];exact (VA (hF.trans h0)).1
    rw[hF,hD]at HS
    have HAP:Hid (∀ (w1:World) (v:Value),Below (w.alloc (.cells #[.int .i64 0,.int .i64 0,.string ⟨#[]⟩] 34)).heap.size (w.alloc (.cells #[.int .i64 0,.int .i64 0,.string ⟨#[]⟩] 34)) w1→Ops (fun b=>(w.alloc (.cells #[.int .i64 0,.int .i64 0,.string ⟨#[]⟩] 34)).heap.size≤b) w1 2501 v L→Calls Tryz.prog 24 #[.agg #[.slice a ns.length c],v] w1 fun e w'=>∃ v',e=.returned (.tuple #[.agg #[v'],.int .i64 F])∧qu (fun b=>(S b∨(w.alloc (.cells #[.int .i64 0,.int .i64 0,.string ⟨#[]⟩] 34)).heap.size≤b)∧b<w'.heap.size) w' v' D∧Below w1.heap.size w1 w'):=by
     intro w1 v hb1 hO;have hB1:=hb0.trans (hb1.mono hb0.size);have hD1:=HD.out.later hB1;have:=XF (fun b=>(S b∨(w.alloc (.cells #[.int .i64 0,.int .i64 0,.string ⟨#[]⟩] 34)).heap.size≤b)∧b<w1.heap.size) 2501 _ v ns L w1 (hD1.nodes.carry fun b hb=>⟨⟨Or.inl hb,hD1.here b hb⟩,rfl⟩) (fun b hb=>hb.2) hD1.few hD1.short (hO.bounded.carry fun b hb=>⟨⟨Or.inr hb.1,hb.2⟩,rfl⟩) HTX.out
     rw[hF,hD]at this
     refine this.mono ?_;rintro e w' ⟨v',rfl,h1,h2⟩;refine ⟨v',rfl,h1.bounded.carry fun b hb=>⟨⟨?_,hb.2⟩,rfl⟩,h2⟩
     rcases hb.1 with h|h
     · exact h.1
     · exact Or.inr (Nat.le_trans hb1.size h)
    clear hF hD
    by_cases hF0:F=0
    case neg =>
     have hFb:(F==0)=false:=by simpa using hF0
     rw[if_pos hF0]at HS
     rw[HS.out];clear hF0 HGD
     go_enter Tryz.func17,Tryz.ntmps17
     go_wp2_with fail
     generalize w.alloc (.cells #[.int .i64 0,.int .i64 0,.string ⟨#[]⟩] 34)=W0 at *
     refine Calls.mono HCH.out ?_;rintro e w1 ⟨v1,rfl,hO1,hb1⟩;obtain ⟨oa,oc,rfl,_,_⟩:=hO1.shape;have hB1:=hb0.trans (hb1.mono hb0.size);have HR1:Hid _:=(hb1.block _ (qh HR0.out)).trans HR0.out;have x1:=HX.out w1 hB1;have HA1:Hid _:=HAP.out w1 _ hb1 hO1;clear hO1 hb1 HCH x0 HAP;go_wp2_with fail;refine Calls.mono HA1.out ?_;rintro e w2 ⟨v2,rfl,hN2,hb2⟩;obtain ⟨a2,c2,rfl,_,_⟩:=hN2.shape;have hb3:=Below.alloc1 w2 (.cells #[.slice a2 D.length c2] 30);have hb23:=hb2.trans (hb3.mono hb2.size);have hB3:=hB1.trans (hb23.mono hB1.size);have HR3:Hid _:=(hb23.block _ (qh HR1.out)).trans HR1.out;clear hN2 hb2 hb3 hb23 HR1 x1 HX HA1;go_wp2_with fail
     generalize w2.alloc (.cells #[.slice a2 D.length c2] 30)=W3 at *
     refine Calls.mono (zW F W3) ?_;rintro e wr1 ⟨rfl,hbr1⟩;have HRr:Hid _:=(hbr1.block _ (qh HR3.out)).trans HR3.out;have hBr:=hB3.trans (hbr1.mono hB3.size);have r0:wr1.cell? ⟨w.heap.size,0,none⟩=some (.int .i64 0):=by rw[cH9 HRr.out];rfl
     have r1:wr1.cell? ⟨w.heap.size,1,none⟩=some (.int .i64 0):=by rw[cH9 HRr.out];rfl
     have r2:wr1.cell? ⟨w.heap.size,2,none⟩=some (.string ⟨#[]⟩):=by rw[cH9 HRr.out];rfl
     have f0:wr1.frozen? ⟨w.heap.size,0,none⟩=false:=fH9 HRr.out _;have f1:wr1.frozen? ⟨w.heap.size,1,none⟩=false:=fH9 HRr.out _;have f2:wr1.frozen? ⟨w.heap.size,2,none⟩=false:=fH9 HRr.out _;clear hbr1 HRr;go_wp2_with fail;refine bodyPost_ret (v:=.agg #[.int .i64 (F),.int .i64 0,.string ⟨#[]⟩]) (by simp[results,Tryz.results17,go_sem,qe,World.cell?_setCell_other,r0,r1,r2]) rfl ?_
     exact zB (qW _) HST.out (zM hBr (nR9 _))
    case pos =>
     subst hF0;rw[if_neg (by simp)]at HS
     rw[HS.out];have hgD:=HGD.out rfl;have HGG:Hid _:=hgD;clear HGD hgD
     go_enter Tryz.func17,Tryz.ntmps17
     go_wp2_with fail
     generalize w.alloc (.cells #[.int .i64 0,.int .i64 0,.string ⟨#[]⟩] 34)=W0 at *
     refine Calls.mono HCH.out ?_;rintro e w1 ⟨v1,rfl,hO1,hb1⟩;obtain ⟨oa,oc,rfl,_,hocm⟩:=hO1.shape;have hB1:=hb0.trans (hb1.mono hb0.size);have HR1:Hid _:=(hb1.block _ (qh HR0.out)).trans HR0.out;have x1:=HX.out w1 hB1;have HA1:Hid _:=HAP.out w1 _ hb1 hO1;have hrw0:w.heap.size<W0.heap.size:=qh HR0.out;clear hO1 hb1 HCH x0 HAP;go_wp2_with fail;refine Calls.mono HA1.out ?_;rintro e w2 ⟨v2,rfl,hN2,hb2⟩;obtain ⟨a2,c2,rfl,_,hc2⟩:=hN2.shape;have hb3:=Below.alloc1 w2 (.cells #[.slice a2 D.length c2] 30);have hb23:=hb2.trans (hb3.mono hb2.size);have hB3:=hB1.trans (hb23.mono hB1.size);have HR3:Hid _:=(hb23.block _ (qh HR1.out)).trans HR1.out;have HN3:Hid _:=qu.later hN2 hb3;have HX3:Hid _:=(hB3.block sb hsl).trans HBX.out;have x3:(w2.alloc (.cells #[.slice a2 D.length c2] 30)).cell? ⟨sb,0,none⟩=some (.slice a ns.length c):=by rw[cH9 HX3.out];rfl
     have xf3:(w2.alloc (.cells #[.slice a2 D.length c2] 30)).frozen? ⟨sb,0,none⟩=false:=fH9 HX3.out _;have HRs:Hid (((w2.alloc (.cells #[.slice a2 D.length c2] 30)).setCell ⟨sb,0,none⟩ (.slice a2 D.length c2)).heap[w.heap.size]?=_):=(qb (by omega)).trans HR3.out
     have hSw:∀ b,S b→b<w.heap.size:=fun b hb=>(HST.out.here b hb).1
     have HSW:Hid _:=hSw;have r0:((w2.alloc (.cells #[.slice a2 D.length c2] 30)).setCell ⟨sb,0,none⟩ (.slice a2 D.length c2)).cell? ⟨w.heap.size,0,none⟩=some (.int .i64 0):=by rw[cH9 HRs.out];rfl
     have r1:((w2.alloc (.cells #[.slice a2 D.length c2] 30)).setCell ⟨sb,0,none⟩ (.slice a2 D.length c2)).cell? ⟨w.heap.size,1,none⟩=some (.int .i64 0):=by rw[cH9 HRs.out];rfl
     have r2:((w2.alloc (.cells #[.slice a2 D.length c2] 30)).setCell ⟨sb,0,none⟩ (.slice a2 D.length c2)).cell? ⟨w.heap.size,2,none⟩=some (.string ⟨#[]⟩):=by rw[cH9 HRs.out];rfl
     have f0:((w2.alloc (.cells #[.slice a2 D.length c2] 30)).setCell ⟨sb,0,none⟩ (.slice a2 D.length c2)).frozen? ⟨w.heap.size,0,none⟩=false:=fH9 HRs.out _;have f1:((w2.alloc (.cells #[.slice a2 D.length c2] 30)).setCell ⟨sb,0,none⟩ (.slice a2 D.length c2)).frozen? ⟨w.heap.size,1,none⟩=false:=fH9 HRs.out _;have f2:((w2.alloc (.cells #[.slice a2 D.length c2] 30)).setCell ⟨sb,0,none⟩ (.slice a2 D.length c2)).frozen? ⟨w.heap.size,2,none⟩=false:=fH9 HRs.out _;clear hN2 hb2 hb3 hb23 HR1 x1 HX HA1 HRs HX3 hSw;go_wp2_with fail;refine bodyPost_ret (v:=.agg #[.int .i64 0,.int .i64 (L.length:Int),.string ⟨#[]⟩]) (by simp[results,Tryz.results17,go_sem,qe,World.cell?_setCell_other,r0,r1,r2]) rfl ?_
     exact YL (0,(L.length:Int),⟨#[]⟩) HST.out hB3 (fun b hb=>by rcases hb.1 with h|h;exact Or.inl h;exact Or.inr (by omega)) HN3.out hc2 HGG.out (nR9 _) (fun b hb=>by
      rcases hb.1 with h|h
      · have:=HSW.out b h;omega
      · omega)
end
section
attribute [local go_sem] qe
theorem Sto.acts {S:Nat→Prop}{w W:World}{sb n:Nat}{ns:List Nd}(h:Sto S w sb ns n)(hb:Below w.heap.size w W)(m:Nat):Sto S (W.setCell ⟨sb,1,none⟩ (.int .i64 (m:Int))) sb ns m:=by
 obtain ⟨a,c,h1,h2,h3⟩:=h.box;have hbx:W.heap[sb]?=_:=(hb.block sb (qh h1)).trans h1;refine ⟨fun b hb'=>⟨by simpa using Nat.lt_of_lt_of_le (h.here b hb').1 hb.size,(h.here b hb').2⟩,h.good,a,c,?_,?_,h3⟩
 · simp[World.setCell,Array.getElem?_modify,hbx]
 · exact h2.carry fun b hb'=>⟨hb',by rw[qb (h.here b hb').2];exact hb.block b (h.here b hb').1⟩
theorem xj {S:Nat→Prop}{sb n m R:Nat}{ns ns':List Nd}{w W1 w2:World}{rep:Rep}{e:Ending}{v0 v1 v2:Value}(h:Sto S w sb ns n)(hF1:CFr sb w W1)(hR:w.heap.size≤R)(hRl:R<W1.heap.size)(hP:jK S sb W1 rep ns' m e w2):jK S sb w rep ns' m e (JF w2 R v0 v1 v2):=by
 obtain ⟨h1,⟨S',hS',hSt⟩,hF⟩:=hP;obtain ⟨a,c,hbx,_,_⟩:=h.box;have hsl:=qh hbx;have hs1:=hF1.below.size;have hsz2:(JF w2 R v0 v1 v2).heap.size=w2.heap.size:=by unfold JF;simp
 refine ⟨h1,⟨S',fun b hb'=>?_,hSt.keep (by rw[hsz2];exact nR9 _) fun b hb'=>j7 ?_⟩,?_⟩
 · rcases hS' b hb' with h2 | h2
   · exact Or.inl h2
   · exact Or.inr (Nat.le_trans hs1 h2)
 · rcases hb' with hb' | rfl
   · rcases hS' b hb' with h2 | h2
     · have:=(h.here b h2).1;omega
     · omega
   · omega
 · refine ⟨zM (B := 0) (hF1.below.trans hF.below) (nZ9 _), fun x hx hxs => ?_⟩
   rw[j7 (by omega),hF.frame x (Nat.lt_of_lt_of_le hx hs1) hxs]
   exact hF1.frame x hx hxs
set_option linter.unusedSimpArgs false in
set_option maxHeartbeats 4000000 in
theorem XM (S T:Nat→Prop)(sb n:Nat)(ns:List Nd)(vl:Value)(a:Ac)(w0 w:World)(h:Sto S w sb ns n)(hL:Strs T w vl a.lines)(hT:∀ b,T b→b≠sb)(hE:jg w0)(hB0:Below w0.heap.size w0 w)(hsb:w0.heap.size≤sb)(hz:∀ s∈a.lines,s.size≤maxLen) :
 Calls Tryz.prog 8 #[.pointer (some ⟨sb,0,none⟩),.agg #[.int .i64 a.kind,vl]] w fun e w'=>jK S sb w (jp a ns n).1 (jp a ns n).2.1 (jp a ns n).2.2 e w':=by
 obtain ⟨la,lc,rfl,hll,hlc⟩:=hL.shape;have HST:Hid _:=h;have hb0:Below w.heap.size w ((w.alloc (.cells #[.int .i64 a.kind,.slice la a.lines.length lc] 38)).alloc (.cells #[.int .i64 0,.int .i64 0,.string ⟨#[]⟩] 34)):=(Below.alloc1 w _).alloc (by simp) _
 have HA0:Hid (((w.alloc (.cells #[.int .i64 a.kind,.slice la a.lines.length lc] 38)).alloc (.cells #[.int .i64 0,.int .i64 0,.string ⟨#[]⟩] 34)).heap[w.heap.size]?=some (.cells #[.int .i64 a.kind,.slice la a.lines.length lc] 38 (0,0))):=by
  show _=_
  rw[heap_alloc_old _ _ (by simp)];exact heap_alloc_new _ _
 have HR0:Hid (((w.alloc (.cells #[.int .i64 a.kind,.slice la a.lines.length lc] 38)).alloc (.cells #[.int .i64 0,.int .i64 0,.string ⟨#[]⟩] 34)).heap[w.heap.size+1]?=some (.cells #[.int .i64 0,.int .i64 0,.string ⟨#[]⟩] 34 (0,0))):=by
  have:=heap_alloc_new (w.alloc (.cells #[.int .i64 a.kind,.slice la a.lines.length lc] 38)) (.cells #[.int .i64 0,.int .i64 0,.string ⟨#[]⟩] 34);rw[World.size_alloc]at this
  exact this
 obtain ⟨da,dc,hbx,_,_⟩:=h.box;have hsl:=qh hbx;have HBX:Hid (((w.alloc (.cells #[.int .i64 a.kind,.slice la a.lines.length lc] 38)).alloc (.cells #[.int .i64 0,.int .i64 0,.string ⟨#[]⟩] 34)).heap[sb]?=_):=(hb0.block sb hsl).trans hbx;have x1:((w.alloc (.cells #[.int .i64 a.kind,.slice la a.lines.length lc] 38)).alloc (.cells #[.int .i64 0,.int .i64 0,.string ⟨#[]⟩] 34)).cell? ⟨sb,1,none⟩=some (.int .i64 (n:Int)):=by rw[cH9 HBX.out];rfl
 have xf1:((w.alloc (.cells #[.int .i64 a.kind,.slice la a.lines.length lc] 38)).alloc (.cells #[.int .i64 0,.int .i64 0,.string ⟨#[]⟩] 34)).frozen? ⟨sb,1,none⟩=false:=fH9 HBX.out _
 by_cases hn:100≤n
 · have hni : (100 : Int) ≤ (n : Int) := by omega
   have HS:Hid (jp a ns n=(qW 7,ns,n)):=by show _=_;unfold jp;rw[if_pos hn]
   rw[HS.out];clear h hL hE hbx
   go_enter Tryz.func8,Tryz.ntmps8
   go_wp2_with fail
   generalize ((w.alloc (.cells #[.int .i64 a.kind,.slice la a.lines.length lc] 38)).alloc (.cells #[.int .i64 0,.int .i64 0,.string ⟨#[]⟩] 34))=W0 at *
   refine Calls.mono (zW 7 W0) ?_;rintro e wr1 ⟨rfl,hbr1⟩;have HRr:Hid _:=(hbr1.block _ (qh HR0.out)).trans HR0.out;have hBr:=hb0.trans (hbr1.mono hb0.size);have r0:wr1.cell? ⟨w.heap.size+1,0,none⟩=some (.int .i64 0):=by rw[cH9 HRr.out];rfl
   have r1:wr1.cell? ⟨w.heap.size+1,1,none⟩=some (.int .i64 0):=by rw[cH9 HRr.out];rfl
   have r2:wr1.cell? ⟨w.heap.size+1,2,none⟩=some (.string ⟨#[]⟩):=by rw[cH9 HRr.out];rfl
   have f0:wr1.frozen? ⟨w.heap.size+1,0,none⟩=false:=fH9 HRr.out _;have f1:wr1.frozen? ⟨w.heap.size+1,1,none⟩=false:=fH9 HRr.out _;have f2:wr1.frozen? ⟨w.heap.size+1,2,none⟩=false:=fH9 HRr.out _;clear hbr1 HRr x1 xf1;go_wp2_with fail;refine bodyPost_ret (v:=.agg #[.int .i64 7,.int .i64 0,.string ⟨#[]⟩]) (by simp[results,Tryz.results8,go_sem,qe,World.cell?_setCell_other,r0,r1,r2]) rfl ?_
   exact zB (qW 7) HST.out (zM hBr (by omega))
 · have hni : ¬ (100 : Int) ≤ (n : Int) := by omega
   have HS:Hid (jp a ns n=((jq a ns).1,(jq a ns).2,n+1)):=by show _=_;unfold jp;rw[if_neg hn]
   rw[HS.out];have hcast:((n+1:Nat):Int)=(n:Int)+1:=by omega
   have hbA:Below (w.setCell ⟨sb,1,none⟩ (.int .i64 ((n:Int)+1))).heap.size (w.setCell ⟨sb,1,none⟩ (.int .i64 ((n:Int)+1))) (((w.setCell ⟨sb,1,none⟩ (.int .i64 ((n:Int)+1))).alloc (.cells #[.int .i64 a.kind,.slice la a.lines.length lc] 38)).alloc (.cells #[.int .i64 0,.int .i64 0,.string ⟨#[]⟩] 34)):=(Below.alloc1 _ _).alloc (by simp) _
   have hszs:(w.setCell ⟨sb,1,none⟩ (.int .i64 ((n:Int)+1))).heap.size=w.heap.size:=by simp
   have HF1:Hid (CFr sb w (((w.setCell ⟨sb,1,none⟩ (.int .i64 ((n:Int)+1))).alloc (.cells #[.int .i64 a.kind,.slice la a.lines.length lc] 38)).alloc (.cells #[.int .i64 0,.int .i64 0,.string ⟨#[]⟩] 34))):=(CFr.put sb w 1 _).trans (CFr.later hbA);have hE1:Below w0.heap.size w0 (((w.setCell ⟨sb,1,none⟩ (.int .i64 ((n:Int)+1))).alloc (.cells #[.int .i64 a.kind,.slice la a.lines.length lc] 38)).alloc (.cells #[.int .i64 0,.int .i64 0,.string ⟨#[]⟩] 34)):=(hB0.setCell (p:=⟨sb,1,none⟩) hsb _).trans (hbA.mono (by rw[hszs];exact hB0.size))
   have HSE:Hid _:=hE.later hE1;have HL1:Hid (Strs T (((w.setCell ⟨sb,1,none⟩ (.int .i64 ((n:Int)+1))).alloc (.cells #[.int .i64 a.kind,.slice la a.lines.length lc] 38)).alloc (.cells #[.int .i64 0,.int .i64 0,.string ⟨#[]⟩] 34)) (.slice la a.lines.length lc) a.lines):=Strs.later (hL.carry fun b hb=>⟨hb,qb (hT b hb)⟩) hbA
   have HS1:Hid (Sto S (((w.setCell ⟨sb,1,none⟩ (.int .i64 ((n:Int)+1))).alloc (.cells #[.int .i64 a.kind,.slice la a.lines.length lc] 38)).alloc (.cells #[.int .i64 0,.int .i64 0,.string ⟨#[]⟩] 34)) sb ns (n+1)):=by
    have:=h.acts (Below.refl _ w) (n+1);rw[hcast]at this
    exact this.later hbA
   have HA1:Hid ((((w.setCell ⟨sb,1,none⟩ (.int .i64 ((n:Int)+1))).alloc (.cells #[.int .i64 a.kind,.slice la a.lines.length lc] 38)).alloc (.cells #[.int .i64 0,.int .i64 0,.string ⟨#[]⟩] 34)).heap[w.heap.size]?=some (.cells #[.int .i64 a.kind,.slice la a.lines.length lc] 38 (0,0))):=by
    have h1:=heap_alloc_new (w.setCell ⟨sb,1,none⟩ (.int .i64 ((n:Int)+1))) (.cells #[.int .i64 a.kind,.slice la a.lines.length lc] 38);rw[hszs]at h1
    show _=_
    rw[heap_alloc_old _ _ (by simp)]
    exact h1
   have HR1:Hid ((((w.setCell ⟨sb,1,none⟩ (.int .i64 ((n:Int)+1))).alloc (.cells #[.int .i64 a.kind,.slice la a.lines.length lc] 38)).alloc (.cells #[.int .i64 0,.int .i64 0,.string ⟨#[]⟩] 34)).heap[w.heap.size+1]?=some (.cells #[.int .i64 0,.int .i64 0,.string ⟨#[]⟩] 34 (0,0))):=by
    have h1:=heap_alloc_new ((w.setCell ⟨sb,1,none⟩ (.int .i64 ((n:Int)+1))).alloc (.cells #[.int .i64 a.kind,.slice la a.lines.length lc] 38)) (.cells #[.int .i64 0,.int .i64 0,.string ⟨#[]⟩] 34);rw[World.size_alloc,hszs]at h1
    exact h1
   have hwr:IntKind.i64.wrap ((n:Int)+1)=(n:Int)+1:=IntWalk.i64_in _ (by omega)
   have y1:w.cell? ⟨sb,1,none⟩=some (.int .i64 (n:Int)):=by rw[cH9 hbx];rfl
   have yf1:w.frozen? ⟨sb,1,none⟩=false:=fH9 hbx _;have q0:(((w.setCell ⟨sb,1,none⟩ (.int .i64 ((n:Int)+1))).alloc (.cells #[.int .i64 a.kind,.slice la a.lines.length lc] 38)).alloc (.cells #[.int .i64 0,.int .i64 0,.string ⟨#[]⟩] 34)).cell? ⟨w.heap.size,0,none⟩=some (.int .i64 a.kind):=by rw[cH9 HA1.out];rfl
   have q1:(((w.setCell ⟨sb,1,none⟩ (.int .i64 ((n:Int)+1))).alloc (.cells #[.int .i64 a.kind,.slice la a.lines.length lc] 38)).alloc (.cells #[.int .i64 0,.int .i64 0,.string ⟨#[]⟩] 34)).cell? ⟨w.heap.size,1,none⟩=some (.slice la a.lines.length lc):=by rw[cH9 HA1.out];rfl
   clear hbA hszs hcast HA0 HR0 HBX x1 xf1 hb0;clear h hL hE hbx hT hE1
   by_cases hk1:a.kind=1
   · have HK : Hid (jq a ns = Zi a.lines ns) := by show _ = _;unfold jq;rw[if_pos hk1]
     have HCL:Hid _:=qdf S T sb (n+1) ns _ a.lines _ HS1.out HL1.out HSE.out hz;rw[HK.out];obtain ⟨rep,D,hrd⟩:∃ rep D,Zi a.lines ns=(rep,D):=⟨_,_,rfl⟩;rw[hrd]at HCL ⊢
     clear hrd HK;rw[hk1]at q0 HF1 HL1 HS1 HA1 HR1 HSE HCL q1
     have HK1:Hid _:=hk1;rw[HK1.out];simp only at HCL
     go_enter Tryz.func8,Tryz.ntmps8
     go_wp2_with fail
     generalize (((w.setCell ⟨sb,1,none⟩ (.int .i64 ((n:Int)+1))).alloc (.cells #[.int .i64 1,.slice la a.lines.length lc] 38)).alloc (.cells #[.int .i64 0,.int .i64 0,.string ⟨#[]⟩] 34))=W1 at *
     refine Calls.mono HCL.out ?_;rintro e w2 hP;obtain ⟨rfl,hSt,hF⟩:=hP;have HPP:Hid (jK S sb W1 rep D (n+1) _ w2):=⟨rfl,hSt,hF⟩;have HRr:Hid (w2.heap[w.heap.size+1]?=_):=(hF.frame _ (qh HR1.out) (by omega)).trans HR1.out
     have r0:w2.cell? ⟨w.heap.size+1,0,none⟩=some (.int .i64 0):=by rw[cH9 HRr.out];rfl
     have r1:w2.cell? ⟨w.heap.size+1,1,none⟩=some (.int .i64 0):=by rw[cH9 HRr.out];rfl
     have r2:w2.cell? ⟨w.heap.size+1,2,none⟩=some (.string ⟨#[]⟩):=by rw[cH9 HRr.out];rfl
     have f0:w2.frozen? ⟨w.heap.size+1,0,none⟩=false:=fH9 HRr.out _;have f1:w2.frozen? ⟨w.heap.size+1,1,none⟩=false:=fH9 HRr.out _;have f2:w2.frozen? ⟨w.heap.size+1,2,none⟩=false:=fH9 HRr.out _;clear hSt hF HRr;go_wp2_with fail;refine bodyPost_ret (v:=.agg #[.int .i64 rep.1,.int .i64 rep.2.1,.string rep.2.2]) (by simp[results,Tryz.results8,go_sem,qe,World.cell?_setCell_other,r0,r1,r2]) rfl ?_
     exact xj HST.out HF1.out (by omega) (qh HR1.out) HPP.out
   · have hk1b : (a.kind == 1) = false := by simpa using hk1
     by_cases hk2:a.kind=2
     · have HK : Hid (jq a ns = yb a.lines ns) := by show _ = _;unfold jq;rw[if_neg hk1, if_pos hk2]
       have HCL:Hid _:=qbk S T sb (n+1) ns _ a.lines _ HS1.out HL1.out HSE.out hz;rw[HK.out];obtain ⟨rep,D,hrd⟩:∃ rep D,yb a.lines ns=(rep,D):=⟨_,_,rfl⟩;rw[hrd]at HCL ⊢
       clear hrd HK hk1 hk1b;rw[hk2]at q0 HF1 HL1 HS1 HA1 HR1 HSE HCL q1
       have HK1:Hid _:=hk2;rw[HK1.out];simp only at HCL
       go_enter Tryz.func8,Tryz.ntmps8
       go_wp2_with fail
       generalize (((w.setCell ⟨sb,1,none⟩ (.int .i64 ((n:Int)+1))).alloc (.cells #[.int .i64 2,.slice la a.lines.length lc] 38)).alloc (.cells #[.int .i64 0,.int .i64 0,.string ⟨#[]⟩] 34))=W1 at *
       refine Calls.mono HCL.out ?_;rintro e w2 hP;obtain ⟨rfl,hSt,hF⟩:=hP;have HPP:Hid (jK S sb W1 rep D (n+1) _ w2):=⟨rfl,hSt,hF⟩;have HRr:Hid (w2.heap[w.heap.size+1]?=_):=(hF.frame _ (qh HR1.out) (by omega)).trans HR1.out
       have r0:w2.cell? ⟨w.heap.size+1,0,none⟩=some (.int .i64 0):=by rw[cH9 HRr.out];rfl
       have r1:w2.cell? ⟨w.heap.size+1,1,none⟩=some (.int .i64 0):=by rw[cH9 HRr.out];rfl
       have r2:w2.cell? ⟨w.heap.size+1,2,none⟩=some (.string ⟨#[]⟩):=by rw[cH9 HRr.out];rfl
       have f0:w2.frozen? ⟨w.heap.size+1,0,none⟩=false:=fH9 HRr.out _;have f1:w2.frozen? ⟨w.heap.size+1,1,none⟩=false:=fH9 HRr.out _;have f2:w2.frozen? ⟨w.heap.size+1,2,none⟩=false:=fH9 HRr.out _;clear hSt hF HRr;go_wp2_with fail;refine bodyPost_ret (v:=.agg #[.int .i64 rep.1,.int .i64 rep.2.1,.string rep.2.2]) (by simp[results,Tryz.results8,go_sem,qe,World.cell?_setCell_other,r0,r1,r2]) rfl ?_
       exact xj HST.out HF1.out (by omega) (qh HR1.out) HPP.out
     · have hk2b : (a.kind == 2) = false := by simpa using hk2
       by_cases hk3:a.kind=3
       · have HK : Hid (jq a ns = (Z4 ns, ns)) := by show _ = _;unfold jq;rw[if_neg hk1, if_neg hk2, if_pos hk3]
         have HCL:Hid _:=qdE S sb (n+1) ns _ HS1.out HSE.out;rw[HK.out];obtain ⟨rep,hrd⟩:∃ rep,Z4 ns=rep:=⟨_,rfl⟩;obtain ⟨D,hDD⟩:∃ D,ns=D:=⟨_,rfl⟩;rw[hrd]at HCL ⊢
         clear hrd HK hk1 hk1b hk2 hk2b;rw[hk3]at q0 HF1 HL1 HS1 HA1 HR1 HSE HCL q1
         have HK1:Hid _:=hk3;rw[HK1.out];subst hDD
         go_enter Tryz.func8,Tryz.ntmps8
         go_wp2_with fail
         generalize (((w.setCell ⟨sb,1,none⟩ (.int .i64 ((n:Int)+1))).alloc (.cells #[.int .i64 3,.slice la a.lines.length lc] 38)).alloc (.cells #[.int .i64 0,.int .i64 0,.string ⟨#[]⟩] 34))=W1 at *
         refine Calls.mono HCL.out ?_;rintro e w2 hP;obtain ⟨rfl,hSt,hF⟩:=hP;have HPP:Hid (jK S sb W1 rep ns (n+1) _ w2):=⟨rfl,hSt,hF⟩;have HRr:Hid (w2.heap[w.heap.size+1]?=_):=(hF.frame _ (qh HR1.out) (by omega)).trans HR1.out
         have r0:w2.cell? ⟨w.heap.size+1,0,none⟩=some (.int .i64 0):=by rw[cH9 HRr.out];rfl
         have r1:w2.cell? ⟨w.heap.size+1,1,none⟩=some (.int .i64 0):=by rw[cH9 HRr.out];rfl
         have r2:w2.cell? ⟨w.heap.size+1,2,none⟩=some (.string ⟨#[]⟩):=by rw[cH9 HRr.out];rfl
         have f0:w2.frozen? ⟨w.heap.size+1,0,none⟩=false:=fH9 HRr.out _;have f1:w2.frozen? ⟨w.heap.size+1,1,none⟩=false:=fH9 HRr.out _;have f2:w2.frozen? ⟨w.heap.size+1,2,none⟩=false:=fH9 HRr.out _;clear hSt hF HRr;go_wp2_with fail;refine bodyPost_ret (v:=.agg #[.int .i64 rep.1,.int .i64 rep.2.1,.string rep.2.2]) (by simp[results,Tryz.results8,go_sem,qe,World.cell?_setCell_other,r0,r1,r2]) rfl ?_
         exact xj HST.out HF1.out (by omega) (qh HR1.out) HPP.out
       · have hk3b : (a.kind == 3) = false := by simpa using hk3
         have HK:Hid (jq a ns=(qW 4,ns)):=by show _=_;unfold jq;rw[if_neg hk1,if_neg hk2,if_neg hk3]
         rw[HK.out];clear HK hk1 hk2 hk3
         go_enter Tryz.func8,Tryz.ntmps8
         go_wp2_with fail
         generalize (((w.setCell ⟨sb,1,none⟩ (.int .i64 ((n:Int)+1))).alloc (.cells #[.int .i64 a.kind,.slice la a.lines.length lc] 38)).alloc (.cells #[.int .i64 0,.int .i64 0,.string ⟨#[]⟩] 34))=W1 at *
         refine Calls.mono (zW 4 _) ?_;rintro e w2 ⟨rfl,hbr⟩;have hP:jK S sb W1 (qW 4) ns (n+1) (.returned (.agg #[.int .i64 4,.int .i64 0,.string ⟨#[]⟩])) w2:=zB (qW 4) HS1.out hbr;have HPP:Hid _:=hP;have HRr:Hid (w2.heap[w.heap.size+1]?=_):=(hbr.block _ (qh HR1.out)).trans HR1.out;have r0:w2.cell? ⟨w.heap.size+1,0,none⟩=some (.int .i64 0):=by rw[cH9 HRr.out];rfl
         have r1:w2.cell? ⟨w.heap.size+1,1,none⟩=some (.int .i64 0):=by rw[cH9 HRr.out];rfl
         have r2:w2.cell? ⟨w.heap.size+1,2,none⟩=some (.string ⟨#[]⟩):=by rw[cH9 HRr.out];rfl
         have f0:w2.frozen? ⟨w.heap.size+1,0,none⟩=false:=fH9 HRr.out _;have f1:w2.frozen? ⟨w.heap.size+1,1,none⟩=false:=fH9 HRr.out _;have f2:w2.frozen? ⟨w.heap.size+1,2,none⟩=false:=fH9 HRr.out _;clear hbr HRr hP;go_wp2_with fail;refine bodyPost_ret (v:=.agg #[.int .i64 4,.int .i64 0,.string ⟨#[]⟩]) (by simp[results,Tryz.results8,go_sem,qe,World.cell?_setCell_other,r0,r1,r2]) rfl ?_
         exact xj HST.out HF1.out (by omega) (qh HR1.out) HPP.out
theorem new_make:yA 0 ⟨false,⟨#[100,111,99]⟩,[],[]⟩=newD∧Qf ⟨false,⟨#[100,111,99]⟩,[],[]⟩=0∧qp newD=true:=by
 refine ⟨?_,?_,?_⟩<;>kernel_rfl
set_option maxHeartbeats 1000000 in
theorem qaX (w:World) :
 Calls Tryz.prog 11 #[] w fun e w'=>∃ (sb:Nat) (S:Nat→Prop),e=.returned (.pointer (some ⟨sb,0,none⟩))∧w.heap.size≤sb∧sb<w'.heap.size∧(∀ b,S b→w.heap.size≤b)∧Sto S w' sb newD 0∧Below w.heap.size w w':=by
 obtain ⟨e1,e2,e3⟩:=new_make
 have HM:Hid _:=Y2 (fun _=>False) 0 (.slice none 0 0) (.slice none 0 0) ⟨false,⟨#[100,111,99]⟩,[],[]⟩ w qk.nil ⟨rfl,none,0,rfl,nZ9 _⟩ (by
  intro t ht;rw[List.mem_singleton.1 ht];exact ⟨⟨by show 3≤maxLen;unfold maxLen;omega,by intro y hy;cases hy⟩,trivial⟩) (fun _ h=>h.elim)
 rw[e1,e2]at HM
 have HG:Hid _:=e3;clear e1 e2 e3
 go_enter Tryz.func11,Tryz.ntmps11
 go_wp2_with fail;refine Calls.mono HM.out ?_;rintro e w1 ⟨v1,rfl,hN1,hb1⟩;obtain ⟨a1,c1,rfl,_,hc1⟩:=hN1.shape;have hb2:=Below.alloc1 w1 (.cells #[.slice a1 newD.length c1] 30);have hb12:=hb1.trans (hb2.mono hb1.size);have HN2:Hid _:=qu.later hN1.bounded hb2;clear hN1 HM;go_wp2_with fail;go_ret;have hb3:=Below.alloc1 (w1.alloc (.cells #[.slice a1 newD.length c1] 30)) (.cells #[.slice a1 newD.length c1,.int .i64 0] 49);have hs1:=hb1.size;refine ⟨w1.heap.size+1,fun b=>w.heap.size≤b∧b<w1.heap.size,rfl,by omega,by simp,fun b hb=>hb.1,⟨fun b hb=>⟨by simp;omega,by omega⟩,HG.out,a1,c1,?_,?_,hc1⟩,hb12.trans (hb3.mono hb12.size)⟩
 · have := heap_alloc_new (w1.alloc (.cells #[.slice a1 newD.length c1] 30)) (.cells #[.slice a1 newD.length c1, .int .i64 0] 49);rw[World.size_alloc]at this
   exact this
 · exact qu.later HN2.out hb3
end
end Go.Proofs.YtecimajafhoibaaGreatDoor
namespace Go.Proofs.YtecimajafhoibaaGreatDoor
open Go.RowKit
set_option maxRecDepth 100000
def aliveL1:ByteArray:=⟨#[108,97,115,116,32,47,100,111,99,32,60,97,62,120,60,47,97,62]⟩
def aliveL2:ByteArray:=⟨#[115,101,116,32,47,100,111,99,32,107,61,118]⟩
def aliveT:ByteArray:=⟨#[60,100,111,99,32,107,61,34,118,34,62,60,97,62,120,60,47,97,62,60,47,100,111,99,62]⟩
def aliveD:List Nd:=[⟨false,⟨#[100,111,99]⟩,[(⟨#[107]⟩,⟨#[118]⟩)],-1,[1]⟩,⟨false,⟨#[97]⟩,[],0,[2]⟩,⟨true,⟨#[120]⟩,[],1,[]⟩]
theorem alive_one:jp ⟨2,[aliveL1,aliveL2]⟩ newD 0=((0,2,⟨#[]⟩),aliveD,1):=by kernel_rfl
theorem alive_two:jp ⟨3,[]⟩ aliveD 1=((0,3,aliveT),aliveD,2):=by kernel_rfl
end Go.Proofs.YtecimajafhoibaaGreatDoor
namespace Go.Proofs.YtecimajafhoibaaGreatDoor
open Go.ChangeShapes Go.WideShapes Go.ChangeAt Go.RowKit
set_option maxRecDepth 100000
section
attribute [local go_sem] qe
theorem Km (w:World):Strs (fun b=>b=w.heap.size) (w.alloc (.cells #[.string ⟨#[108,97,115,116,32,47,100,111,99,32,60,97,62,120,60,47,97,62]⟩,.string ⟨#[115,101,116,32,47,100,111,99,32,107,61,118]⟩] 9)) (.slice (some ⟨w.heap.size,0,none⟩) 2 2) [aliveL1,aliveL2]:=by
 have hh:=heap_alloc_new w (.cells #[.string ⟨#[108,97,115,116,32,47,100,111,99,32,60,97,62,120,60,47,97,62]⟩,.string ⟨#[115,101,116,32,47,100,111,99,32,107,61,118]⟩] 9);refine ⟨_,2,rfl,nR9 _,by unfold maxLen;omega,fun _=>⟨w.heap.size,0,rfl,rfl,fun i x hx=>?_⟩⟩
 match i,hx with
 | 0,hx=>simp at hx;subst hx;rw[cH9 hh];rfl
 | 1,hx=>simp at hx;subst hx;rw[cH9 hh];rfl
 | i+2,hx=>simp at hx
theorem xG {sb:Nat}{w0 w w':World}(h:Below w0.heap.size w0 w)(hF:CFr sb w w')(hs:w0.heap.size≤sb):Below w0.heap.size w0 w' :=
 ⟨hF.below.os.trans h.os,hF.below.tape.trans h.tape,hF.below.output.trans h.output,Nat.le_trans h.size hF.below.size,fun k hk=>(hF.frame k (Nat.lt_of_lt_of_le hk h.size) (by omega)).trans (h.block k hk)⟩
set_option linter.unusedSimpArgs false in
set_option maxHeartbeats 2000000 in
theorem qbh (w:World)(hE:jg w):Calls Tryz.prog 10 #[] w fun e w'=>e=.returned (.bool true)∧Below w.heap.size w w':=by
 have HE:Hid _:=hE;clear hE
 go_enter Tryz.func10,Tryz.ntmps10
 go_wp2_with fail;refine Calls.mono (qaX w) ?_;rintro e w1 ⟨sb,S,rfl,hsb,hsl,hSw,hSt,hb1⟩;have hpn:(Value.pointer (some ⟨sb,0,none⟩)=Value.pointer none)=False:=by simp
 have HD1:Hid _:=XM S (fun b=>b=w1.heap.size) sb 0 newD _ ⟨2,[aliveL1,aliveL2]⟩ w (w1.alloc (.cells #[.string ⟨#[108,97,115,116,32,47,100,111,99,32,60,97,62,120,60,47,97,62]⟩,.string ⟨#[115,101,116,32,47,100,111,99,32,107,61,118]⟩] 9)) (hSt.later (Below.alloc1 w1 _)) (Km w1) (fun b hb=>by omega) HE.out (hb1.alloc hb1.size _) hsb (by
  intro s hs;simp only[List.mem_cons,List.not_mem_nil,or_false]at hs
  rcases hs with rfl|rfl
  · show 18≤maxLen;unfold maxLen;omega
  · show 12≤maxLen;unfold maxLen;omega)
 rw[alive_one]at HD1
 simp only at HD1
 have hbA:Below w.heap.size w (w1.alloc (.cells #[.string ⟨#[108,97,115,116,32,47,100,111,99,32,60,97,62,120,60,47,97,62]⟩,.string ⟨#[115,101,116,32,47,100,111,99,32,107,61,118]⟩] 9)):=hb1.alloc hb1.size _;have hs12:w1.heap.size≤(w1.alloc (.cells #[.string ⟨#[108,97,115,116,32,47,100,111,99,32,60,97,62,120,60,47,97,62]⟩,.string ⟨#[115,101,116,32,47,100,111,99,32,107,61,118]⟩] 9)).heap.size:=by simp
 clear hSt hb1;go_wp2_with fail
 generalize w1.alloc (.cells #[.string ⟨#[108,97,115,116,32,47,100,111,99,32,60,97,62,120,60,47,97,62]⟩,.string ⟨#[115,101,116,32,47,100,111,99,32,107,61,118]⟩] 9)=W2 at *
 refine Calls.mono HD1.out ?_;rintro e w3 ⟨rfl,⟨S3,hS3,hSt3⟩,hF3⟩;have hB3:=xG hbA hF3 hsb;have hs13:w1.heap.size≤w3.heap.size:=Nat.le_trans hs12 hF3.below.size;have hb4:=Below.alloc1 w3 (.cells #[.int .i64 0,.int .i64 2,.string ⟨#[]⟩] 34);have hB4:=hB3.trans (hb4.mono hB3.size);have HR4:Hid _:=heap_alloc_new w3 (.cells #[.int .i64 0,.int .i64 2,.string ⟨#[]⟩] 34);have HD2:Hid _:=XM S3 (fun _=>False) sb 1 aliveD (.slice none 0 0) ⟨3,[]⟩ w (w3.alloc (.cells #[.int .i64 0,.int .i64 2,.string ⟨#[]⟩] 34)) (hSt3.later hb4) Strs.nil (fun _ h=>h.elim) HE.out hB4 hsb (by intro s hs;cases hs)
 rw[alive_two]at HD2
 simp only[aliveT]at HD2
 clear HD1 hSt3 hF3 hb4 hbA;go_wp2_with fail
 generalize w3.alloc (.cells #[.int .i64 0,.int .i64 2,.string ⟨#[]⟩] 34)=W4 at *
 refine Calls.mono HD2.out ?_;rintro e w5 ⟨rfl,⟨S5,hS5,hSt5⟩,hF5⟩;have hB5:=xG hB4 hF5 hsb;have hb6:=Below.alloc1 w5 (.cells #[.int .i64 0,.int .i64 3,.string ⟨#[60,100,111,99,32,107,61,34,118,34,62,60,97,62,120,60,47,97,62,60,47,100,111,99,62]⟩] 34);have hB6:=hB5.trans (hb6.mono hB5.size);have hne:w3.heap.size≠sb:=by omega
 have HR6:Hid _:=(hb6.block _ (Nat.lt_of_lt_of_le (qh HR4.out) hF5.below.size)).trans ((hF5.frame _ (qh HR4.out) hne).trans HR4.out);have HQ6:Hid _:=heap_alloc_new w5 (.cells #[.int .i64 0,.int .i64 3,.string ⟨#[60,100,111,99,32,107,61,34,118,34,62,60,97,62,120,60,47,97,62,60,47,100,111,99,62]⟩] 34);have r0:(w5.alloc (.cells #[.int .i64 0,.int .i64 3,.string ⟨#[60,100,111,99,32,107,61,34,118,34,62,60,97,62,120,60,47,97,62,60,47,100,111,99,62]⟩] 34)).cell? ⟨w3.heap.size,0,none⟩=some (.int .i64 0):=by rw[cH9 HR6.out];rfl
 have r1:(w5.alloc (.cells #[.int .i64 0,.int .i64 3,.string ⟨#[60,100,111,99,32,107,61,34,118,34,62,60,97,62,120,60,47,97,62,60,47,100,111,99,62]⟩] 34)).cell? ⟨w3.heap.size,1,none⟩=some (.int .i64 2):=by rw[cH9 HR6.out];rfl
 have HDC:Hid _:=XN S5 sb 2 aliveD _ (hSt5.later hb6);clear HD2 hSt5 hF5 hb6 HR6;go_wp2_with fail;refine Calls.mono HDC.out ?_;rintro e w7 ⟨v7,rfl,hN7,hb7⟩;obtain ⟨a7,c7,rfl,_,_⟩:=hN7.shape;have hB7:=hB6.trans (hb7.mono hB6.size)
 have hfd:(Instr.field 30 (.agg #[.slice a7 aliveD.length c7]) 0).run Tryz.prog w7=.ok (.slice a7 aliveD.length c7) w7:=by
  simp[Instr.field,part,asAgg,go_sem]
 have hl3:aliveD.length=3:=rfl;rw[hl3]at hfd ⊢
 clear hN7 hb7 HDC;go_wp2_with fail;go_ret;exact ⟨rfl,hB7⟩
end
section
attribute [local go_sem] qe
def ZL (S:Nat→Prop)(w:World)(v:Value)(l:List Ac):Prop :=
  ∃ a cap, v = .slice a l.length cap ∧ l.length ≤ cap ∧ cap ≤ maxLen ∧
    (l≠[]→∃ b o,a=some ⟨b,o,none⟩∧S b∧∀ (i:Nat) (x:Ac),l[i]?=some x→∃ vs,w.cell? ⟨b,o+i*2,none⟩=some (.int .i64 x.kind)∧w.cell? ⟨b,o+i*2+1,none⟩=some vs∧Strs S w vs x.lines)
theorem ZL.carry {S S':Nat→Prop}{w w':World}{v:Value}{l:List Ac}(h:ZL S w v l)(hw:∀ b,S b→S' b∧w'.heap[b]?=w.heap[b]?):ZL S' w' v l:=by
 obtain ⟨a,cap,h1,h2,h3,h4⟩:=h;refine ⟨a,cap,h1,h2,h3,fun hne=>?_⟩
 obtain ⟨b,o,ha,hs,hc⟩:=h4 hne;refine ⟨b,o,ha,(hw b hs).1,fun i x hx=>?_⟩
 obtain ⟨vs,c0,c1,hS⟩:=hc i x hx;refine ⟨vs,?_,?_,hS.carry hw⟩
 · rw[World.cell?_of_block (a:=⟨b,o+i*2,none⟩) (hw b hs).2];exact c0
 · rw[World.cell?_of_block (a:=⟨b,o+i*2+1,none⟩) (hw b hs).2];exact c1
theorem ZL.shape {S:Nat→Prop}{w:World}{v:Value}{l:List Ac}(h:ZL S w v l):∃ a c,v=.slice a l.length c∧l.length≤c∧c≤maxLen:=by
 obtain ⟨a,cap,h1,h2,h3,_⟩:=h;exact ⟨a,cap,h1,h2,h3⟩
theorem ZL.at {S:Nat→Prop}{w:World}{v:Value}{l:List Ac}(h:ZL S w v l){i:Nat}{x:Ac}(hx:l[i]?=some x):∃ b o cap vs,v=.slice (some ⟨b,o,none⟩) l.length cap∧S b∧b<w.heap.size∧w.cell? ⟨b,o+i*2,none⟩=some (.int .i64 x.kind)∧w.cell? ⟨b,o+i*2+1,none⟩=some vs∧Strs S w vs x.lines:=by
 obtain ⟨a,cap,h1,h2,h3,h4⟩:=h;obtain ⟨b,o,rfl,hs,hc⟩:=h4 (by intro e;subst e;simp at hx)
 obtain ⟨vs,c0,c1,hS⟩:=hc i x hx;exact ⟨b,o,cap,vs,h1,hs,World.block_lt_of_cell? w _ c0,c0,c1,hS⟩
def XC (l:List Ac):Prop:=∀ x∈l,∀ s∈x.lines,s.size≤maxLen
def zm (l:List Ac):List Nd × Nat:=l.foldl (fun p a=>((jp a p.1 p.2).2.1,(jp a p.1 p.2).2.2)) (newD,0)
theorem qdz {l:List Ac}{i:Nat}{a:Ac}(h:l[i]?=some a):zm (l.take (i+1))=((jp a (zm (l.take i)).1 (zm (l.take i)).2).2.1,(jp a (zm (l.take i)).1 (zm (l.take i)).2).2.2):=by
 have hi:=qd h;have e:l[i]=a:=by simpa[hi] using h
 unfold zm;rw[List.take_succ_eq_append_getElem hi,e,List.foldl_append];rfl
def qcq (fm:Nat)(w:World)(S0:Nat→Prop)(l:List Ac):Prop :=
  ∀ (S : Nat → Prop) (sb i : Nat) (a : Ac) (vd vs : Value) (W : World), l[i]? = some a → i < 50 → Below w.heap.size w W → w.heap.size ≤ sb → (∀ b, S b → w.heap.size ≤ b) → Sto S W sb (zm (l.take (i + 1))).1 (zm (l.take (i + 1))).2 → qu (fun b => w.heap.size ≤ b ∧ b ≠ sb) W vd (zm (l.take i)).1 → qp (zm (l.take i)).1 = true → Strs S0 W vs a.lines →
    Calls Tryz.prog fm #[.pointer (some ⟨sb,0,none⟩),.agg #[vd],.agg #[.int .i64 a.kind,vs],.agg #[.int .i64 (jp a (zm (l.take i)).1 (zm (l.take i)).2).1.1,.int .i64 (jp a (zm (l.take i)).1 (zm (l.take i)).2).1.2.1,.string (jp a (zm (l.take i)).1 (zm (l.take i)).2).1.2.2]] W fun e w'=>e=.returned (.bool true)∧Below W.heap.size W w'
def Ki (w:World)(l:List Ac)(e:Ending)(w':World):Prop :=
 ∃ (sb:Nat) (S:Nat→Prop),e=.returned (.tuple #[.pointer (some ⟨sb,0,none⟩),.bool true])∧w.heap.size≤sb∧(∀ b,S b→w.heap.size≤b)∧Sto S w' sb (zm (l.take 50)).1 (zm (l.take 50)).2∧Below w.heap.size w w'
set_option linter.unusedSimpArgs false in
set_option maxHeartbeats 2000000 in
theorem qdu (fm:Nat)(eg:∀ args w,(callFunc fm args).run Tryz.prog w=.ok (.enter fm args) w)(S0:Nat→Prop)(vl:Value)(l:List Ac)(w:World)(hL:ZL S0 w vl l)(hS0:∀ b,S0 b→b<w.heap.size)(hz:XC l)(hE:jg w)(hlook:qcq fm w S0 l) :
 Calls Tryz.prog 4 #[vl,.func (.func fm) #[] #[]] w fun e w'=>Ki w l e w':=by
 obtain ⟨la,lc,rfl,hll,hlc⟩:=hL.shape;have HL:Hid (ZL S0 w (.slice la l.length lc) l):=hL;have HE:Hid _:=hE;have HLK:Hid _:=hlook;have HZ:Hid _:=hz;have HS0:Hid _:=hS0;unfold maxLen at hlc
 clear hL hE hlook hz hS0
 go_enter Tryz.func4,Tryz.ntmps4
 go_wp2_with fail;refine Calls.mono (qbh w HE.out) ?_;rintro e w1 ⟨rfl,hb1⟩;go_wp2_with fail;refine Calls.mono (qaX w1) ?_;rintro e w2 ⟨sb,S2,rfl,hsb2,hsl2,hSw2,hSt2,hb2⟩;have hsb:w.heap.size≤sb:=Nat.le_trans hb1.size hsb2;have HI0:Hid (∃ S:Nat→Prop,(∀ b,S b→w.heap.size≤b)∧Sto S w2 sb (zm (l.take 0)).1 (zm (l.take 0)).2∧Below w.heap.size w w2):=⟨S2,fun b hb=>Nat.le_trans hb1.size (hSw2 b hb),hSt2,hb1.trans (hb2.mono hb1.size)⟩
 clear hsb2 hsl2 hSw2 hSt2 hb2 hb1;go_wp2_with fail
 go_loopg [7] (min l.length 50) (fun g vi wr=>∃ i:Nat,i+g=min l.length 50∧vi=.int .i64 (i:Int)∧∃ S:Nat→Prop,(∀ b,S b→w.heap.size≤b)∧Sto S wr sb (zm (l.take i)).1 (zm (l.take i)).2∧Below w.heap.size w wr)
 case atStart => exact ⟨0,by omega,rfl,HI0.out⟩
 case round =>
  clear HI0;obtain ⟨i,hig,rfl,S,hSw,hSt,hB⟩:=hrel;have HSW:Hid _:=hSw;have HST:Hid _:=hSt;clear hSw hSt
  by_cases hil:i<l.length
  · have hili : (i : Int) < (l.length : Int) := by omega
    by_cases hi50:i<50
    · have hi5i : (i : Int) < 50 := by omega
      obtain ⟨a,ha⟩:∃ a,l[i]?=some a:=⟨l[i],by simp[hil]⟩
      have HAA:Hid _:=ha;have HLB:Hid (∀ W,Below w.heap.size w W→ZL S0 W (.slice la l.length lc) l):=fun W hW=>HL.out.carry fun b hb=>⟨hb,hW.block b (HS0.out b hb)⟩
      obtain ⟨lb,lo,lc2,vs,hlv,hSb,hlbl,c0,c1,hstr⟩:=(HLB.out wr hB).at ha
      injection hlv with hla hll2 hlc2
      subst hla hlc2;obtain ⟨sa,sc,rfl,_,_⟩:=hstr.shape;have hlbw:lb<w.heap.size:=HS0.out lb hSb
      have HSB:Hid (∀ W,Below w.heap.size w W→Strs S0 W (.slice sa a.lines.length sc) a.lines∧W.cell? ⟨lb,lo+i*2,none⟩=some (.int .i64 a.kind)∧W.cell? ⟨lb,lo+i*2+1,none⟩=some (.slice sa a.lines.length sc)):=by
       intro W hW;have hc0:W.heap[lb]?=wr.heap[lb]?:=(hW.block lb hlbw).trans (hB.block lb hlbw).symm;refine ⟨hstr.carry fun b hb=>⟨hb,(hW.block b (HS0.out b hb)).trans (hB.block b (HS0.out b hb)).symm⟩,?_,?_⟩
       · rw[World.cell?_of_block (a:=⟨lb,lo+i*2,none⟩) hc0];exact c0
       · rw[World.cell?_of_block (a:=⟨lb,lo+i*2+1,none⟩) hc0];exact c1
      have HSN:Hid _:=qdz ha;have HLO:Hid _:=fun S' vd W=>HLK.out S' sb i a vd (.slice sa a.lines.length sc) W ha hi50
      have hza:=HZ.out a (List.mem_of_getElem? ha);have HGD:Hid _:=HST.out.good
      generalize hP0:zm (l.take i)=P0 at *
      generalize hP1:zm (l.take (i+1))=P1 at *
      obtain ⟨ns0,n0⟩:=P0;simp only at HST HSN HLO HGD
      have HDC:Hid _:=XN S sb n0 ns0 wr HST.out;clear hstr ha hll2 c0 c1;go_wp2_with fail;refine Calls.mono HDC.out ?_;rintro e w3 ⟨v3,rfl,hN3,hb3⟩;obtain ⟨a3,c3,rfl,_,hc3⟩:=hN3.shape;have hb4:=Below.alloc1 w3 (.cells #[.slice a3 ns0.length c3] 30);have hb34:=hb3.trans (hb4.mono hb3.size);have hB4:=hB.trans (hb34.mono hB.size);have HW4:Hid _:=heap_alloc_new w3 (.cells #[.slice a3 ns0.length c3] 30);obtain ⟨q0,q1,q2⟩:=HSB.out _ hB4;obtain ⟨_,_,hbx,_,_⟩:=HST.out.box;have hsbl:=qh hbx;have HDO:Hid _:=XM S S0 sb n0 ns0 _ a w _ (HST.out.later hb34) q0 (fun b hb=>by have:=HS0.out b hb;omega) HE.out hB4 hsb hza
      have HN4:Hid _:=qu.later hN3 hb4;have hsz4:wr.heap.size≤(w3.alloc (.cells #[.slice a3 ns0.length c3] 30)).heap.size:=hb34.size;have hsz3:wr.heap.size≤w3.heap.size:=hb3.size;obtain ⟨rep,ns1,n1,hrd⟩:∃ rep ns1 n1,jp a ns0 n0=(rep,ns1,n1):=⟨_,_,_,rfl⟩;rw[hrd]at HDO HSN HLO
      simp only at HDO HSN HLO
      clear hN3 hb3 hb4 hb34 q0 hbx HDC hrd hza;go_wp2_with fail
      generalize w3.alloc (.cells #[.slice a3 ns0.length c3] 30)=W4 at *
      refine Calls.mono HDO.out ?_;rintro e w5 ⟨rfl,⟨S5,hS5,hSt5⟩,hF5⟩;have hB5:=xG hB4 hF5 hsb;have hb6:=Below.alloc1 w5 (.cells #[.int .i64 rep.1,.int .i64 rep.2.1,.string rep.2.2] 34);have hB6:=hB5.trans (hb6.mono hB5.size)
      have hSw5:∀ b,S5 b→w.heap.size≤b:=fun b hb=>by
       rcases hS5 b hb with h|h
       · exact HSW.out b h
       · have:=hB.size;omega
      have HW6:Hid _:=(hb6.block _ (Nat.lt_of_lt_of_le (qh HW4.out) hF5.below.size)).trans ((hF5.frame _ (qh HW4.out) (by omega)).trans HW4.out)
      have HR6:Hid _:=heap_alloc_new w5 (.cells #[.int .i64 rep.1,.int .i64 rep.2.1,.string rep.2.2] 34);have HN6:Hid (qu (fun b=>w.heap.size≤b∧b≠sb) (w5.alloc (.cells #[.int .i64 rep.1,.int .i64 rep.2.1,.string rep.2.2] 34)) (.slice a3 ns0.length c3) ns0):=qu.later ((qu.bounded HN4.out).carry fun b hb=>⟨⟨Nat.le_trans hB.size hb.1,by omega⟩,hF5.frame b hb.2 (by omega)⟩) hb6
      have HS6:Hid _:=hSt5.later hb6
      have HLK6:Hid (∀ W,Below (w5.alloc (.cells #[.int .i64 rep.1,.int .i64 rep.2.1,.string rep.2.2] 34)).heap.size (w5.alloc (.cells #[.int .i64 rep.1,.int .i64 rep.2.1,.string rep.2.2] 34)) W→Calls Tryz.prog fm #[.pointer (some ⟨sb,0,none⟩),.agg #[.slice a3 ns0.length c3],.agg #[.int .i64 a.kind,.slice sa a.lines.length sc],.agg #[.int .i64 rep.1,.int .i64 rep.2.1,.string rep.2.2]] W fun e w'=>∃ v',e=.returned v'∧v'=.bool true∧Below W.heap.size W w'):=by
       intro W hW;have hBW:=hB6.trans (hW.mono hB6.size);refine (HLO.out S5 (.slice a3 ns0.length c3) W hBW hsb hSw5 ?_ (qu.later HN6.out hW) HGD.out (HSB.out W hBW).1).mono ?_
       · rw[HSN.out];exact HS6.out.later hW
       · rintro e w' ⟨rfl, hb⟩;exact ⟨_,rfl,rfl,hb⟩
      have HC:Hid (∀ W,Below (w5.alloc (.cells #[.int .i64 rep.1,.int .i64 rep.2.1,.string rep.2.2] 34)).heap.size (w5.alloc (.cells #[.int .i64 rep.1,.int .i64 rep.2.1,.string rep.2.2] 34)) W→Below (w5.alloc (.cells #[.int .i64 rep.1,.int .i64 rep.2.1,.string rep.2.2] 34)).heap.size (w5.alloc (.cells #[.int .i64 rep.1,.int .i64 rep.2.1,.string rep.2.2] 34)) W∧W.cell? ⟨w3.heap.size,0,none⟩=some (.slice a3 ns0.length c3)∧(W.cell? ⟨lb,lo+i*2,none⟩=some (.int .i64 a.kind)∧W.cell? ⟨lb,lo+i*2+1,none⟩=some (.slice sa a.lines.length sc))∧W.cell? ⟨w5.heap.size,0,none⟩=some (.int .i64 rep.1)∧W.cell? ⟨w5.heap.size,1,none⟩=some (.int .i64 rep.2.1)∧W.cell? ⟨w5.heap.size,2,none⟩=some (.string rep.2.2)):=by
       intro W hW;have h1:=(hW.block _ (qh HW6.out)).trans HW6.out;have h2:=(hW.block _ (qh HR6.out)).trans HR6.out;refine ⟨hW,?_,(HSB.out W (hB6.trans (hW.mono hB6.size))).2,?_,?_,?_⟩
       · rw[cH9 h1];rfl
       · rw[cH9 h2];rfl
       · rw[cH9 h2];rfl
       · rw[cH9 h2];rfl
      clear HDO hSt5 hF5 hS5 q1 q2 HN4 HW4 hb6;go_wp2_with fail
      generalize w5.alloc (.cells #[.int .i64 rep.1,.int .i64 rep.2.1,.string rep.2.2] 34)=W6 at *
      have hbn:Below W6.heap.size W6 W6.drew:=(Below.refl _ W6).drew
      go_region_held3 (fun W:World=>Below W6.heap.size W6 W∧W.cell? ⟨w3.heap.size,0,none⟩=some (.slice a3 ns0.length c3)∧(W.cell? ⟨lb,lo+i*2,none⟩=some (.int .i64 a.kind)∧W.cell? ⟨lb,lo+i*2+1,none⟩=some (.slice sa a.lines.length sc))∧W.cell? ⟨w5.heap.size,0,none⟩=some (.int .i64 rep.1)∧W.cell? ⟨w5.heap.size,1,none⟩=some (.int .i64 rep.2.1)∧W.cell? ⟨w5.heap.size,2,none⟩=some (.string rep.2.2))
       (with_reducible exact HC.out _ hbn)
       ((refine zu (by rfl) fm #[.pointer (some ⟨sb,0,none⟩),.agg #[.slice a3 ns0.length c3],.agg #[.int .i64 a.kind,.slice sa a.lines.length sc],.agg #[.int .i64 rep.1,.int .i64 rep.2.1,.string rep.2.2]] (by go_simp) _ (HLK6.out _ hbn) ?_;rintro v7 W7 ⟨rfl,hb7⟩;have hbn:=hbn.trans (hb7.mono hbn.size)))
      have hB7:=hB6.trans (hbn.mono hB6.size);have HS7:Hid _:=HS6.out.later hbn;have HP1:Hid _:=hP1;have HSW5:Hid _:=hSw5;clear hP1 hP0 hbn hb7 HS6 HN6 HC HLK6 hSw5 HSB;go_wp2_with fail
      go_roundg (min l.length 50-(i+1))
      case measure => omega
      case rel => exact ⟨i+1,by omega,by go_num,S5,HSW5.out,by rw[HP1.out,HSN.out];exact HS7.out,hB7⟩
    · have hi5i : ¬ ((i : Int) < 50) := by omega
      go_wp2_with fail
      go_ret2
      refine ⟨sb,S,rfl,hsb,HSW.out,?_,hB⟩;have e:i=50:=by omega
      rw[e]at HST
      exact HST.out
  · have hili : ¬ ((i : Int) < (l.length : Int)) := by omega
    go_wp2_with fail
    go_ret2
    refine ⟨sb,S,rfl,hsb,HSW.out,?_,hB⟩;have e:l.take i=l.take 50:=by rw[List.take_of_length_le (by omega),List.take_of_length_le (by omega)]
    rw[e]at HST
    exact HST.out
end
section
attribute [local go_sem] qe
theorem like_refl:∀ (n:Nat)(ts:List Tr),Deep n ts→likeB n ts ts=true:=by
 intro n
 induction n with
 | zero=>intro ts h;have e:ts=[]:=h;subst e;exact J9 0
 | succ n ih =>
   intro ts h;rw[Xa rfl];unfold ZX;rw[List.all_eq_true];intro p hp;have hz:=List.mem_of_mem_take hp;obtain ⟨i,hi⟩:=List.mem_iff_getElem?.1 hz;rw[List.getElem?_zip_eq_some]at hi
   have e:p.1=p.2:=by
    have h1:=hi.1;have h2:=hi.2;rw[h1]at h2
    exact Option.some.inj h2
   rw[←e,ih p.1.kids (h p.1 (List.mem_of_getElem? hi.1)),Bool.and_true];simp[xx]
theorem JC (w:World)(S0:Nat→Prop)(l:List Ac):qcq 5 w S0 l:=by
 intro S sb i a vd vs W _ _ hB hsb hSw hSt hN hg hstr;obtain ⟨da,dc,rfl,_,_⟩:=hN.shape;obtain ⟨sa,sc,rfl,_,_⟩:=hstr.shape
 generalize (jp a (zm (l.take i)).1 (zm (l.take i)).2).1=rep
 have hb1:Below W.heap.size W (((W.alloc (.cells #[.slice da (zm (l.take i)).1.length dc] 30)).alloc (.cells #[.int .i64 a.kind,.slice sa a.lines.length sc] 38)).alloc (.cells #[.int .i64 rep.1,.int .i64 rep.2.1,.string rep.2.2] 34)):=((Below.alloc1 W _).alloc (by simp) _).alloc (by simp;omega) _
 clear hSt hN hg hstr hB
 go_enter Tryz.func5,Tryz.ntmps5
 go_wp2_with fail;go_ret;exact ⟨rfl,hb1⟩
theorem qad (S0:Nat→Prop)(vl:Value)(l:List Ac)(w:World)(hL:ZL S0 w vl l)(hS0:∀ b,S0 b→b<w.heap.size)(hz:XC l)(hE:jg w) :
 Calls Tryz.prog 4 #[vl,.func (.func 5) #[] #[]] w fun e w'=>Ki w l e w' :=
 qdu 5 (fun _ _=>rfl) S0 vl l w hL hS0 hz hE (JC w S0 l)
set_option maxHeartbeats 1000000 in
theorem Vj (S S':Nat→Prop)(vd vd':Value)(ns:List Nd)(w:World)(h:Q8 S w vd ns)(h':Q8 S' w vd' ns)(hg:qp ns=true) :
 Calls Tryz.prog 9 #[.agg #[vd],.agg #[vd']] w fun e w'=>e=.returned (.bool true)∧Below w.heap.size w w':=by
 obtain ⟨a,c,rfl,_,_⟩:=h.nodes.shape;obtain ⟨a',c',rfl,_,_⟩:=h'.nodes.shape;have hb1:Below w.heap.size w ((w.alloc (.cells #[.slice a ns.length c] 30)).alloc (.cells #[.slice a' ns.length c'] 30)):=(Below.alloc1 w _).alloc (by simp) _
 have HY1:Hid (((w.alloc (.cells #[.slice a ns.length c] 30)).alloc (.cells #[.slice a' ns.length c'] 30)).heap[w.heap.size+1]?=some (.cells #[.slice a' ns.length c'] 30 (0,0))):=by
  have:=heap_alloc_new (w.alloc (.cells #[.slice a ns.length c] 30)) (.cells #[.slice a' ns.length c'] 30);rw[World.size_alloc]at this
  exact this
 obtain ⟨htd,hgt⟩:=Qy hg;have HT1:Hid _:=Z9 S _ ns 0 _ (h.later hb1);have HD':Hid _:=h';rw[htd]at HT1
 have HT2:Hid (∀ W,Below w.heap.size w W→Calls Tryz.prog 19 #[.agg #[.slice a' ns.length c'],.int .i64 0] W fun e w'=>∃ va vk,e=.returned (.tuple #[.agg #[.bool (growF ns.length ns 0).text,.string (growF ns.length ns 0).s,va,vk],.int .i64 0])∧qk (fun b=>W.heap.size≤b) w' va (growF ns.length ns 0).attrs∧qa (fun b=>W.heap.size≤b) w' ns.length vk (growF ns.length ns 0).kids∧Below W.heap.size W w'):=by
  intro W hW;have:=Z9 S' _ ns 0 W (HD'.out.later hW);rw[htd]at this
  exact this
 have hcnt:∀ {n:Nat},Deep n (growF ns.length ns 0).kids→cnt (n+1) [growF ns.length ns 0]≤1048576:=by
  intro n hd;have hg2:=hgt;rw[yZ hd]at hg2
  simp only[Bool.and_eq_true,decide_eq_true_eq]at hg2
  omega
 have HCN:Hid _:=@hcnt
 generalize growF ns.length ns 0=t at *
 clear h h' htd hgt hcnt hg
 go_enter Tryz.func9,Tryz.ntmps9
 go_wp2_with fail
 generalize (w.alloc (.cells #[.slice a ns.length c] 30)).alloc (.cells #[.slice a' ns.length c'] 30)=W1 at *
 refine Calls.mono HT1.out ?_;rintro e w2 ⟨va,vk,rfl,hA2,hK2,hb2⟩;obtain ⟨aa,ac,rfl⟩:=hA2.shape;obtain ⟨ka,kc,rfl,_,_⟩:=qa.shape ns.length hK2;have hb3:=Below.alloc1 w2 (.cells #[.bool t.text,.string t.s,.slice aa t.attrs.length ac,.slice ka t.kids.length kc] 59);have hb23:=hb2.trans (hb3.mono hb2.size);have hB3:=hb1.trans (hb23.mono hb1.size);have HX3:Hid _:=heap_alloc_new w2 (.cells #[.bool t.text,.string t.s,.slice aa t.attrs.length ac,.slice ka t.kids.length kc] 59);have HY3:Hid _:=(hb23.block _ (qh HY1.out)).trans HY1.out;have HA3:Hid _:=qk.later hA2 hb3;have HK3:Hid _:=qa.later hb3 ns.length hK2;have y3:(w2.alloc (.cells #[.bool t.text,.string t.s,.slice aa t.attrs.length ac,.slice ka t.kids.length kc] 59)).cell? ⟨w.heap.size+1,0,none⟩=some (.slice a' ns.length c'):=by rw[cH9 HY3.out];rfl
 clear hA2 hK2 hb2 hb3 hb23 HT1 HY1;go_wp2_with fail
 generalize w2.alloc (.cells #[.bool t.text,.string t.s,.slice aa t.attrs.length ac,.slice ka t.kids.length kc] 59)=W3 at *
 refine Calls.mono (HT2.out W3 hB3) ?_;rintro e w4 ⟨va4,vk4,rfl,hA4,hK4,hb4⟩;obtain ⟨aa4,ac4,rfl⟩:=hA4.shape;obtain ⟨ka4,kc4,rfl,_,_⟩:=qa.shape ns.length hK4;have hb5:=Below.alloc1 w4 (.cells #[.bool t.text,.string t.s,.slice aa4 t.attrs.length ac4,.slice ka4 t.kids.length kc4] 59);have hb45:=hb4.trans (hb5.mono hb4.size);have hB5:=hB3.trans (hb45.mono hB3.size);have HX5:Hid _:=(hb45.block _ (qh HX3.out)).trans HX3.out;have HZ5:Hid _:=heap_alloc_new w4 (.cells #[.bool t.text,.string t.s,.slice aa4 t.attrs.length ac4,.slice ka4 t.kids.length kc4] 59);have x0:(w4.alloc (.cells #[.bool t.text,.string t.s,.slice aa4 t.attrs.length ac4,.slice ka4 t.kids.length kc4] 59)).cell? ⟨w2.heap.size,0,none⟩=some (.bool t.text):=by rw[cH9 HX5.out];rfl
 have x1:(w4.alloc (.cells #[.bool t.text,.string t.s,.slice aa4 t.attrs.length ac4,.slice ka4 t.kids.length kc4] 59)).cell? ⟨w2.heap.size,1,none⟩=some (.string t.s):=by rw[cH9 HX5.out];rfl
 have x2:(w4.alloc (.cells #[.bool t.text,.string t.s,.slice aa4 t.attrs.length ac4,.slice ka4 t.kids.length kc4] 59)).cell? ⟨w2.heap.size,2,none⟩=some (.slice aa t.attrs.length ac):=by rw[cH9 HX5.out];rfl
 have x3:(w4.alloc (.cells #[.bool t.text,.string t.s,.slice aa4 t.attrs.length ac4,.slice ka4 t.kids.length kc4] 59)).cell? ⟨w2.heap.size,3,none⟩=some (.slice ka t.kids.length kc):=by rw[cH9 HX5.out];rfl
 have HSM:Hid _:=qdC _ _ ns.length _ _ _ _ t t _ (qk.later HA3.out hb45) (qa.later hb45 ns.length HK3.out) (qk.later hA4 hb5) (qa.later hb5 ns.length hK4) (HCN.out (qa.deep ns.length hK4));rw[like_refl _ _ (show Deep (ns.length+1) [t] from fun u hu=>by rw[List.mem_singleton.1 hu];exact qa.deep ns.length hK4)]at HSM
 clear hA4 hK4 hb4 hb5 hb45 HX3 HA3 HK3 HT2 y3 HX5;go_wp2_with fail;refine Calls.mono HSM.out ?_;rintro e w6 ⟨rfl,hb6⟩;go_wp2_with fail;go_ret;exact ⟨rfl,hB5.trans (hb6.mono hB5.size)⟩
end
end Go.Proofs.YtecimajafhoibaaGreatDoor
namespace Go.Proofs.YtecimajafhoibaaGreatDoor
open Go.RowKit
set_option maxRecDepth 100000
theorem Zv {ns:List Nd}(hg:qp ns=true):0<ns.length:=by
 simp only[qp,Bool.and_eq_true]at hg
 exact x9 hg.1.2
theorem qcM (a:Ac)(ns:List Nd)(n:Nat):(jp a ns n).2.2≤n+1:=by
 unfold jp
 split
 · exact Nat.le_succ n
 · exact nR9 _
theorem qb6 (l:List Ac):(zm l).2≤l.length:=by
 unfold zm
 have:∀ (l:List Ac) (p:List Nd × Nat),(l.foldl (fun p a=>((jp a p.1 p.2).2.1,(jp a p.1 p.2).2.2)) p).2≤p.2+l.length:=by
  intro l
  induction l with
  | nil=>intro p;exact nR9 _
  | cons a r ih =>
    intro p;rw[List.foldl_cons,List.length_cons];have h1:=ih ((jp a p.1 p.2).2.1,(jp a p.1 p.2).2.2);have h2:=qcM a p.1 p.2;simp only at h1
    omega
 have:=this l (newD,0)
 simpa using this
theorem qb7 (l:List Ac):(zm (l.take 50)).2≤50:=Nat.le_trans (qb6 _) (by rw[List.length_take];omega)
def KW (ns:List Nd)(s:ByteArray):Int :=
 if (qH s.data.toList).2.2≠0 then (qH s.data.toList).2.2
 else if Qd ns (qH s.data.toList).2.1≠0 then Qd ns (qH s.data.toList).2.1
 else if xe ns (qH s.data.toList).2.1=[] then 3 else 0
def qaU (ns:List Nd)(s:ByteArray):List Opn:=Qm (qH s.data.toList).1 (xe ns (qH s.data.toList).2.1)
theorem qcJ (ns:List Nd)(s:ByteArray)(r:List ByteArray):qz ns (s::r)=if KW ns s≠0 then ([],KW ns s) else if (qz ns r).2≠0 then ([],(qz ns r).2) else (qaU ns s++(qz ns r).1,0):=by
 unfold KW qaU;rw[qz]
 by_cases h1:(qH s.data.toList).2.2≠0
 · rw[if_pos h1,if_pos h1,if_pos h1]
 · rw[if_neg h1, if_neg h1]
   by_cases h2:Qd ns (qH s.data.toList).2.1≠0
   · rw[if_pos h2,if_pos h2,if_pos h2]
   · rw[if_neg h2, if_neg h2]
     by_cases h3:xe ns (qH s.data.toList).2.1=[]
     · rw[if_pos h3,if_pos h3,if_pos (by decide)]
     · rw[if_neg h3,if_neg h3,if_neg (show ¬ ((0:Int)≠0) by simp)]
theorem qdY {ns:List Nd}{l:List ByteArray}(h6:¬ 6<l.length)(hc:¬ (qz ns l).2=0):yb l ns=(qW (qz ns l).2,ns):=by
 unfold yb;rw[if_neg h6,if_pos hc]
theorem qdZ {ns:List Nd}{l:List ByteArray}{m:List Opn}(h6:¬ 6<l.length)(hc:(qz ns l).2=0)(hm:(qz ns l).1=m)(he:¬ zn ns m=0):yb l ns=(qW (zn ns m),ns):=by
 unfold yb;rw[if_neg h6,if_neg (fun h=>h hc),hm,if_pos he]
theorem qcy {ns:List Nd}{l:List ByteArray}{m:List Opn}(h6:¬ 6<l.length)(hc:(qz ns l).2=0)(hm:(qz ns l).1=m)(he:zn ns m=0):yb l ns=((0,(m.length:Int),⟨#[]⟩),zZ ns m):=by
 unfold yb;rw[if_neg h6,if_neg (fun h=>h hc),hm,if_neg (fun h=>h he)]
def zk (f t:ByteArray):ByteArray:=qc ([114,101,110,97,109,101]++32::(([47,42,47]++f.data.toList)++32::t.data.toList))
theorem qfa {f:ByteArray}(h:qx f=true):Yf f.data.toList=true:=by
 rw[←qaW];exact h
theorem qdj {f t:ByteArray}(hf:qx f=true)(ht:qx t=true):qH (zk f t).data.toList=(⟨8,0,[],t,⟨#[]⟩⟩,[starS,⟨f,0⟩],0):=by
 have hfL:=qfa hf;obtain ⟨_,hfb⟩:=j6 hfL;have hfs:f.size≤8:=jR hf;have hts:t.size≤8:=jR ht;unfold zk;rw[yu];have c1:Lib.cut ([114,101,110,97,109,101]++32::(([47,42,47]++f.data.toList)++32::t.data.toList)) [32]=([114,101,110,97,109,101],([47,42,47]++f.data.toList)++32::t.data.toList,true):=Yp (by decide)
 have c2:Lib.cut (([47,42,47]++f.data.toList)++32::t.data.toList) [32]=([47,42,47]++f.data.toList,t.data.toList,true):=Yp (by
  intro h
  rcases List.mem_append.1 h with h|h
  · revert h;decide
  · have:=hfb 32 h;revert this;decide)
 have hp:jM ([47,42,47]++f.data.toList)=some [([42],0),(f.data.toList,0)]:=by
  have hne:f.data.toList≠[]:=(j6 hfL).1;have e:Yg [([42],0),(f.data.toList,0)]=[47,42,47]++f.data.toList:=by simp[Yg,QR,hne]
  have:=K9 (l:=[([42],0),(f.data.toList,0)]) (by simp[QZ,ZH,hfL]) (by rw[e];simp;omega)
  rw[e]at this
  exact this
 unfold qH;rw[if_neg (by simp;omega)]
 have w1:qZ ([114,101,110,97,109,101]++32::(([47,42,47]++f.data.toList)++32::t.data.toList))=[114,101,110,97,109,101]:=by unfold qZ;rw[c1]
 have w2:zg ([114,101,110,97,109,101]++32::(([47,42,47]++f.data.toList)++32::t.data.toList))=([47,42,47]++f.data.toList)++32::t.data.toList:=by unfold zg;rw[c1]
 have w3:zq ([114,101,110,97,109,101]++32::(([47,42,47]++f.data.toList)++32::t.data.toList))=[47,42,47]++f.data.toList:=by unfold zq;rw[w2,c2]
 have w4:zF ([114,101,110,97,109,101]++32::(([47,42,47]++f.data.toList)++32::t.data.toList))=t.data.toList:=by unfold zF;rw[w2,c2]
 have w5:xJ ([114,101,110,97,109,101]++32::(([47,42,47]++f.data.toList)++32::t.data.toList))=true:=by unfold xJ;rw[w2,c2]
 rw[w1,w3,w4,w5];have k8:yJ [114,101,110,97,109,101]=8:=by decide
 rw[k8,if_neg (by decide)]
 have pe:yq (qc ([47,42,47]++f.data.toList))=0:=by unfold yq;rw[yu,hp];rfl
 have pv:z8 (qc ([47,42,47]++f.data.toList))=[starS,⟨f,0⟩]:=by unfold z8;rw[yu,hp];rfl
 rw[pe,pv,if_neg (by simp)]
 have hc:qq 8 t.data.toList=(⟨8,0,[],t,⟨#[]⟩⟩,0):=by
  unfold qq;rw[if_neg (by decide),if_neg (by decide),if_pos (by decide),Ze]
 rw[hc,if_neg (by simp)]
theorem qew {ns:List Nd}{f:ByteArray}(hg:qp ns=true)(hf:qx f=true):xe ns [starS,⟨f,0⟩]=(qI ns 0).filter (zP ns f)∧Qd ns [starS,⟨f,0⟩]=0:=by
 have hp:yR [starS,⟨f,0⟩]=true:=by simp[yR,zY,starS,hf]
 have h0:zP ns ⟨#[42]⟩ 0=true:=by
  have hpos:=Zv hg;obtain ⟨x,hx⟩:∃ x,ns[0]?=some x:=⟨ns[0],by simp[hpos]⟩
  obtain ⟨d,t,_,_,_,hgr,htx,_⟩:=jj hg
  have e:x.text=false:=by
   obtain ⟨n,hn⟩:∃ n,ns.length=n+1:=⟨ns.length-1,by omega⟩
   rw[hn]at hgr
   unfold growF at hgr
   rw[hx]at hgr
   simp only at hgr
   rw[←hgr]at htx
   exact htx
  unfold zP;rw[show (0:Int).toNat=0 from rfl,hx]
  simp[jY,e]
 unfold xe Qd;rw[hg,hp];simp only[Bool.and_self,if_true];refine ⟨?_,trivial⟩
 show Z1 ns [⟨f,0⟩] (zr ns [0] starS)=_
 have m0:zr ns [0] starS=[0]:=by
  unfold zr Zs starS;simp[h0]
 rw[m0]
 show QB ns [0] ⟨f,0⟩=_
 simp[QB,zr,Zs]
def jo (N:Nat→Option ByteArray)(ns:List Nd):List Nd:=ns.mapIdx fun i x=>{ x with s:=(N i).getD x.s }
theorem jd (N:Nat→Option ByteArray)(ns:List Nd)(i:Nat):(jo N ns)[i]?=ns[i]?.map fun x=>{ x with s:=(N i).getD x.s }:=by
 unfold jo;rw[List.getElem?_mapIdx]
theorem QE (N:Nat→Option ByteArray)(ns:List Nd):(jo N ns).length=ns.length:=by simp[jo]
theorem Kx {ns:List Nd}{σ:Nat→Sg}{N:Nat→Option ByteArray}(h:∀ (n:Nat)(x:Nd),ns[n]?=some x→σ n=⟨N n,x.attrs,[],[],[],[],false,none⟩)(hN:∀ (n:Nat)(x:Nd),ns[n]?=some x→x.text=true→N n=none)
 (hk:∀ (n:Nat) (x:Nd),ns[n]?=some x→∀ k∈x.kids,k.toNat<ns.length):∀ (f n:Nat),bodyF f ns σ n=growF f (jo N ns) n
 | 0,_=>rfl
 | f + 1, n => by
   unfold bodyF growF;rw[jd];cases hx:ns[n]? with
   | none=>rfl
   | some x =>
     simp only[Option.map_some]
     have hs:sK σ n x=(N n).getD x.s:=by
      unfold sK;rw[h n x hx];cases ht:x.text with
      | true=>simp[hN n x hx ht]
      | false=>simp
     have hkid:∀ (l:List Int),(∀ k∈l,k.toNat<ns.length)→(l.flatMap fun u=>qF (σ u.toNat) u.toNat)=l.map fun u=>Sum.inl u.toNat:=by
      intro l
      induction l with
      | nil=>intro _;rfl
      | cons u l ih =>
        intro hl;have hu:=hl u List.mem_cons_self;obtain ⟨y,hy⟩:∃ y,ns[u.toNat]?=some y:=⟨ns[u.toNat],by simp[hu]⟩
        rw[List.flatMap_cons,List.map_cons,ih (fun k hk=>hl k (List.mem_cons_of_mem _ hk)),h _ y hy]
        simp[qF,QP,q5]
     have ha:zi σ n x=x.kids.map fun u=>Sum.inl u.toNat:=by
      have e:zN σ n x.kids=x.kids.map fun u=>Sum.inl u.toNat:=by
       unfold zN;rw[hkid x.kids (hk n x hx),h n x hx];simp[q5]
      unfold zi;rw[h n x hx]at *
      split
      · exact e
      · simpa using e
     rw[hs,ha,h n x hx,List.map_map]
     congr 1
     apply List.map_congr_left
     intro u _;exact Kx h hN hk f u.toNat
theorem qa1 (N:Nat→Option ByteArray)(ns:List Nd):∀ (f:Nat)(p:Int)(n:Nat),ordF f (jo N ns) p n=ordF f ns p n
 | 0,_,_=>rfl
 | f + 1, p, n => by
   unfold ordF;rw[jd];cases hx:ns[n]? with
   | none=>rfl
   | some x =>
     simp only[Option.map_some];have e:ordF f (jo N ns) (n:Int)=ordF f ns (n:Int):=funext fun k=>qa1 N ns f n k
     rw[e]
def qe1 (t u:Tr):Prop:=u.text=t.text∧u.attrs=t.attrs∧u.kids.length=t.kids.length∧(u.s=t.s∨(t.text=false∧qx u.s=true))
def qbd (R:List Tr→List Tr→Prop):List Tr→List Tr→Prop
 | [],[]=>True
 | t::r,u::s=>qe1 t u∧R t.kids u.kids∧qbd R r s
 | _,_=>False
def RenT:Nat→List Tr→List Tr→Prop
 | 0,_,_=>True
 | m+1,ts,us=>qbd (RenT m) ts us
theorem ren_dep:∀ (m:Nat)(ts us:List Tr),RenT m ts us→dep m us=dep m ts∧cnt m us=cnt m ts
 | 0,_,_,_=>⟨rfl,rfl⟩
 | m + 1, ts, us, h => by
   have key:∀ (ts us:List Tr),qbd (RenT m) ts us→dep (m+1) us=dep (m+1) ts∧cnt (m+1) us=cnt (m+1) ts:=by
    intro ts
    induction ts with
    | nil => intro us h;cases us with
      | nil=>exact ⟨rfl,rfl⟩
      | cons u s=>exact h.elim
    | cons t r ih =>
      intro us h;cases us with
      | nil=>exact h.elim
      | cons u s =>
        obtain ⟨_,h2,h3⟩:=h;obtain ⟨i1,i2⟩:=ih s h3;obtain ⟨j1,j2⟩:=ren_dep m _ _ h2;rw[yX,yX,qT,qT,i1,i2,j1,j2];exact ⟨rfl,rfl⟩
   exact key ts us h
theorem qb4 {t u:Tr}(h:qe1 t u)(hr:qw t=true):qw u=true:=by
 obtain ⟨h1,h2,h3,h4⟩:=h;unfold qw at hr ⊢
 rw[h1,h2,h3];cases ht:t.text with
 | true =>
   rw[ht]at hr
   rcases h4 with h|⟨h,_⟩
   · rw[h];exact hr
   · rw[ht]at h;cases h
 | false =>
   rw[ht]at hr
   simp only[Bool.false_eq_true,if_false,Bool.and_eq_true]at hr ⊢
   rcases h4 with h|⟨_,h⟩
   · rw[h];exact hr
   · exact ⟨h,hr.2⟩
theorem ren_rgt:∀ (m:Nat)(ts us:List Tr),RenT m ts us→rgt m ts=true→rgt m us=true
 | 0,_,_,_,_=>rfl
 | m + 1, ts, us, h, hr => by
   have key:∀ (ts us:List Tr) (p:Bool),qbd (RenT m) ts us→rgL (rgt m) p ts=true→rgL (rgt m) p us=true:=by
    intro ts
    induction ts with
    | nil => intro us p h _;cases us with
      | nil=>rfl
      | cons u s=>exact h.elim
    | cons t r ih =>
      intro us p h hr;cases us with
      | nil=>exact h.elim
      | cons u s =>
        obtain ⟨h1,h2,h3⟩:=h;unfold rgL at hr ⊢
        simp only[Bool.and_eq_true,Bool.or_eq_true]at hr ⊢
        obtain ⟨⟨⟨r1,r2⟩,r3⟩,r4⟩:=hr;rw[h1.1];refine ⟨⟨⟨qb4 h1 r1,r2⟩,?_⟩,ih s _ h3 r4⟩
        rcases r3 with r3|r3
        · exact Or.inl r3
        · exact Or.inr (ren_rgt m _ _ h2 r3)
   exact key ts us false h hr
theorem ren_deep:∀ (m:Nat)(ts us:List Tr),us.length=ts.length→RenT m ts us→Deep m ts→Deep m us
 | 0, ts, us, hl, _, hd => by
   have e:ts=[]:=hd;subst e;exact List.eq_nil_of_length_eq_zero hl
 | m + 1, ts, us, _, h, hd => by
   have key:∀ (ts us:List Tr),qbd (RenT m) ts us→(∀ t∈ts,Deep m t.kids)→∀ u∈us,Deep m u.kids:=by
    intro ts
    induction ts with
    | nil => intro us h _ u hu;cases us with
      | nil=>cases hu
      | cons _ _=>exact h.elim
    | cons t r ih =>
      intro us h hd u hu;cases us with
      | nil=>exact h.elim
      | cons v s =>
        obtain ⟨h1,h2,h3⟩:=h
        rcases List.mem_cons.1 hu with rfl|hu
        · exact ren_deep m _ _ h1.2.2.1 h2 (hd t List.mem_cons_self)
        · exact ih s h3 (fun x hx=>hd x (List.mem_cons_of_mem _ hx)) u hu
   exact key ts us h hd
theorem Jf {ns:List Nd}{N:Nat→Option ByteArray}(hN:∀ (n:Nat)(x:Nd)(t:ByteArray),ns[n]?=some x→N n=some t→x.text=false∧qx t=true):∀ (f m n:Nat),qe1 (growF f ns n) (growF f (jo N ns) n)∧RenT m (growF f ns n).kids (growF f (jo N ns) n).kids
 | 0, m, _ => ⟨⟨rfl, rfl, rfl, Or.inl rfl⟩, by cases m with
   | zero=>trivial
   | succ m=>trivial⟩
 | f + 1, m, n => by
   unfold growF;rw[jd];cases hx:ns[n]? with
   | none => exact ⟨⟨rfl, rfl, rfl, Or.inl rfl⟩, by cases m with
     | zero=>trivial
     | succ m=>trivial⟩
   | some x =>
     simp only[Option.map_some];refine ⟨⟨rfl,rfl,by simp,?_⟩,?_⟩
     · cases hn : N n with
       | none=>exact Or.inl rfl
       | some t=>exact Or.inr ⟨(hN n x t hx hn).1,(hN n x t hx hn).2⟩
     · cases m with
       | zero=>trivial
       | succ m =>
         show qbd (RenT m) _ _
         induction x.kids with
         | nil=>trivial
         | cons k r ih=>exact ⟨(Jf hN f m k.toNat).1,(Jf hN f m k.toNat).2,ih⟩
theorem qcW {ns:List Nd}{N:Nat→Option ByteArray}(hg:qp ns=true)(hN:∀ (n:Nat)(x:Nd)(t:ByteArray),ns[n]?=some x→N n=some t→x.text=false∧qx t=true):qp (jo N ns)=true:=by
 obtain ⟨d,t,hd,_,hgt,hgr,_,_,_⟩:=jj hg;unfold qp at hg ⊢
 simp only[Bool.and_eq_true,decide_eq_true_eq]at hg ⊢
 rw[QE];refine ⟨⟨hg.1.1,?_⟩,?_⟩
 · have := hg.1.2;unfold jA at this ⊢
   rw[QE,qa1];exact this
 · obtain ⟨r1, r2⟩ := Jf hN ns.length d 0;rw[hgr]at r1 r2
   generalize growF ns.length (jo N ns) 0=u at *
   have hdu:=ren_deep d _ _ r1.2.2.1 r2 hd;have hR:RenT (d+1) [t] [u]:=⟨r1,r2,trivial⟩;have e:=ren_dep (d+1) _ _ hR;have hgt2:=hgt;rw[yZ hd]at hgt2
   rw[yZ hdu,e.1,e.2,r1.1];simp only[Bool.and_eq_true]at hgt2 ⊢
   exact ⟨hgt2.1,ren_rgt (d+1) _ _ hR hgt2.2⟩
def yO (ns:List Nd)(f:ByteArray):List Int:=(qI ns 0).filter (zP ns f)
def QQ (ns:List Nd)(f t:ByteArray)(n:Nat):Option ByteArray:=if (n:Int)∈yO ns f then some t else none
def zK (ns:List Nd)(f t:ByteArray):List Opn:=Qm ⟨8,0,[],t,⟨#[]⟩⟩ (yO ns f)
theorem Y6 {ns:List Nd}{f:ByteArray}(hg:qp ns=true)(hf:qx f=true){u:Int}(h:u∈yO ns f):∃ (k:Nat)(y:Nd),u=(k:Int)∧0<k∧ns[k]?=some y∧y.text=false∧y.s=f:=by
 obtain ⟨h1,h2⟩:=List.mem_filter.1 h;have hpos:=Zv hg;obtain ⟨x,hx⟩:∃ x,ns[0]?=some x:=⟨ns[0],by simp[hpos]⟩
 have hk:qI ns 0=x.kids:=by unfold qI;rw[show (0:Int).toNat=0 from rfl,hx]
 rw[hk]at h1
 obtain ⟨k,y,rfl,h0,_,_,hy,_⟩:=(qP hg hx).kids u h1;refine ⟨k,y,rfl,h0,hy,?_⟩;unfold zP at h2
 rw[Int.toNat_natCast,hy]at h2
 simp only[jY]at h2
 obtain ⟨n1,n2⟩:=qa9 hf;cases ht:y.text with
 | true=>rw[ht]at h2;simp at h2;exact absurd h2 n2
 | false =>
   rw[ht]at h2
   simp[n1]at h2
   exact ⟨rfl,h2.symm⟩
theorem qbR {ns:List Nd}{f t:ByteArray}(hg:qp ns=true)(hf:qx f=true)(ht:qx t=true)(h20:(yO ns f).length≤20):zc ns (zK ns f t)=0:=by
 rw[jF];refine ⟨hg,by unfold zK Qm;rw[List.length_map];exact h20,?_,?_⟩
 · intro o ho;obtain ⟨u,hu,rfl⟩:=List.mem_map.1 ho;obtain ⟨k,y,rfl,h0,hy,htx,_⟩:=Y6 hg hf hu;have hlt:=qd hy;have htA:xD ns (k:Int)=false:=by unfold xD;rw[Int.toNat_natCast,hy];exact htx
   unfold qU;have e1:(decide ((8:Int)<1)||decide ((10:Int)<8))=false:=by decide
   have e2:(decide ((k:Int)<0)||decide ((ns.length:Int)≤(k:Int)))=false:=by simp;omega
   simp only[e1,e2,Bool.false_eq_true,if_false];have c1:yi ⟨8,(k:Int),[],t,⟨#[]⟩⟩=true:=by simp[yi,qei]
   have c2:y5 ⟨8,(k:Int),[],t,⟨#[]⟩⟩=true:=by simp[y5,qej,ht]
   have c3:js ⟨8,(k:Int),[],t,⟨#[]⟩⟩=true:=by simp[js,qek]
   rw[c1,c2,c3];simp[zf,htA]
 · have hpos := Zv hg;obtain ⟨x,hx⟩:∃ x,ns[0]?=some x:=⟨ns[0],by simp[hpos]⟩
   have hk:qI ns 0=x.kids:=by unfold qI;rw[show (0:Int).toNat=0 from rfl,hx]
   have hr:(yO ns f).Pairwise (fun u v=>u<v):=by
    unfold yO;rw[hk];exact (ZZ hg hx).sublist List.filter_sublist
   unfold zK Qm;rw[List.pairwise_map];refine hr.imp ?_;intro u v huv;have:¬ (u=v):=by omega
   simp[agB,this]
theorem qe9 {ns:List Nd}{f t:ByteArray}(hg:qp ns=true)(hf:qx f=true)(n:Nat):(∀ k:Int,k≠8→ofK (zK ns f t) k n=[])∧(ofK (zK ns f t) 8 n).getLast?.map (·.name)=QQ ns f t n:=by
 have hall:∀ o∈zK ns f t,o.kind=8∧o.name=t∧∃ k:Nat,o.target=(k:Int)∧(k:Int)∈yO ns f:=by
  intro o ho;obtain ⟨u,hu,rfl⟩:=List.mem_map.1 ho;obtain ⟨k,_,rfl,_⟩:=Y6 hg hf hu;exact ⟨rfl,rfl,k,rfl,hu⟩
 refine ⟨?_,?_⟩
 · intro k hk;unfold ofK;rw[List.filter_eq_nil_iff];intro o ho h;simp only[inK,Bool.and_eq_true,decide_eq_true_eq]at h
   exact hk (h.1.symm.trans (hall o ho).1)
 · unfold QQ
   by_cases hn:(n:Int)∈yO ns f
   · rw[if_pos hn]
     have hmem:(⟨8,(n:Int),[],t,⟨#[]⟩⟩:Opn)∈ofK (zK ns f t) 8 n:=by
      unfold ofK;refine List.mem_filter.2 ⟨List.mem_map.2 ⟨(n:Int),hn,rfl⟩,by simp[inK]⟩
     cases hL:(ofK (zK ns f t) 8 n).getLast? with
     | none=>rw[List.getLast?_eq_none_iff]at hL;rw[hL]at hmem;cases hmem
     | some o =>
       have ho:=List.mem_of_getLast? hL;have:=(hall o (List.mem_filter.1 ho).1).2.1;simp[this]
   · rw[if_neg hn]
     have:ofK (zK ns f t) 8 n=[]:=by
      unfold ofK;rw[List.filter_eq_nil_iff];intro o ho h;simp only[inK,Bool.and_eq_true,decide_eq_true_eq]at h
      obtain ⟨_,_,k,e,hk⟩:=hall o ho;rw[e,Int.toNat_natCast]at h
      rw[h.2]at hk
      exact hn hk
     rw[this];rfl
theorem qbQ {ns:List Nd}{f t:ByteArray}(hg:qp ns=true)(hf:qx f=true)(ht:qx t=true)(h20:(yO ns f).length≤20):zn ns (zK ns f t)=0∧zZ ns (zK ns f t)=jo (QQ ns f t) ns:=by
 have hc:=qbR hg hf ht h20
 have hN:∀ (n:Nat) (x:Nd) (s:ByteArray),ns[n]?=some x→QQ ns f t n=some s→x.text=false∧qx s=true:=by
  intro n x s hx hs;unfold QQ at hs
  by_cases hn:(n:Int)∈yO ns f
  · rw[if_pos hn]at hs
    obtain ⟨k,y,e,_,hy,htx,_⟩:=Y6 hg hf hn;obtain rfl:n=k:=by omega
    rw[hx]at hy
    obtain rfl:=Option.some.inj hy;exact ⟨htx,by rw[←Option.some.inj hs];exact ht⟩
  · rw[if_neg hn]at hs;cases hs
 have hg2:=qcW hg hN
 have hbody:bodyF ns.length ns (j8 ns (zK ns f t)) 0=growF ns.length (jo (QQ ns f t) ns) 0:=by
  refine Kx (fun n x hx=>?_) (fun n x hx htx=>?_) (fun n x hx k hk=>?_) _ _
  · obtain ⟨o1, o2⟩ := qe9 (t := t) hg hf n;rw[qeG hx,o2,o1 1 (by decide),o1 2 (by decide),o1 3 (by decide),o1 4 (by decide),o1 5 (by decide),o1 6 (by decide),o1 7 (by decide),o1 9 (by decide),o1 10 (by decide)]
    rfl
  · cases hn : QQ ns f t n with
    | none=>rfl
    | some s=>have:=(hN n x s hx hn).1;rw[htx]at this;cases this
  · obtain ⟨j, _, rfl, _, hj, _⟩ := (qP hg hx).kids k hk;rw[Int.toNat_natCast];exact hj
 obtain ⟨d,u,hd,hlay,hgu,hgr,_,_,hdl⟩:=jj hg2;rw[QE]at hgr hdl
 have hT:zo ns (zK ns f t)=u:=by unfold zo;rw[hbody,hgr]
 have hJ:zb ns (zK ns f t)=u:=by unfold zb;rw[hT];exact qbB hgu hd (by omega)
 unfold zn zZ;rw[if_pos hc,if_pos hc,hJ,if_pos hgu,if_pos hgu,lay_upto hd (by omega),hlay]
 exact ⟨rfl,rfl⟩
theorem qe8 {ns:List Nd}{f t:ByteArray}{n:Nat}(hg:qp ns=true)(hf:qx f=true)(ht:qx t=true)(hn:n<100) :
 jp ⟨2,[zk f t]⟩ ns n=(if yO ns f=[] then (((3,0,⟨#[]⟩),ns,n+1):Rep × List Nd × Nat) else if 20<(yO ns f).length then ((2,0,⟨#[]⟩),ns,n+1) else ((0,((yO ns f).length:Int),⟨#[]⟩),jo (QQ ns f t) ns,n+1)):=by
 obtain ⟨hs,he⟩:=qew hg hf;have hl:=qdj hf ht
 have hE:KW ns (zk f t)=if yO ns f=[] then 3 else 0:=by
  unfold KW;rw[hl];simp only[he,hs,ne_eq,not_true_eq_false,if_false];rfl
 have hO:qaU ns (zk f t)=zK ns f t:=by
  unfold qaU zK yO;rw[hl];simp only[hs]
 have hch:qz ns [zk f t]=if yO ns f=[] then ([],3) else (zK ns f t,0):=by
  rw[qcJ,hE,hO]
  by_cases h:yO ns f=[]
  · rw[if_pos h,if_pos h,if_pos (by decide)]
  · rw[if_neg h, if_neg h, if_neg (by simp), if_neg (by simp[qz])]
    simp[qz]
 have h6:¬ 6<[zk f t].length:=by simp
 unfold jp jq;rw[if_neg (by omega)]
 simp only[show ¬ ((2:Int)=1) by decide,if_false,if_true]
 by_cases h:yO ns f=[]
 · rw[if_pos h]at hch ⊢
   rw[qdY h6 (by rw[hch];decide),hch]
   rfl
 · rw[if_neg h]at hch ⊢
   by_cases hl20:20<(yO ns f).length
   · rw[if_pos hl20]
     have hE2:zn ns (zK ns f t)=2:=by
      have hc:zc ns (zK ns f t)=2:=by
       unfold zc;rw[hg];simp only[Bool.not_true,Bool.false_eq_true,if_false];rw[if_pos (by unfold zK Qm;rw[List.length_map];exact hl20)]
      unfold zn;rw[hc,if_neg (by decide)]
     rw[qdZ h6 (by rw[hch]) (by rw[hch]) (by rw[hE2];decide),hE2]
     rfl
   · rw[if_neg hl20];obtain ⟨a1,a2⟩:=qbQ hg hf ht (by omega)
     rw[qcy h6 (by rw[hch]) (by rw[hch]) a1,a2]
     simp only;unfold zK Qm;rw[List.length_map]
end Go.Proofs.YtecimajafhoibaaGreatDoor
namespace Go.Proofs.YtecimajafhoibaaGreatDoor
open Go.ChangeShapes Go.WideShapes Go.ChangeAt Go.RowKit
set_option maxRecDepth 100000
theorem zO.lt {w W:World}{ns:List Nd}{g cap:Nat}{ms:List Rw}(h:zO w ns g cap ms W):w.heap.size+1≤g∧g<W.heap.size:=h.row.lt g rfl
theorem zO.later {w W W':World}{ns:List Nd}{g cap:Nat}{ms:List Rw}(h:zO w ns g cap ms W)(hb:Below W.heap.size W W'):zO w ns g cap ms W' :=
 ⟨h.len,qn h.row hb,fun j r x hr hx=>(h.each j r x hr hx).carry fun b hb'=>⟨⟨hb'.1,Nat.lt_of_lt_of_le hb'.2.1 hb.size,hb'.2.2⟩,hb.block b hb'.2.1⟩⟩
theorem zO.frame {w W W':World}{ns:List Nd}{g cap sb:Nat}{ms:List Rw}(h:zO w ns g cap ms W)(hF:CFr sb W W')(hs:sb≤w.heap.size):zO w ns g cap ms W':=by
 obtain ⟨h1,h2⟩:=h.lt;refine ⟨h.len,qj h.row (fun b hb=>?_),fun j r x hr hx=>(h.each j r x hr hx).carry fun b hb'=>⟨⟨hb'.1,Nat.lt_of_lt_of_le hb'.2.1 hF.below.size,hb'.2.2⟩,hF.frame b hb'.2.1 (by omega)⟩⟩
 have:g=b:=by injection hb
 subst this;exact hF.frame g h2 (by omega)
theorem zO.nodes {w W:World}{ns:List Nd}{g cap:Nat}{ms:List Rw}(h:zO w ns g cap ms W):qu (fun b=>w.heap.size+1≤b) W (.slice (some ⟨g,0,none⟩) ns.length cap) ns :=
 Xm h.row h.len (fun j r x hr hx=>h.each j r x hr hx) (fun _ hb=>hb.1)
theorem zO.put {w W:World}{ns:List Nd}{g cap k:Nat}{ms:List Rw}{r:Rw}{x:Nd}(h:zO w ns g cap ms W)(hr:ms[k]?=some r)(hx:ns[k]?=some x)(t:ByteArray) :
 zO w (ns.set k { x with s:=t }) g cap (ms.set k { r with s:=t }) (W.setCell ⟨g,k*5+1,none⟩ (.string t)):=by
 have hkm:=qd hr;have hkn:=qd hx;have hrow:=(h.row.stored (k*5+1) (.string t)).1;rw[←Q3 ms k r t hr]at hrow
 refine ⟨by rw[List.length_set,List.length_set];exact h.len,by rw[List.length_set];exact hrow,fun j q y hq hy=>?_⟩
 by_cases hj:j=k
 · subst hj;rw[List.getElem?_set_self hkm]at hq
   rw[List.getElem?_set_self hkn]at hy
   obtain rfl:=Option.some.inj hq;obtain rfl:=Option.some.inj hy;obtain ⟨e1,_,e3,e4,e5⟩:=(h.each j r x hr hx).carry (S':=fun b=>w.heap.size+1≤b∧b<(W.setCell ⟨g,j*5+1,none⟩ (.string t)).heap.size∧b≠g) fun b hb=>⟨⟨hb.1,by simpa using hb.2.1,hb.2.2⟩,qb hb.2.2⟩
   exact ⟨e1,rfl,e3,e4,e5⟩
 · rw[List.getElem?_set_ne (fun e => hj e.symm)]at hq hy
   exact (h.each j q y hq hy).carry fun b hb=>⟨⟨hb.1,by simpa using hb.2.1,hb.2.2⟩,qb hb.2.2⟩
theorem zO.frozen {w W:World}{ns:List Nd}{g cap:Nat}{ms:List Rw}(h:zO w ns g cap ms W)(o:Nat):W.frozen? ⟨g,o,none⟩=false:=by
 rcases h.row.2 with ⟨h',_⟩|⟨g',cap',cur,h',_,hh,_⟩
 · simp at h'
 · injection h' with h' _ _
   injection h' with h'
   injection h' with h' _ _
   subst h';exact fH9 hh _
theorem zO.cells {w W:World}{ns:List Nd}{g cap k:Nat}{ms:List Rw}{x:Nd}(h:zO w ns g cap ms W)(hx:ns[k]?=some x):∃ r,ms[k]?=some r∧W.cell? ⟨g,k*5,none⟩=some (.bool x.text)∧W.cell? ⟨g,k*5+1,none⟩=some (.string x.s):=by
 have hk:=qd hx;obtain ⟨r,hr⟩:∃ r,ms[k]?=some r:=⟨ms[k]'(by rw[h.len];exact hk),List.getElem?_eq_getElem (by rw[h.len];exact hk)⟩
 obtain ⟨e1,e2,_⟩:=h.each k r x hr hx;obtain ⟨g0,g1,_⟩:=za ms k r hr;refine ⟨r,hr,?_,?_⟩
 · rw[World.ownsRow.cellAt h.row (k*5) (by omega),g0,e1]
 · rw[World.ownsRow.cellAt h.row (k*5+1) (by omega),g1,e2]
theorem qep {ns:List Nd}{x:Nd}{j:Nat}{u:Int}(hg:qp ns=true)(hx:ns[0]?=some x)(hu:x.kids[j]?=some u):u∉x.kids.take j:=by
 intro h;have hlt:=qd hu;have hp:=ZZ hg hx
 have e:x.kids=x.kids.take j++u::x.kids.drop (j+1):=by
  conv=>lhs;rw[←List.take_append_drop j x.kids,List.drop_eq_getElem_cons hlt]
  congr 2
  simpa[hlt] using hu
 rw[e,List.pairwise_append]at hp
 have:=hp.2.2 u h u List.mem_cons_self;omega
def xA (ns:List Nd)(f t:ByteArray)(j n:Nat):Option ByteArray:=if (n:Int)∈((qI ns 0).take j).filter (zP ns f) then some t else none
theorem qbP (ns:List Nd)(f t:ByteArray):jo (xA ns f t 0) ns=ns:=by
 apply List.ext_getElem?
 intro i;rw[jd];cases ns[i]? with
 | none=>rfl
 | some x=>simp[xA]
theorem qdi (ns:List Nd)(f t:ByteArray):jo (xA ns f t (qI ns 0).length) ns=jo (QQ ns f t) ns:=by
 have:xA ns f t (qI ns 0).length=QQ ns f t:=by
  funext n
  unfold xA QQ yO;rw[List.take_length]
 rw[this]
theorem Xf {ns:List Nd}{f t:ByteArray}{j:Nat}{u:Int}(hu:(qI ns 0)[j]?=some u)(hn:zP ns f u=false):jo (xA ns f t (j+1)) ns=jo (xA ns f t j) ns∧((qI ns 0).take (j+1)).filter (zP ns f)=((qI ns 0).take j).filter (zP ns f):=by
 have hlt:=qd hu
 have e:(qI ns 0).take (j+1)=(qI ns 0).take j++[u]:=by
  rw[List.take_succ_eq_append_getElem hlt];congr 2;simpa[hlt] using hu
 have e2:((qI ns 0).take (j+1)).filter (zP ns f)=((qI ns 0).take j).filter (zP ns f):=by
  rw[e,List.filter_append];simp[hn]
 refine ⟨?_,e2⟩;have:xA ns f t (j+1)=xA ns f t j:=by funext n;unfold xA;rw[e2]
 rw[this]
theorem qbO {ns:List Nd}{f t:ByteArray}{j k:Nat}{y:Nd}(hu:(qI ns 0)[j]?=some (k:Int))(hy:ns[k]?=some y)(hn:zP ns f (k:Int)=true):jo (xA ns f t (j+1)) ns=(jo (xA ns f t j) ns).set k { y with s:=t }∧(((qI ns 0).take (j+1)).filter (zP ns f)).length=(((qI ns 0).take j).filter (zP ns f)).length+1:=by
 have hlt:=qd hu;have hk:=qd hy
 have e:(qI ns 0).take (j+1)=(qI ns 0).take j++[(k:Int)]:=by
  rw[List.take_succ_eq_append_getElem hlt];congr 2;simpa[hlt] using hu
 have e2:((qI ns 0).take (j+1)).filter (zP ns f)=((qI ns 0).take j).filter (zP ns f)++[(k:Int)]:=by
  rw[e,List.filter_append];simp[hn]
 refine ⟨?_,by rw[e2];simp⟩
 apply List.ext_getElem?
 intro i
 by_cases hik:i=k
 · subst hik;rw[List.getElem?_set_self (by rw[QE];exact hk),jd,hy]
   have:xA ns f t (j+1) i=some t:=by unfold xA;rw[e2,if_pos (by simp)]
   simp[this]
 · rw[List.getElem?_set_ne (fun e => hik e.symm), jd, jd]
   have:xA ns f t (j+1) i=xA ns f t j i:=by
    unfold xA;rw[e2];have hne:¬ ((i:Int)=(k:Int)):=by omega
    simp[hne]
   rw[this]
theorem Y8 {S:Nat→Prop}{w:World}{v:Value}{ns:List Nd}(h:qu S w v ns)(hg:qp ns=true):Q8 (fun b=>S b∧b<w.heap.size) w v ns :=
 ⟨h.bounded,fun _ hb=>hb.2,(Zu hg).1,(Zu hg).2⟩
theorem qdn (w:World)(s:ByteArray):Strs (fun b=>b=w.heap.size) (w.alloc (.cells #[.string s] 9)) (.slice (some ⟨w.heap.size,0,none⟩) 1 1) [s]:=by
 have hh:=heap_alloc_new w (.cells #[.string s] 9);refine ⟨_,1,rfl,nR9 _,by unfold maxLen;omega,fun _=>⟨w.heap.size,0,rfl,rfl,fun i x hx=>?_⟩⟩
 match i,hx with
 | 0,hx=>simp at hx;subst hx;rw[cH9 hh];rfl
 | i+1,hx=>simp at hx
section
attribute [local go_sem] qe
theorem qaV (f t:ByteArray):(((⟨#[114,101,110,97,109,101,32,47,42,47]⟩:ByteArray)++f)++(⟨#[32]⟩:ByteArray))++t=zk f t:=by
 apply ByteArray.ext
 unfold zk qc;simp[ByteArray.data_append]
theorem Yi {P:Program}{ops:Array Oper}{o:Oper}{a:Act}{w:World}{K:Act→World→Prop}{Q:Exit→Act→World→Prop}{E:Prop}
 (hw:Region.wanted o (yielded ops a.tmps)=true) (f:FuncId) (args:Array Value) (hrun:(execOp a.eval o).run P w=.ok (.enter f args) w)
 (R:Value→World→Prop) (hc:Calls P f args w fun e w'=>∃ r,e=.returned r∧R r w')
 (hK:∀ r w',R r w'→K (a.put o.dst r) w') :
 if Region.wanted o (yielded ops a.tmps)=true then Oper.wp P o a w K Q else E:=by
 rw[if_pos hw];unfold Oper.wp;rw[hrun,Oper.upon_enter];refine hc.mono ?_;rintro e w' ⟨r,rfl,hr⟩;exact hK r w' hr
structure qfj (w2 W7:World) (ns0:List Nd) (f t:ByteArray) (g cap j:Nat) (wr:World):Prop where
 doc:∃ ms,zO w2 (jo (xA ns0 f t j) ns0) g cap ms wr
 frame:CFr g W7 wr
theorem CFr.one (g o:Nat)(v:Value)(W:World):CFr g W (W.setCell ⟨g,o,none⟩ v):=⟨(Below.refl 0 W).setCell (p:=⟨g,o,none⟩) (nZ9 _) _,fun _ _ hne=>qb hne⟩
set_option linter.unusedSimpArgs false in
set_option maxHeartbeats 4000000 in
theorem X9 (S0:Nat→Prop)(vl:Value)(l:List Ac)(f t:ByteArray)(w:World)(hL:ZL S0 w vl l)(hS0:∀ b,S0 b→b<w.heap.size)(hz:XC l)(hzf:f.size≤maxLen)(hzt:t.size≤maxLen)(hE:jg w) :
 Calls Tryz.prog 3 #[vl,.string f,.string t] w fun e w'=>e=.returned (.bool true)∧Below w.heap.size w w':=by
 obtain ⟨la,lc,rfl,_,_⟩:=hL.shape;have HP:Hid _:=qad S0 _ l w hL hS0 hz hE;have HE:Hid (jg w):=hE;have hn50:=qb7 l;have HNF:Hid (∀ W:World,Calls Tryz.prog 6 #[.string f] W fun e w'=>e=.returned (.bool (qx f))∧w'=W):=fun W=>zQ f W hzf
 have HNT:Hid (∀ W:World,Calls Tryz.prog 6 #[.string t] W fun e w'=>e=.returned (.bool (qx t))∧w'=W):=fun W=>zQ t W hzt
 clear hL hE hS0 hz hzf hzt
 go_enter Tryz.func3,Tryz.ntmps3
 go_wp2_with fail;refine Calls.mono HP.out ?_;rintro e w2 ⟨sb,S,rfl,hsb,hSw,hSt,hb2⟩
 generalize (zm (l.take 50)).1=ns0 at *
 generalize (zm (l.take 50)).2=n0 at *
 have HG0:Hid (qp ns0=true):=hSt.good;have HST:Hid _:=hSt;have HSH:Hid (∀ b,S b→b<w2.heap.size):=fun b hb=>(hSt.here b hb).1
 obtain ⟨_,_,hbx,_,_⟩:=hSt.box;have hsbl:=qh hbx;clear hSt HP hbx;go_wp2_with fail;refine Calls.mono (HNF.out _) ?_;rintro e w' ⟨rfl,hw'⟩;rw[hw'];clear hw' w';cases hf:qx f with
 | false =>
   go_wp2_with fail;go_ret;exact ⟨rfl,hb2⟩
 | true =>
   go_wp2_with fail;refine Calls.mono (HNT.out _) ?_;rintro e w' ⟨rfl,hw'⟩;rw[hw'];clear hw' w';cases ht:qx t with
   | false =>
     go_wp2_with fail;go_ret;exact ⟨rfl,hb2⟩
   | true =>
     have hfs:f.size≤8:=jR hf;have hts:t.size≤8:=jR ht;have HDC:Hid _:=YM S sb n0 ns0 _ HST.out;have HND:Hid _:=qe8 (n:=n0) HG0.out hf ht (by omega)
     have HF:Hid (qx f=true):=hf;have HT:Hid (qx t=true):=ht;clear hf ht HNF HNT;go_wp2_with fail;refine Calls.mono HDC.out ?_;rintro e w3 ⟨g,cap,rfl,⟨ms,hD⟩,hb3⟩;have hb5:Below w3.heap.size w3 ((w3.alloc (.cells #[.slice (some ⟨g,0,none⟩) ns0.length cap] 30)).alloc (.cells #[.string (zk f t)] 9)):=(Below.alloc1 w3 _).alloc (by simp) _
     have hb25:=hb3.trans (hb5.mono hb3.size);have hB5:=hb2.trans (hb25.mono hb2.size)
     have HBX5:Hid (((w3.alloc (.cells #[.slice (some ⟨g,0,none⟩) ns0.length cap] 30)).alloc (.cells #[.string (zk f t)] 9)).heap[w3.heap.size]?=some (.cells #[.slice (some ⟨g,0,none⟩) ns0.length cap] 30 (0,0))):=by
      have h1:=heap_alloc_new w3 (.cells #[.slice (some ⟨g,0,none⟩) ns0.length cap] 30);exact ((Below.alloc1 (w3.alloc (.cells #[.slice (some ⟨g,0,none⟩) ns0.length cap] 30)) (.cells #[.string (zk f t)] 9)).block _ (qh h1)).trans h1
     have HSS:Hid _:=qdn (w3.alloc (.cells #[.slice (some ⟨g,0,none⟩) ns0.length cap] 30)) (zk f t);rw[World.size_alloc]at HSS
     have HD5:Hid _:=hD.later hb5;obtain ⟨_,hg3⟩:=hD.lt;have hs23:=hb3.size;have hs35:w3.heap.size<((w3.alloc (.cells #[.slice (some ⟨g,0,none⟩) ns0.length cap] 30)).alloc (.cells #[.string (zk f t)] 9)).heap.size:=by simp;omega
     have hl1:(zk f t).size≤2500:=by
      rw[←qaV,ByteArray.size_append,ByteArray.size_append,ByteArray.size_append]
      show 10+f.size+1+t.size≤2500
      omega
     have hzs1:∀ x∈[zk f t],x.size≤maxLen:=fun x hx=>by rw[List.mem_singleton.1 hx];unfold maxLen;omega
     have HDO:Hid _:=XM S _ sb n0 ns0 _ ⟨2,[zk f t]⟩ w _ (HST.out.later hb25) HSS.out (fun b hb=>by omega) HE.out hB5 hsb hzs1
     obtain ⟨rep,ns1,n1,hrd⟩:∃ rep ns1 n1,jp ⟨2,[zk f t]⟩ ns0 n0=(rep,ns1,n1):=⟨_,_,_,rfl⟩;rw[hrd]at HDO HND
     obtain ⟨rc,rn,rt⟩:=rep;simp only at HDO
     clear hD HDC HSS HST hb5 hl1 hzs1 hrd;go_wp2_with fail;rw[qaV f t]
     generalize (w3.alloc (.cells #[.slice (some ⟨g,0,none⟩) ns0.length cap] 30)).alloc (.cells #[.string (zk f t)] 9)=W5 at *
     refine Calls.mono HDO.out ?_;rintro e w6 ⟨rfl,⟨S6,hS6,hSt6⟩,hF6⟩;have hB6:=xG hB5 hF6 hsb;have hb7:=Below.alloc1 w6 (.cells #[.int .i64 rc,.int .i64 rn,.string rt] 34);have hB7:=hB6.trans (hb7.mono hB6.size);have hs56:=hF6.below.size;have HR7:Hid _:=heap_alloc_new w6 (.cells #[.int .i64 rc,.int .i64 rn,.string rt] 34);have HBX7:Hid _:=(hb7.block _ (Nat.lt_of_lt_of_le (qh HBX5.out) hs56)).trans ((hF6.frame _ (qh HBX5.out) (by omega)).trans HBX5.out)
     have HD7:Hid _:=(HD5.out.frame hF6 (by omega)).later hb7
     have HS7:Hid _:=hSt6.later hb7;have HG1:Hid (qp ns1=true):=hSt6.good;obtain ⟨hg2,_⟩:=HD5.out.lt
     have HS6:Hid (∀ b,S6 b→b≠g):=fun b hb=>by
      rcases hS6 b hb with h|h
      · have:=HSH.out b h;omega
      · omega
     have hs67:w6.heap.size<(w6.alloc (.cells #[.int .i64 rc,.int .i64 rn,.string rt] 34)).heap.size:=by simp
     obtain ⟨_,hg7⟩:=HD7.out.lt;have hpos:=Zv HG0.out;obtain ⟨x0,hx0⟩:∃ x0,ns0[0]?=some x0:=⟨ns0[0],by simp[hpos]⟩
     obtain ⟨r0,hr0⟩:∃ r0,ms[0]?=some r0:=⟨ms[0]'(by rw[HD7.out.len];exact hpos),by rw[List.getElem?_eq_getElem]⟩
     obtain ⟨_,_,_,_,hI0⟩:=HD7.out.each 0 r0 x0 hr0 hx0;have hvk:=(za ms 0 r0 hr0).2.2.2.2;have k4:(w6.alloc (.cells #[.int .i64 rc,.int .i64 rn,.string rt] 34)).cell? ⟨g,4,none⟩=some r0.vk:=by rw[World.ownsRow.cellAt HD7.out.row 4 (by omega)];exact hvk
     obtain ⟨ka,kc,hvs,hkl,hkm⟩:=hI0.shape;rw[hvs]at k4 hI0
     have HIK:Hid _:=hI0;have hkids:qI ns0 0=x0.kids:=by unfold qI;rw[show (0:Int).toNat=0 from rfl,hx0]
     have HKD:Hid (qI ns0 0=x0.kids):=hkids;have HX0:Hid (ns0[0]?=some x0):=hx0;have d7:(w6.alloc (.cells #[.int .i64 rc,.int .i64 rn,.string rt] 34)).cell? ⟨w3.heap.size,0,none⟩=some (.slice (some ⟨g,0,none⟩) ns0.length cap):=by rw[cH9 HBX7.out];rfl
     have hp0:(0:Int)<(ns0.length:Int):=by omega
     have HI0:Hid (qfj w2 (w6.alloc (.cells #[.int .i64 rc,.int .i64 rn,.string rt] 34)) ns0 f t g cap 0 (w6.alloc (.cells #[.int .i64 rc,.int .i64 rn,.string rt] 34))):=⟨⟨ms,by rw[qbP];exact HD7.out⟩,CFr.refl _ _⟩
     unfold maxLen at hkm
     clear HDO hSt6 hF6 HD5 HBX5 hb7 hvk hr0 hx0 hkids hI0 hvs HD7 hS6;go_wp2_with fail
     generalize w6.alloc (.cells #[.int .i64 rc,.int .i64 rn,.string rt] 34)=W7 at *
     go_loopg [49,11] x0.kids.length (fun g' i c wr=>∃ j:Nat,j+g'=x0.kids.length∧i=.int .i64 j∧c=.int .i64 ((((qI ns0 0).take j).filter (zP ns0 f)).length:Int)∧qfj w2 W7 ns0 f t g cap j wr)
     case atStart => exact ⟨0,by omega,rfl,by simp,HI0.out⟩
     case round =>
      obtain ⟨j,hj,rfl,rfl,hNI⟩:=hrel;obtain ⟨⟨msj,hDj⟩,hFj⟩:=hNI;have hszr:W7.heap.size≤wr.heap.size:=hFj.below.size
      have dr:wr.cell? ⟨w3.heap.size,0,none⟩=some (.slice (some ⟨g,0,none⟩) ns0.length cap):=by
       rw[World.cell?_of_block (a:=⟨w3.heap.size,0,none⟩) (hFj.frame w3.heap.size (by omega) (by omega))];exact d7
      have hCj:(((qI ns0 0).take j).filter (zP ns0 f)).length≤j:=by
       refine Nat.le_trans (List.length_filter_le _ _) ?_;rw[List.length_take];exact Nat.min_le_left _ _
      have HDj:Hid _:=hDj;have HFj:Hid _:=hFj
      by_cases hlt:j<x0.kids.length
      · have hji : (j : Int) < (x0.kids.length : Int) := by omega
        obtain ⟨u,hu⟩:∃ u,x0.kids[j]?=some u:=⟨x0.kids[j],by simp[hlt]⟩
        obtain ⟨k,y,rfl,hk0,hkl',_,hy,_⟩:=(qP HG0.out HX0.out).kids u (List.mem_of_getElem? hu);obtain ⟨kb,ko,kcap,hv1,hSb,hbl,q0⟩:=q6.at HIK.out hu
        injection hv1 with hv1 hv2 hv3
        subst hv1 hv3;clear hv2;rw[←World.cell?_of_block (a:=⟨kb,ko+j,none⟩) (hFj.frame kb hbl hSb.2.2)]at q0
        have hkz:(k:Int)<(ns0.length:Int):=by omega
        have hkk:(qI ns0 0)[j]?=some (k:Int):=by rw[HKD.out];exact hu
        have hno:xA ns0 f t j k=none:=by
         unfold xA;rw[HKD.out,if_neg (fun h=>qep HG0.out HX0.out hu (List.mem_filter.1 h).1)]
        have hky:(jo (xA ns0 f t j) ns0)[k]?=some y:=by rw[jd,hy,hno];rfl
        obtain ⟨rk,hrk,c0,c1⟩:=hDj.cells hky;have z1:=hDj.frozen (k*5+1);have HPUT:Hid _:=hDj.put hrk hky t;have hft:zP ns0 f (k:Int)=jY y f:=by unfold zP;rw[Int.toNat_natCast,hy]
        obtain ⟨sn1,sn2⟩:=qa9 HF.out;cases htx:y.text with
        | true =>
          have hfit:zP ns0 f (k:Int)=false:=by rw[hft];unfold jY;rw[htx];simpa using sn2
          obtain ⟨m1,m2⟩:=Xf (t:=t) hkk hfit;have HM1:Hid _:=m1;have HM2:Hid _:=m2;rw[htx]at c0
          clear hDj hFj hft m1 m2 hky hrk HPUT hno hy hu hkk hfit;go_wp2_with fail
          go_roundg (x0.kids.length-(j+1))
          case measure => omega
          case rel => exact ⟨j+1,by omega,by go_num,by rw[HM2.out],⟨⟨msj,by rw[HM1.out];exact HDj.out⟩,HFj.out⟩⟩
        | false =>
          rw[htx]at c0
          by_cases hs:y.s=f
          · have hfit : zP ns0 f (k : Int) = true := by rw[hft];unfold jY;rw[htx];simp[hs]
            obtain ⟨m1,m2⟩:=qbO (t:=t) hkk hy hfit;have HM1:Hid _:=m1;have HM2:Hid _:=m2;rw[hs]at c1
            have hwrp:=CFr.one g (k*5+1) (.string t) wr;have HFX:Hid _:=hFj.trans hwrp;clear hDj hFj hft m1 m2 hky hrk hno hy hu hkk hfit hs hwrp;go_wp2_with fail
            go_roundg (x0.kids.length-(j+1))
            case measure => omega
            case rel => exact ⟨j+1,by omega,by go_num,by rw[HM2.out];go_num,⟨⟨_,by rw[HM1.out];exact HPUT.out⟩,HFX.out⟩⟩
          · have hb : (y.s.toList == f.toList) = false := Zo hs
            have hfit:zP ns0 f (k:Int)=false:=by
             rw[hft];unfold jY;rw[htx];have:¬ (f=y.s):=fun e=>hs e.symm
             simp[sn1,this]
            obtain ⟨m1,m2⟩:=Xf (t:=t) hkk hfit;have HM1:Hid _:=m1;have HM2:Hid _:=m2;clear hDj hFj hft m1 m2 hky hrk HPUT hno hy hu hkk hfit hs;go_wp2_with fail
            go_roundg (x0.kids.length-(j+1))
            case measure => omega
            case rel => exact ⟨j+1,by omega,by go_num,by rw[HM2.out],⟨⟨msj,by rw[HM1.out];exact HDj.out⟩,HFj.out⟩⟩
      · have hjj : j = x0.kids.length := by omega
        subst hjj
        have hC:(((qI ns0 0).take x0.kids.length).filter (zP ns0 f)).length=(yO ns0 f).length:=by
         rw[←HKD.out,List.take_length];rfl
        rw[hC]at hCj ⊢
        have hDn:zO w2 (jo (QQ ns0 f t) ns0) g cap msj wr:=by
         have:=qdi ns0 f t;rw[HKD.out]at this
         rw[←this];exact hDj
        have e0:wr.heap[w6.heap.size]?=W7.heap[w6.heap.size]?:=hFj.frame _ hs67 (by omega)
        have hrr:=e0.trans HR7.out
        have hsto:Sto S6 wr sb ns1 n1:=HS7.out.keep hszr (by
         rintro b (hb|rfl)
         · exact hFj.frame b (HS7.out.here b hb).1 (HS6.out b hb)
         · exact hFj.frame _ (by omega) (by omega))
        have hBr:Below w.heap.size w wr:=xG hB7 hFj (by omega)
        have HDN:Hid _:=hDn;have HSTO:Hid _:=hsto;have HRR:Hid _:=hrr;have HBX:Hid _:=(hFj.frame w3.heap.size (by omega) (by omega)).trans HBX7.out
        clear hDj hDn hFj hsto hrr e0 hC HIK HI0 HDj HFj d7 k4;have hlen1:(jo (QQ ns0 f t) ns0).length=ns0.length:=QE _ _
        have HDV:Hid (qu (fun b=>w2.heap.size+1≤b) wr (.slice (some ⟨g,0,none⟩) ns0.length cap) (jo (QQ ns0 f t) ns0)):=by
         have:=HDN.out.nodes;rw[hlen1]at this
         exact this
        by_cases h20:20<(yO ns0 f).length
        · have hne : ¬ yO ns0 f = [] := by intro e;rw[e]at h20;simp at h20
          have hnd:=HND.out.symm;rw[if_neg hne,if_pos h20]at hnd
          simp only[Prod.mk.injEq]at hnd
          obtain ⟨⟨rfl,rfl,rfl⟩,rfl,rfl⟩:=hnd;have p0:wr.cell? ⟨w6.heap.size,0,none⟩=some (.int .i64 2):=by rw[cH9 HRR.out];rfl
          have hi20:(20:Int)<((yO ns0 f).length:Int):=by omega
          clear HND HDV HDN HSTO;go_wp2_with fail;go_ret;exact ⟨rfl,hBr⟩
        · have hi20 : ¬ (20 : Int) < ((yO ns0 f).length : Int) := by omega
          have hcase:ns1=jo (QQ ns0 f t) ns0∧((rc=3∧rn=0∧(yO ns0 f).length=0)∨(rc=0∧rn=((yO ns0 f).length:Int)∧0<(yO ns0 f).length)):=by
           have hnd:=HND.out.symm
           by_cases hne:yO ns0 f=[]
           · rw[if_pos hne]at hnd
             simp only[Prod.mk.injEq]at hnd
             obtain ⟨⟨h1,h2,_⟩,h3,_⟩:=hnd;refine ⟨?_,Or.inl ⟨h1.symm,h2.symm,by rw[hne];rfl⟩⟩
             rw[←h3]
             apply List.ext_getElem?
             intro i;rw[jd];cases ns0[i]? with
             | none=>rfl
             | some x=>simp[QQ,hne]
           · rw[if_neg hne, if_neg h20]at hnd
             simp only[Prod.mk.injEq]at hnd
             obtain ⟨⟨h1,h2,_⟩,h3,_⟩:=hnd;exact ⟨h3.symm,Or.inr ⟨h1.symm,h2.symm,List.length_pos_iff.2 hne⟩⟩
          obtain ⟨hns,hcs⟩:=hcase
          have HC:Hid (∀ W,Below wr.heap.size wr W→Below wr.heap.size wr W∧W.cell? ⟨w3.heap.size,0,none⟩=some (.slice (some ⟨g,0,none⟩) ns0.length cap)∧W.cell? ⟨w6.heap.size,0,none⟩=some (.int .i64 rc)∧W.cell? ⟨w6.heap.size,1,none⟩=some (.int .i64 rn)):=by
           intro W hW;have h1:=(hW.block _ (qh HBX.out)).trans HBX.out;have h2:=(hW.block _ (qh HRR.out)).trans HRR.out;refine ⟨hW,?_,?_,?_⟩
           · rw[cH9 h1];rfl
           · rw[cH9 h2];rfl
           · rw[cH9 h2];rfl
          have HDD:Hid (∀ W,Below wr.heap.size wr W→Calls Tryz.prog 7 #[.pointer (some ⟨sb,0,none⟩)] W fun e w'=>∃ aq cq,e=.returned (.agg #[.slice aq ns1.length cq])∧qu (fun b=>W.heap.size≤b) w' (.slice aq ns1.length cq) ns1∧Below W.heap.size W w'):=by
           intro W hW;refine (XN S6 sb n1 ns1 W (HSTO.out.later hW)).mono ?_;rintro e w' ⟨v,rfl,h1,h2⟩;obtain ⟨aq,cq,rfl,_,_⟩:=h1.shape;exact ⟨aq,cq,rfl,h1,h2⟩
          rw[←hns]at HDV
          have HSD:Hid (∀ W aq cq U,Below wr.heap.size wr W→qu U W (.slice aq ns1.length cq) ns1→Calls Tryz.prog 9 #[.agg #[.slice (some ⟨g,0,none⟩) ns0.length cap],.agg #[.slice aq ns1.length cq]] W fun e w'=>e=.returned (.bool true)∧Below W.heap.size W w'):=by
           intro W aq cq U hW hN;exact Vj _ _ _ _ ns1 W (Y8 (qu.later HDV.out hW) HG1.out) (Y8 hN HG1.out) HG1.out
          clear HND HDN hns hlen1
          rcases hcs with ⟨rfl,rfl,hc0⟩|⟨rfl,rfl,hc0⟩
          · rw[hc0];go_wp2_with fail;have hbn:Below wr.heap.size wr wr.drew:=(Below.refl _ wr).drew
            go_region_held3 (fun W:World=>Below wr.heap.size wr W∧W.cell? ⟨w3.heap.size,0,none⟩=some (.slice (some ⟨g,0,none⟩) ns0.length cap)∧W.cell? ⟨w6.heap.size,0,none⟩=some (.int .i64 3)∧W.cell? ⟨w6.heap.size,1,none⟩=some (.int .i64 0))
             (with_reducible exact HC.out _ hbn)
             (first
              | (go_at_call 7;refine (Calls.mono (HDD.out _ hbn) ?_);clear HDD;rintro e W7 ⟨aq,cq,rfl,hNq,hb7⟩;have hbn:=hbn.trans (hb7.mono hbn.size))
              | (go_at_call 9;refine (Calls.mono (HSD.out _ _ _ _ hbn hNq) ?_);rintro e W8 ⟨rfl,hb8⟩;have hbn:=hbn.trans (hb8.mono hbn.size)))
            all_goals
             have hBn:=hBr.trans (hbn.mono hBr.size);go_wp2_with fail;go_ret;exact ⟨rfl,hBn⟩
          · have hci : (0 : Int) < ((yO ns0 f).length : Int) := by omega
            go_wp2_with fail;have hbn:Below wr.heap.size wr wr.drew:=(Below.refl _ wr).drew;refine wp_region_held_drew (S:=fun W:World=>Below wr.heap.size wr W∧W.cell? ⟨w3.heap.size,0,none⟩=some (.slice (some ⟨g,0,none⟩) ns0.length cap)∧W.cell? ⟨w6.heap.size,0,none⟩=some (.int .i64 0)∧W.cell? ⟨w6.heap.size,1,none⟩=some (.int .i64 ((yO ns0 f).length:Int))) (by kernel_rfl) (HC.out _ hbn) (fun hHeld=>?_)
            refine wqi [0,1,2,3,4,5,6,7,8,9,10,11,12,13,14,15,16] ?_
            repeat (refine wqt (v:=?_) rfl (by kernel_rfl) (fun _ _ _ h=>h) (by rfl) (by assumption) ?_ ?_;rotate_left;(· (intro w hSw;(try dsimp only at hSw);go_simp;try with_reducible rfl));try simp only[Act.put,List.getElem_toArray,List.getElem_cons_succ,List.getElem_cons_zero,List.setIfInBounds_toArray,List.set_cons_zero,List.set_cons_succ])
            refine wqn ?_;refine wqi [17,18,19] ?_
            repeat (refine wqu rfl (by kernel_rfl) (fun _ _ _ h=>h) (by rfl) (by assumption) ?_;try simp only[Act.put,List.getElem_toArray,List.getElem_cons_succ,List.getElem_cons_zero,List.setIfInBounds_toArray,List.set_cons_zero,List.set_cons_succ])
            refine wqn ?_;refine wqi [20,21,22,23,24] ?_
            repeat (refine wqt (v:=?_) rfl (by kernel_rfl) (fun _ _ _ h=>h) (by rfl) (by assumption) ?_ ?_;rotate_left;(· (intro w hSw;(try dsimp only at hSw);go_simp;try with_reducible rfl));try simp only[Act.put,List.getElem_toArray,List.getElem_cons_succ,List.getElem_cons_zero,List.setIfInBounds_toArray,List.set_cons_zero,List.set_cons_succ])
            refine wqn ?_
            have HDX:Hid (Calls Tryz.prog 7 #[.pointer (some ⟨sb,0,none⟩)] wr.drew fun e w'=>∃ r,e=.returned r∧((∃ aq cq,r=.agg #[.slice aq ns1.length cq]∧qu (fun b=>wr.drew.heap.size≤b) w' (.slice aq ns1.length cq) ns1)∧Below wr.drew.heap.size wr.drew w')):=by
             refine (HDD.out _ hbn).mono ?_;rintro e w' ⟨aq,cq,rfl,h1,h2⟩;exact ⟨_,rfl,⟨aq,cq,rfl,h1⟩,h2⟩
            refine wpAnyH_ready (rs:=[25]) (by kernel_rfl) (by simp) ?_
            refine AllReadyH.cons rfl (fun K hK=>?_) AllReadyH.nil
            refine Yi (by rfl) 7 #[.pointer (some ⟨sb,0,none⟩)] (by go_simp) _ HDX.out ?_
            rintro v12 w12 ⟨⟨aq,cq,rfl,hNq⟩,hb12⟩;have hbn:=hbn.trans (hb12.mono hbn.size);refine hK.out _ _ (HC.out w12 hbn) (fun hHeld=>?_)
            clear hK K
            try simp only[Act.put,List.getElem_toArray,List.getElem_cons_succ,List.getElem_cons_zero,List.setIfInBounds_toArray,List.set_cons_zero,List.set_cons_succ]
            have HSX:Hid (Calls Tryz.prog 9 #[.agg #[.slice (some ⟨g,0,none⟩) ns0.length cap],.agg #[.slice aq ns1.length cq]] w12 fun e w'=>∃ r,e=.returned r∧(r=.bool true∧Below w12.heap.size w12 w')):=by
             refine (HSD.out w12 aq cq _ hbn hNq).mono ?_;rintro e w' ⟨rfl,h2⟩;exact ⟨_,rfl,rfl,h2⟩
            refine wpAnyH_ready (rs:=[26]) (by kernel_rfl) (by simp) ?_
            refine AllReadyH.cons rfl (fun K hK=>?_) AllReadyH.nil
            refine Yi (by rfl) 9 #[.agg #[.slice (some ⟨g,0,none⟩) ns0.length cap],.agg #[.slice aq ns1.length cq]] (by go_simp) _ HSX.out ?_
            rintro v13 w13 ⟨rfl,hb13⟩;have hbn:=hbn.trans (hb13.mono hbn.size);refine hK.out _ _ (HC.out w13 hbn) (fun hHeld=>?_)
            clear hK K
            try simp only[Act.put,List.getElem_toArray,List.getElem_cons_succ,List.getElem_cons_zero,List.setIfInBounds_toArray,List.set_cons_zero,List.set_cons_succ]
            refine wqi [27,28] ?_
            repeat (refine wqt (v:=?_) rfl (by kernel_rfl) (fun _ _ _ h=>h) (by rfl) (by assumption) ?_ ?_;rotate_left;(· (intro w hSw;(try dsimp only at hSw);go_simp;try with_reducible rfl));try simp only[Act.put,List.getElem_toArray,List.getElem_cons_succ,List.getElem_cons_zero,List.setIfInBounds_toArray,List.set_cons_zero,List.set_cons_succ])
            refine wqn ?_;refine wpAnyH_done (by kernel_rfl) ?_ _
            have hBn:=hBr.trans (hbn.mono hBr.size);clear hHeld HC HSX HDX HSD HDD;go_wp2_with fail;go_ret;exact ⟨rfl,hBn⟩
end
end Go.Proofs.YtecimajafhoibaaGreatDoor
