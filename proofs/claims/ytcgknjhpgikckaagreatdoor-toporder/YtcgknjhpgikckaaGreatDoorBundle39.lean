/- Bundled: AimW StoM StrsL ChW DocCp StoG StoW StoX StoD AliveM AliveW PlayW TopS StoP StoL OrdM StrsC TRefN TOrdK. What each says stands ahead of it. -/
import Derived.Test.YtcgknjhpgikckaaGreatDoorBundle38
namespace Go.Proofs.YtcgknjhpgikckaaGreatDoor
open Go.ChangeShapes Go.WideShapes Go.ChangeAt Go.RowKit
set_option maxRecDepth 100000
section
attribute [local go_sem] qc
def Zs (o:Opn)(l:List Int):List Opn:=l.map fun n=>{ o with target:=n }
def xA (o:Opn)(ca:Option Addr)(cc:Nat)(l:List Int):List Orw:=l.map fun n=>⟨o.kind,n,ca,o.content.length,cc,o.name,o.s⟩
theorem XG {w w':World}{B:Nat}{e:TypeId}{k n:Nat}{v:Value}{xs:List Value}(h:w.ownsRow B e k v n xs)(hk:∀ g,v.ownBlock=some g→w'.heap[g]?=w.heap[g]?):w'.ownsRow B e k v n xs:=by
 refine ⟨h.1,?_⟩
 rcases h.2 with ⟨rfl,hz⟩|⟨g,cap,cur,rfl,hB,hh,hc,hm,hs,ht⟩
 · exact Or.inl ⟨rfl,hz⟩
 · exact Or.inr ⟨g,cap,cur,rfl,hB,(hk g rfl).trans hh,hc,hm,hs,ht⟩
theorem QH {w:World}{B B':Nat}{e:TypeId}{k n:Nat}{v:Value}{xs:List Value}(h:w.ownsRow B e k v n xs)(hB:B'≤B):w.ownsRow B' e k v n xs:=by
 refine ⟨h.1,?_⟩
 rcases h.2 with ⟨rfl,hz⟩|⟨g,cap,cur,rfl,hB1,hh,hc,hm,hs,ht⟩
 · exact Or.inl ⟨rfl,hz⟩
 · exact Or.inr ⟨g,cap,cur,rfl,Nat.le_trans hB hB1,hh,hc,hm,hs,ht⟩
theorem qaQ (o:Opn)(ca:Option Addr)(cc:Nat){l:List Int}{k:Nat}{t:Int}(h:l[k]?=some t):qC (xA o ca cc (l.take (k+1)))=qC (xA o ca cc (l.take k))++[.int .i64 o.kind,.int .i64 t,.slice ca o.content.length cc,.string o.name,.string o.s]:=by
 have hk:=qd h;have e:l[k]=t:=by simpa[hk] using h
 rw[List.take_succ_eq_append_getElem hk,e];unfold xA qC;rw[List.map_append,List.flatMap_append];rfl
structure qeq (w:World) (o:Opn) (ca:Option Addr) (cc:Nat) (l:List Int) (k:Nat) (v:Value) (wr:World):Prop where
 below:Below w.heap.size w wr
 box:∃ t:Int,wr.heap[w.heap.size]?=some (.cells #[.int .i64 o.kind,.int .i64 t,.slice ca o.content.length cc,.string o.name,.string o.s] 27 (0,0))
 row:wr.ownsRow (w.heap.size+1) 27 5 v k (qC (xA o ca cc (l.take k)))
set_option maxHeartbeats 1000000 in
theorem qaR (T:Nat→Prop)(o:Opn)(ca:Option Addr)(cc:Nat)(vi:Value)(l:List Int)(w:World)(hI:qY T w vi l)(hl:l.length≤1048576) :
 Calls Tryz.prog 60 #[.agg #[.int .i64 o.kind,.int .i64 o.target,.slice ca o.content.length cc,.string o.name,.string o.s],vi] w fun e w'=>∃ v,e=.returned v∧w'.ownsRow w.heap.size 27 5 v l.length (qC (xA o ca cc l))∧Below w.heap.size w w':=by
 obtain ⟨ia,ic,rfl,hil,hic⟩:=hI.shape;obtain ⟨i0,hi,hz0,hz1,hz2⟩:=info_parts opInfo;have HI:Hid _:=hI;have HI0:Hid (qeq w o ca cc l 0 (.slice none 0 0) (w.alloc (.cells #[.int .i64 o.kind,.int .i64 o.target,.slice ca o.content.length cc,.string o.name,.string o.s] 27))):=⟨Below.alloc1 w _,⟨_,heap_alloc_new w _⟩,World.ownsRow_nil _ _ _ _⟩;unfold maxLen at hic
 clear hI
 go_enter Tryz.func60,Tryz.ntmps60
 go_wp2_with fail
 go_loopg [10,5] l.length (fun g i u wr=>∃ (k:Nat) (v:Value),k+g=l.length∧i=.int .i64 k∧v=u∧qeq w o ca cc l k v wr)
 case atStart => exact ⟨0,_,by omega,rfl,rfl,HI0.out⟩
 case round =>
  clear HI0;obtain ⟨k,v,hk,rfl,hvu,hA⟩:=hrel;subst hvu;obtain ⟨t0,hbx⟩:=hA.box;have HB:Hid _:=hA.below;have HRW:Hid _:=hA.row
  by_cases hlt:k<l.length
  · have hlti : (k : Int) < (l.length : Int) := by omega
    obtain ⟨t,ht⟩:∃ t,l[k]?=some t:=⟨l[k],by simp[hlt]⟩
    obtain ⟨b1,o1,c1,hv1,_,_,e1⟩:=(qY.later HI.out HB.out).at ht
    injection hv1 with hv1 hv1l hv1c
    subst hv1 hv1c;clear hv1l;have HSN:Hid _:=qaQ o ca cc ht;have q0:wr.cell? ⟨w.heap.size,0,none⟩=some (.int .i64 o.kind):=by rw[cH9 hbx];rfl
    have q1:wr.cell? ⟨w.heap.size,1,none⟩=some (.int .i64 t0):=by rw[cH9 hbx];rfl
    have q2:wr.cell? ⟨w.heap.size,2,none⟩=some (.slice ca o.content.length cc):=by rw[cH9 hbx];rfl
    have q3:wr.cell? ⟨w.heap.size,3,none⟩=some (.string o.name):=by rw[cH9 hbx];rfl
    have q4:wr.cell? ⟨w.heap.size,4,none⟩=some (.string o.s):=by rw[cH9 hbx];rfl
    have qf:wr.frozen? ⟨w.heap.size,1,none⟩=false:=fH9 hbx _
    have hbx1:(wr.setCell ⟨w.heap.size,1,none⟩ (.int .i64 t)).heap[w.heap.size]?=some (.cells #[.int .i64 o.kind,.int .i64 t,.slice ca o.content.length cc,.string o.name,.string o.s] 27 (0,0)):=by
     simp[World.setCell,Array.getElem?_modify,hbx]
    have hrow1:(wr.setCell ⟨w.heap.size,1,none⟩ (.int .i64 t)).ownsRow (w.heap.size+1) 27 5 v k (qC (xA o ca cc (l.take k))):=XG HRW.out (fun g hg=>qb (by have:=(World.ownsRow.lt HRW.out g hg).1;omega))
    have hB1:Below w.heap.size w (wr.setCell ⟨w.heap.size,1,none⟩ (.int .i64 t)):=HB.out.setCell (p:=⟨w.heap.size,1,none⟩) (nR9 _) _;have p0:(wr.setCell ⟨w.heap.size,1,none⟩ (.int .i64 t)).cell? ⟨w.heap.size,0,none⟩=some (.int .i64 o.kind):=by rw[cH9 hbx1];rfl
    have p1:(wr.setCell ⟨w.heap.size,1,none⟩ (.int .i64 t)).cell? ⟨w.heap.size,1,none⟩=some (.int .i64 t):=by rw[cH9 hbx1];rfl
    have p2:(wr.setCell ⟨w.heap.size,1,none⟩ (.int .i64 t)).cell? ⟨w.heap.size,2,none⟩=some (.slice ca o.content.length cc):=by rw[cH9 hbx1];rfl
    have p3:(wr.setCell ⟨w.heap.size,1,none⟩ (.int .i64 t)).cell? ⟨w.heap.size,3,none⟩=some (.string o.name):=by rw[cH9 hbx1];rfl
    have p4:(wr.setCell ⟨w.heap.size,1,none⟩ (.int .i64 t)).cell? ⟨w.heap.size,4,none⟩=some (.string o.s):=by rw[cH9 hbx1];rfl
    have HX1:Hid _:=hbx1;have HW1:Hid _:=hrow1;have HB1:Hid _:=hB1;have hszw:w.heap.size<wr.heap.size:=qg hbx;clear hbx hbx1 hrow1 hB1 ht hA HRW;go_wp2_with (at_builtin;refine wpList_append_own_at _ rfl _ _ 91 rfl (w.heap.size+1) 27 i0 _ 5 72 Tryz.underlying91 hi hz0 hz1 hz2 rfl (by decide) v k (qC (xA o ca cc (l.take k))) rfl ?qc0 ⟨wr.heap.size,0,none⟩ 1 1 [.int .i64 o.kind,.int .i64 t,.slice ca o.content.length cc,.string o.name,.string o.s] rfl ?qc1 ?qc2 ?qc3 ?qc4 ?qc5 ?qc6 ?_)
    case qc0 => exact World.ownsRow.alloc HW1.out _
    case qc1 => rfl
    case qc2 =>
     intro j u hj;have hnew:=heap_alloc_new (wr.setCell ⟨w.heap.size,1,none⟩ (.int .i64 t)) (.cells #[.int .i64 o.kind,.int .i64 t,.slice ca o.content.length cc,.string o.name,.string o.s] 27);rw[World.size_setCell]at hnew
     rw[Addr.add_lit,Nat.zero_add,cH9 hnew]
     simpa using hj
    case qc3 =>
     intro u hu;simp only[List.mem_cons,List.not_mem_nil,or_false]at hu
     rcases hu with rfl|rfl|rfl|rfl|rfl<;>rfl
    case qc4 => unfold maxLen;omega
    case qc5 => omega
    case qc6 => simp;omega
    intro v2 W2 hown hgr _ _;have hbA:=Below.alloc1 (wr.setCell ⟨w.heap.size,1,none⟩ (.int .i64 t)) (.cells #[.int .i64 o.kind,.int .i64 t,.slice ca o.content.length cc,.string o.name,.string o.s] 27)
    have HI2:Hid (qeq w o ca cc l (k+1) v2 W2):=by
     have hB2:Below (w.heap.size+1) ((wr.setCell ⟨w.heap.size,1,none⟩ (.int .i64 t)).alloc (.cells #[.int .i64 o.kind,.int .i64 t,.slice ca o.content.length cc,.string o.name,.string o.s] 27)) W2:=(Below.refl _ _).grown hgr (by simp;omega) (fun z hz=>(World.ownsRow.lt HW1.out z hz).1)
     have hBA:Below w.heap.size w ((wr.setCell ⟨w.heap.size,1,none⟩ (.int .i64 t)).alloc (.cells #[.int .i64 o.kind,.int .i64 t,.slice ca o.content.length cc,.string o.name,.string o.s] 27)):=HB1.out.alloc HB1.out.size _;refine ⟨hBA.trans (hB2.mono (by omega)),⟨t,?_⟩,?_⟩
     · exact (hB2.block _ (by omega)).trans ((hbA.block _ (qg HX1.out)).trans HX1.out)
     · rw[HSN.out];exact hown
    clear hown hgr hbA HX1 HW1 HB1 HSN p0 p1 p2 p3 p4 q0 q1 q2 q3 q4 qf;go_wp2_with fail
    go_roundg (l.length-(k+1))
    case measure => omega
    case rel => exact ⟨k+1,v2,by omega,by go_num,rfl,HI2.out⟩
  · have hlti : ¬ ((k : Int) < (l.length : Int)) := by omega
    have hkk:k=l.length:=by omega
    subst hkk;clear hA;go_wp2_with fail;go_ret;refine ⟨v,rfl,?_,HB.out⟩;have:=HRW.out;rw[List.take_length]at this
    exact QH this (by omega)
end
end Go.Proofs.YtcgknjhpgikckaaGreatDoor
namespace Go.Proofs.YtcgknjhpgikckaaGreatDoor
open Go.RowKit
set_option maxRecDepth 100000
abbrev Rep:=Int × Int × ByteArray
def qO (c:Int):Rep:=(c,0,⟨#[]⟩)
def qv (ns:List Nd):List ByteArray→List Opn × Int
 | []=>([],0)
 | s :: r =>
   if (qw s.data.toList).2.2≠0 then ([],(qw s.data.toList).2.2)
   else if Ql ns (qw s.data.toList).2.1≠0 then ([],Ql ns (qw s.data.toList).2.1)
   else if xx ns (qw s.data.toList).2.1=[] then ([],3)
   else if (qv ns r).2≠0 then ([],(qv ns r).2)
   else (Zs (qw s.data.toList).1 (xx ns (qw s.data.toList).2.1)++(qv ns r).1,0)
def QT (l:List ByteArray)(ns:List Nd):Rep × List Nd :=
 match l with
 | [s]=>if (qB s.data.toList).2≠0 then (qO (qB s.data.toList).2,ns) else ((0,((yq s.data.toList.length (qB s.data.toList).1).length:Int),⟨#[]⟩),yq s.data.toList.length (qB s.data.toList).1)
 | _=>(qO 1,ns)
def ZL (ns:List Nd):Rep :=
 if (jq ns 0).2≠0 then qO (jq ns 0).2
 else if (yT ns.length (jq ns 0).1).2≠0 then qO (yT ns.length (jq ns 0).1).2
 else (0,(ns.length:Int),(yT ns.length (jq ns 0).1).1)
def zF (l:List ByteArray)(ns:List Nd):Rep × List Nd :=
 if 6<l.length then (qO 2,ns)
 else if (qv ns l).2≠0 then (qO (qv ns l).2,ns)
 else if q5 ns (qv ns l).1≠0 then (qO (q5 ns (qv ns l).1),ns)
 else ((0,((qv ns l).1.length:Int),⟨#[]⟩),zn ns (qv ns l).1)
structure Ac where
 kind:Int
 lines:List ByteArray
def y8 (a:Ac)(ns:List Nd):Rep × List Nd :=
 if a.kind=1 then QT a.lines ns else if a.kind=2 then zF a.lines ns else if a.kind=3 then (ZL ns,ns) else (qO 4,ns)
def yp (a:Ac)(ns:List Nd)(n:Nat):Rep × List Nd × Nat :=
 if 100≤n then (qO 7,ns,n) else ((y8 a ns).1,(y8 a ns).2,n+1)
def newD:List Nd:=[⟨false,⟨#[100,111,99]⟩,[],-1,[]⟩]
theorem KK (s:ByteArray):Qq (ye s):=by
 intro x hx;unfold ye at hx
 cases hp:xM s.data.toList with
 | none=>rw[hp]at hx;simp[asS]at hx
 | some l =>
   rw[hp]at hx
   simp only[Option.getD_some]at hx
   have hl:YV l=true:=by
    unfold xM at hp
    split at hp
    · split at hp
      · cases hp
      · split at hp
        · rename_i h;cases hp;exact h
        · cases hp
    · cases hp
   rw[←qaG]at hl
   simp only[yW,Bool.and_eq_true,List.all_eq_true]at hl
   have h1:=hl.2 x hx;simp only[zV,Bool.and_eq_true,Bool.or_eq_true,decide_eq_true_eq]at h1
   rcases h1.2 with (h|h)|h
   · rw[h];exact nZ9 _
   · rw[h];show 1≤maxLen;unfold maxLen;omega
   · have:=Zk h;unfold maxLen;omega
theorem VL (s:List UInt8):Qq (qw s).2.1:=by
 have h0:Qq []:=by intro x hx;cases hx
 unfold qw
 split
 · exact h0
 · split
   · exact h0
   · split
     · exact h0
     · split
       · exact h0
       · exact KK _
theorem qeb {ns:List Nd}{l:List St}:(xx ns l).length≤80:=by
 unfold xx
 split
 · rename_i h
   simp only[Bool.and_eq_true]at h
   have hne:l≠[]:=by
    intro e;have:=h.2;rw[e]at this
    simp[yW]at this
   exact Nat.le_trans (Z7 h.1 (qda h.1 hne)) (Qf h.1)
 · exact nZ9 _
end Go.Proofs.YtcgknjhpgikckaaGreatDoor
namespace Go.Proofs.YtcgknjhpgikckaaGreatDoor
open Go.ChangeShapes Go.WideShapes Go.ChangeAt Go.RowKit
set_option maxRecDepth 100000
def Strs (S:Nat→Prop)(w:World)(v:Value)(l:List ByteArray):Prop :=
  ∃ a cap, v = .slice a l.length cap ∧ l.length ≤ cap ∧ cap ≤ maxLen ∧
    (l≠[]→∃ b o,a=some ⟨b,o,none⟩∧S b∧∀ (i:Nat) (x:ByteArray),l[i]?=some x→w.cell? ⟨b,o+i,none⟩=some (.string x))
theorem Strs.carry {S S':Nat→Prop}{w w':World}{v:Value}{l:List ByteArray}(h:Strs S w v l)(hw:∀ b,S b→S' b∧w'.heap[b]?=w.heap[b]?):Strs S' w' v l:=by
 obtain ⟨a,cap,h1,h2,h3,h4⟩:=h;refine ⟨a,cap,h1,h2,h3,fun hne=>?_⟩
 obtain ⟨b,o,ha,hs,hc⟩:=h4 hne;refine ⟨b,o,ha,(hw b hs).1,fun i x hx=>?_⟩
 rw[World.cell?_of_block (a:=⟨b,o+i,none⟩) (hw b hs).2];exact hc i x hx
theorem Strs.bounded {S:Nat→Prop}{w:World}{v:Value}{l:List ByteArray}(h:Strs S w v l):Strs (fun b=>S b∧b<w.heap.size) w v l:=by
 obtain ⟨a,cap,h1,h2,h3,h4⟩:=h;refine ⟨a,cap,h1,h2,h3,fun hne=>?_⟩
 obtain ⟨b,o,ha,hs,hc⟩:=h4 hne;refine ⟨b,o,ha,⟨hs,?_⟩,hc⟩;cases l with
 | nil=>exact absurd rfl hne
 | cons x r=>exact World.block_lt_of_cell? w _ (hc 0 x rfl)
theorem Strs.later {S:Nat→Prop}{w w':World}{v:Value}{l:List ByteArray}(h:Strs S w v l)(hb:Below w.heap.size w w'):Strs S w' v l :=
 h.bounded.carry fun b hb'=>⟨hb'.1,hb.block b hb'.2⟩
theorem Strs.shape {S:Nat→Prop}{w:World}{v:Value}{l:List ByteArray}(h:Strs S w v l):∃ a c,v=.slice a l.length c∧l.length≤c∧c≤maxLen:=by
 obtain ⟨a,cap,h1,h2,h3,_⟩:=h;exact ⟨a,cap,h1,h2,h3⟩
theorem Strs.at {S:Nat→Prop}{w:World}{v:Value}{l:List ByteArray}(h:Strs S w v l){i:Nat}{x:ByteArray}(hx:l[i]?=some x):∃ b o cap,v=.slice (some ⟨b,o,none⟩) l.length cap∧S b∧b<w.heap.size∧w.cell? ⟨b,o+i,none⟩=some (.string x):=by
 obtain ⟨a,cap,h1,h2,h3,h4⟩:=h;have hne:l≠[]:=by intro e;subst e;simp at hx
 obtain ⟨b,o,rfl,hs,hc⟩:=h4 hne;exact ⟨b,o,cap,h1,hs,World.block_lt_of_cell? w _ (hc i x hx),hc i x hx⟩
theorem Strs.nil {S:Nat→Prop}{w:World}:Strs S w (.slice none 0 0) []:=⟨none,0,rfl,nR9 _,nZ9 _,fun h=>absurd rfl h⟩
section
attribute [local go_sem] qc
def xn (acc:List Opn)(p:List Opn × Int):List Opn × Int:=if p.2≠0 then ([],p.2) else (acc++p.1,0)
theorem qdA (ns:List Nd):∀ l:List ByteArray,(qv ns l).2≠0→(qv ns l).1=[]:=by
 intro l h;cases l with
 | nil=>rfl
 | cons s r =>
   unfold qv at h ⊢
   split
   · rfl
   · split
     · rfl
     · split
       · rfl
       · split
         · rfl
         · rename_i h1 h2 h3 h4
           rw[if_neg h1,if_neg h2,if_neg h3,if_neg h4]at h
           exact absurd rfl h
theorem qcx (ns:List Nd)(l:List ByteArray):xn [] (qv ns l)=qv ns l:=by
 unfold xn
 split
 · rename_i h
   exact Prod.ext (qdA ns l h).symm rfl
 · rename_i h
   exact Prod.ext (by simp) (by simpa using (Classical.not_not.1 h).symm)
theorem qbh (a b:List Opn)(p:List Opn × Int):xn a (xn b p)=xn (a++b) p:=by
 unfold xn
 by_cases h:p.2≠0
 · rw[if_pos h,if_pos h,if_pos h]
 · rw[if_neg h,if_neg h,if_neg (by simp),List.append_assoc]
theorem qcf {ns:List Nd}{s:ByteArray}{r:List ByteArray}(h1:(qw s.data.toList).2.2=0)(h2:Ql ns (qw s.data.toList).2.1=0)(h3:xx ns (qw s.data.toList).2.1≠[]):qv ns (s::r)=xn (Zs (qw s.data.toList).1 (xx ns (qw s.data.toList).2.1)) (qv ns r):=by
 rw[qv,if_neg (by simpa using h1),if_neg (by simpa using h2),if_neg h3]
 rfl
structure ChI (w:World) (ns:List Nd) (vd:Value) (ls:List ByteArray) (k:Nat) (v:Value) (wr:World):Prop where
 below:Below w.heap.size w wr
 box:wr.heap[w.heap.size]?=some (.cells #[vd] 44 (0,0))
 rest:∃ (acc:List Opn) (rs:List Orw),wr.ownsRow (w.heap.size+1) 27 5 v acc.length (qC rs)∧rs.length=acc.length ∧
  (∀ (i:Nat) r x,rs[i]?=some r→acc[i]?=some x→Jc (fun b=>w.heap.size+1≤b∧b<wr.heap.size∧v.ownBlock≠some b) wr 2501 r x)∧acc.length≤80*k∧qv ns ls=xn acc (qv ns (ls.drop k))
theorem qds {T:Nat→Prop}{w:World}{n:Nat}{o:Opn}{ca:Option Addr}{cc:Nat}(l:List Int)(hT:qa T w n (.slice ca o.content.length cc) o.content):∀ (i:Nat) r x,(xA o ca cc l)[i]?=some r→(Zs o l)[i]?=some x→Jc T w n r x:=by
 intro i r x hr hx;unfold xA at hr
 unfold Zs at hx
 rw[List.getElem?_map]at hr hx
 cases hl:l[i]? with
 | none=>rw[hl]at hr;simp at hr
 | some t =>
   rw[hl]at hr hx
   simp only[Option.map_some,Option.some.injEq]at hr hx
   subst hr hx;exact ⟨rfl,rfl,rfl,rfl,ca,cc,rfl,hT⟩
theorem Jc.carry {T T':Nat→Prop}{w w':World}{n:Nat}{r:Orw}{x:Opn}(h:Jc T w n r x)(hw:∀ b,T b→T' b∧w'.heap[b]?=w.heap[b]?):Jc T' w' n r x:=by
 obtain ⟨e1,e2,e3,e4,ca,cc,e5,hT⟩:=h;exact ⟨e1,e2,e3,e4,ca,cc,e5,qa.carry hw n hT⟩
set_option maxHeartbeats 2000000 in
theorem Kj (S:Nat→Prop)(vd vl:Value)(ns:List Nd)(ls:List ByteArray)(w:World)(hD:QK S w vd ns)(hL:Strs S w vl ls)(hE:yN w)(h6:ls.length≤6)(hT:∀ s∈ls,s.size≤maxLen) :
 Calls Tryz.prog 35 #[.agg #[vd],vl] w fun e w'=>∃ v,e=.returned (.tuple #[v,.int .i64 (qv ns ls).2])∧Ops (fun b=>w.heap.size≤b) w' 2501 v (qv ns ls).1∧Below w.heap.size w w':=by
 obtain ⟨la,lc,rfl,hll,hlc⟩:=hL.shape;obtain ⟨na,nc,rfl,hnl,hnc⟩:=hD.nodes.shape;obtain ⟨i0,hi,hz0,hz1,hz2⟩:=info_parts opInfo;have HD:Hid _:=hD;have HL:Hid (Strs S w (.slice la ls.length lc) ls):=hL;have HT:Hid _:=hT;have HEV:Hid (∀ W,Below w.heap.size w W→yN W):=fun W hW=>hE.later hW
 have HI0:Hid (ChI w ns (.slice na ns.length nc) ls 0 (.slice none 0 0) (w.alloc (.cells #[.slice na ns.length nc] 44))):=⟨Below.alloc1 w _,heap_alloc_new w _,[],[],World.ownsRow_nil _ _ _ _,rfl,by intro i r x hr;simp at hr,nR9 _,by rw[List.drop_zero,qcx]⟩
 unfold maxLen at hlc hnc
 clear hD hL hE hT;have noOps:∀ W:World,Ops (fun b=>w.heap.size≤b) W 2501 (.slice none 0 0) []:=fun W=>⟨none,0,rfl,nR9 _,nZ9 _,fun h=>absurd rfl h⟩
 have HNO:Hid _:=noOps;clear noOps
 go_enter Tryz.func35,Tryz.ntmps35
 go_wp2_with fail
 go_loopg [15,6] ls.length (fun g i u wr=>∃ (k:Nat) (v:Value),k+g=ls.length∧i=.int .i64 k∧v=u∧ChI w ns (.slice na ns.length nc) ls k v wr)
 case atStart => exact ⟨0,_,by omega,rfl,rfl,HI0.out⟩
 case round =>
  clear HI0;obtain ⟨k,v,hk,rfl,hvu,hA⟩:=hrel;subst hvu;have HB:Hid _:=hA.below;have HBX:Hid _:=hA.box;obtain ⟨acc,rs,hrow,hrl,hraw,hal,hst⟩:=hA.rest;have HRW:Hid _:=hrow;have HRR:Hid _:=hraw;have HST:Hid _:=hst;clear hrow hraw hst hA
  by_cases hlt:k<ls.length
  · have hlti : (k : Int) < (ls.length : Int) := by omega
    obtain ⟨s,hs⟩:∃ s,ls[k]?=some s:=⟨ls[k],by simp[hlt]⟩
    have hdr:ls.drop k=s::ls.drop (k+1):=by
     rw[List.drop_eq_getElem_cons hlt];congr 1;simpa[hlt] using hs
    rw[hdr]at HST
    obtain ⟨b1,o1,c1,hv1,_,_,e1⟩:=(Strs.later HL.out HB.out).at hs
    injection hv1 with hv1 hv1l hv1c
    subst hv1 hv1c;clear hv1l;have hsz:=HT.out s (List.mem_of_getElem? hs)
    have HLN:Hid (Calls Tryz.prog 5 #[.string s] wr fun e w'=>xX s.data.toList wr e w'):=by
     have:=KE s.data.toList wr (HEV.out wr HB.out) (by rw[yo];unfold maxLen at hsz;omega)
     rw[Yo]at this
     exact this
    clear hs hdr hsz;go_wp2_with fail;refine Calls.mono HLN.out ?_;rintro e w1 ⟨a1,cc1,vs1,rfl,htg,hT1,hS1,hb1⟩;obtain ⟨sa,sc,rfl,_,_⟩:=hS1.shape;have HNM:Hid _:=VL s.data.toList;obtain ⟨Q,hQ⟩:∃ Q,qw s.data.toList=Q:=⟨_,rfl⟩
    have HCC:Hid (Q.2.2=0→Ql ns Q.2.1=0→xx ns Q.2.1≠[]→qv ns (s::ls.drop (k+1))=xn (Zs Q.1 (xx ns Q.2.1)) (qv ns (ls.drop (k+1)))):=by
     rw[←hQ];exact qcf
    have HC1:Hid (Q.2.2≠0→qv ns ls=([],Q.2.2)):=by
     intro h;rw[HST.out,qv,hQ,if_pos h];unfold xn;rw[if_pos h]
    have HC2:Hid (Q.2.2=0→Ql ns Q.2.1≠0→qv ns ls=([],Ql ns Q.2.1)):=by
     intro h h2;rw[HST.out,qv,hQ,if_neg (by simpa using h),if_pos h2];unfold xn;rw[if_pos h2]
    have HC3:Hid (Q.2.2=0→Ql ns Q.2.1=0→xx ns Q.2.1=[]→qv ns ls=([],3)):=by
     intro h h2 h3;rw[HST.out,qv,hQ,if_neg (by simpa using h),if_neg (by simpa using h2),if_pos h3];unfold xn;rw[if_pos (by decide)]
    rw[hQ]at htg hT1 hS1 HNM ⊢
    clear hQ HLN;obtain ⟨o,st,le⟩:=Q;simp only at htg hT1 hS1 HNM HCC HC1 HC2 HC3 ⊢
    have hb2:=Below.alloc1 w1 (.cells #[.int .i64 o.kind,.int .i64 0,.slice a1 o.content.length cc1,.string o.name,.string o.s] 27);have hb12:=hb1.trans (hb2.mono hb1.size);have HO2:Hid _:=heap_alloc_new w1 (.cells #[.int .i64 o.kind,.int .i64 0,.slice a1 o.content.length cc1,.string o.name,.string o.s] 27);have HT1:Hid (qa (fun b=>wr.heap.size≤b∧b<w1.heap.size) (w1.alloc (.cells #[.int .i64 o.kind,.int .i64 0,.slice a1 o.content.length cc1,.string o.name,.string o.s] 27)) 2501 (.slice a1 o.content.length cc1) o.content):=qa.carry (fun b hb=>⟨hb,hb2.block b hb.2⟩) _ (qa.bounded _ hT1)
    have HT2:Hid True:=trivial;have HOV:Hid (∀ z,v.ownBlock=some z→w.heap.size+1≤z∧z<wr.heap.size):=fun z hz=>World.ownsRow.lt HRW.out z hz
    have HS2:Hid _:=zL.later hS1 hb2;have hB2:=HB.out.trans (hb12.mono HB.out.size);have HBX2:Hid _:=(hb12.block _ (qg HBX.out)).trans HBX.out;have HRW2:Hid _:=ql HRW.out hb12;have x2:(w1.alloc (.cells #[.int .i64 o.kind,.int .i64 0,.slice a1 o.content.length cc1,.string o.name,.string o.s] 27)).cell? ⟨w.heap.size,0,none⟩=some (.slice na ns.length nc):=by rw[cH9 HBX2.out];rfl
    have hs12:wr.heap.size≤(w1.alloc (.cells #[.int .i64 o.kind,.int .i64 0,.slice a1 o.content.length cc1,.string o.name,.string o.s] 27)).heap.size:=hb12.size;have HB12:Hid _:=hb12;have hw1:wr.heap.size≤w1.heap.size:=hb1.size;have hw12:w1.heap.size≤(w1.alloc (.cells #[.int .i64 o.kind,.int .i64 0,.slice a1 o.content.length cc1,.string o.name,.string o.s] 27)).heap.size:=hb2.size;have hwr0:w.heap.size<wr.heap.size:=qg HBX.out;clear hT1 hS1 hb1 hb2 HBX HRW e1 hb12
    by_cases hle:le=0
    case neg =>
     have hleb:(le==0)=false:=by simpa using hle
     have HE:Hid _:=HC1.out hle;clear HC1 HC2 HC3 HCC hle;go_wp2_with fail
     go_ret2
     exact ⟨.slice none 0 0,by rw[HE.out];rfl,by rw[HE.out];exact HNO.out _,hB2⟩
    case pos =>
     subst hle;have HSL:Hid _:=V1 (fun b=>b<(w1.alloc (.cells #[.int .i64 o.kind,.int .i64 0,.slice a1 o.content.length cc1,.string o.name,.string o.s] 27)).heap.size) _ _ ns st _ ⟨(HD.out.later hB2).nodes.carry fun b hb=>⟨(HD.out.later hB2).here b hb,rfl⟩,fun b hb=>hb,HD.out.few,HD.out.short⟩ ((zL.bounded HS2.out).carry fun b hb=>⟨hb.2,rfl⟩) HNM.out
     go_wp2_with fail
     generalize w1.alloc (.cells #[.int .i64 o.kind,.int .i64 0,.slice a1 o.content.length cc1,.string o.name,.string o.s] 27)=W2 at *
     refine Calls.mono HSL.out ?_;rintro e w3 ⟨v3,rfl,hI3,hb3⟩;obtain ⟨ia,ic,rfl,_,hic⟩:=hI3.shape;have HI3:Hid _:=hI3;have hB3:=hB2.trans (hb3.mono hB2.size);have HO3:Hid _:=(hb3.block _ (qg HO2.out)).trans HO2.out;have hsl:(xx ns st).length≤80:=qeb;obtain ⟨E,hE⟩:∃ E,Ql ns st=E:=⟨_,rfl⟩;obtain ⟨D,hD⟩:∃ D,xx ns st=D:=⟨_,rfl⟩;rw[hE]at HCC HC2 HC3 ⊢
     rw[hD]at HCC HC3 HI3 hsl ⊢
     clear hE hD HSL hI3
     by_cases hE0:E=0
     case neg =>
      have hEb:(E==0)=false:=by simpa using hE0
      have HE:Hid _:=HC2.out (by trivial) hE0
      clear HC1 HC2 HC3 HCC hE0;go_wp2_with fail
      go_ret2
      exact ⟨.slice none 0 0,by rw[HE.out];rfl,by rw[HE.out];exact HNO.out _,hB3⟩
     case pos =>
      subst hE0
      by_cases hD0:D=[]
      · have HE : Hid _ := HC3.out (by trivial) (by trivial) hD0
        subst hD0;clear HC1 HC2 HC3 HCC;go_wp2_with fail
        go_ret2
        exact ⟨.slice none 0 0,by rw[HE.out];rfl,by rw[HE.out];exact HNO.out _,hB3⟩
      · have hDl : 0 < D.length := List.length_pos_iff.2 hD0;have hDb:((D.length:Int)==0)=false:=beq_eq_false_iff_ne.2 (by omega)
        have HE:Hid _:=HCC.out (by trivial) (by trivial) hD0
        have z0:w3.cell? ⟨w1.heap.size,0,none⟩=some (.int .i64 o.kind):=by rw[cH9 HO3.out];rfl
        have z1:w3.cell? ⟨w1.heap.size,1,none⟩=some (.int .i64 0):=by rw[cH9 HO3.out];rfl
        have z2:w3.cell? ⟨w1.heap.size,2,none⟩=some (.slice a1 o.content.length cc1):=by rw[cH9 HO3.out];rfl
        have z3:w3.cell? ⟨w1.heap.size,3,none⟩=some (.string o.name):=by rw[cH9 HO3.out];rfl
        have z4:w3.cell? ⟨w1.heap.size,4,none⟩=some (.string o.s):=by rw[cH9 HO3.out];rfl
        have HAM:Hid (Calls Tryz.prog 60 #[.agg #[.int .i64 o.kind,.int .i64 0,.slice a1 o.content.length cc1,.string o.name,.string o.s],.slice ia D.length ic] w3 fun e w'=>∃ v,e=.returned v∧w'.ownsRow w3.heap.size 27 5 v D.length (qC (xA o a1 cc1 D))∧Below w3.heap.size w3 w'):=by
         have:=qaR _ o a1 cc1 _ D w3 HI3.out (by omega)
         rw[htg]at this
         exact this
        clear HC1 HC2 HC3 HCC;go_wp2_with fail;refine Calls.mono HAM.out ?_;rintro e w4 ⟨v4,rfl,hw4,hb4⟩;have hB4:=hB3.trans (hb4.mono hB3.size)
        obtain ⟨g4,cap4,rfl,hg4a,hg4b⟩:∃ g cap,v4=.slice (some ⟨g,0,none⟩) D.length cap∧w3.heap.size≤g∧g<w4.heap.size:=by
         rcases hw4.2 with ⟨_,h0⟩|⟨g,cap,cur,rfl,hg,hh,hc,hm,hs,ht⟩
         · omega
         · exact ⟨g,cap,rfl,hg,qg hh⟩
        have hb24:=hb3.trans (hb4.mono hb3.size);have HRW4:Hid _:=ql HRW2.out hb24;have HBX4:Hid _:=(hb24.block _ (qg HBX2.out)).trans HBX2.out;have hcl:=zH (xA o a1 cc1 D);have hal2:(xA o a1 cc1 D).length=D.length:=List.length_map _
        have HCE:Hid (∀ j u,(qC (xA o a1 cc1 D))[j]?=some u→w4.cell? ((⟨g4,0,none⟩:Addr).add j)=some u):=by
         intro j u hj;have hjl:=qd hj;rw[Addr.add_lit,Nat.zero_add,World.ownsRow.cellAt hw4 j (by omega)]
         exact hj
        have H1C:Hid (∀ u∈qC (xA o a1 cc1 D),u.oneCell'=true):=by
         intro u hu;obtain ⟨r,hr,hu⟩:=List.mem_flatMap.1 hu;exact Yy r u hu
        have HRAW:Hid (∀ (i:Nat) r x,(rs++xA o a1 cc1 D)[i]?=some r→(acc++Zs o D)[i]?=some x→Jc (fun b=>(w.heap.size+1≤b∧b<wr.heap.size∧v.ownBlock≠some b)∨(wr.heap.size≤b∧b<w1.heap.size)) w4 2501 r x):=by
         have hbr4:Below wr.heap.size wr w4:=HB12.out.trans (hb24.mono hs12);intro i r x hr hx
         by_cases hil:i<rs.length
         · rw[List.getElem?_append_left hil]at hr
           rw[List.getElem?_append_left (by omega)]at hx
           exact (HRR.out i r x hr hx).carry fun b hb=>⟨Or.inl hb,hbr4.block b hb.2.1⟩
         · rw[List.getElem?_append_right (by omega)]at hr
           rw[List.getElem?_append_right (by omega),←hrl]at hx
           refine (qds (T:=fun b=>wr.heap.size≤b∧b<w1.heap.size) D ?_ _ r x hr hx).carry (fun b hb=>⟨Or.inr hb,rfl⟩)
           exact qa.carry (fun b hb=>⟨hb,hb24.block b (by have:=hb.2;omega)⟩) _ HT1.out
        have hszA:w.heap.size+1≤w4.heap.size:=by have:=qg HBX4.out;omega
        have hov:∀ z,v.ownBlock=some z→w.heap.size+1≤z∧z<wr.heap.size:=fun z hz=>HOV.out z hz
        have HOV4:Hid _:=hov;have hsz14:w1.heap.size≤w4.heap.size:=Nat.le_trans hw12 hb24.size;have hszr4:wr.heap.size≤w4.heap.size:=by omega
        clear hw4 hb4 hb3 hb24 HRW2 HBX2 HO2 HO3 HT2 HS2 HI3 HAM z0 z1 z2 z3 z4 hov HNM x2;go_wp2_with (at_builtin;refine wpList_append_own_at _ rfl _ _ 91 rfl (w.heap.size+1) 27 i0 _ 5 72 Tryz.underlying91 hi hz0 hz1 hz2 rfl (by decide) v acc.length (qC rs) rfl ?qc0 ⟨g4,0,none⟩ D.length cap4 (qC (xA o a1 cc1 D)) rfl ?qc1 ?qc2 ?qc3 ?qc4 ?qc5 ?qc6 ?_)
        case qc0 => exact HRW4.out
        case qc1 => omega
        case qc2 => exact HCE.out
        case qc3 => exact H1C.out
        case qc4 => unfold maxLen;omega
        case qc5 => omega
        case qc6 => exact hszA
        intro v5 W5 hown hgr _ hob
        have HI5:Hid (ChI w ns (.slice na ns.length nc) ls (k+1) v5 W5):=by
         have hB5:Below (w.heap.size+1) w4 W5:=(Below.refl _ _).grown hgr hszA (fun z hz=>(HOV4.out z hz).1)
         refine ⟨hB4.trans (hB5.mono (by omega)),(hB5.block _ (by omega)).trans HBX4.out,acc++Zs o D,rs++xA o a1 cc1 D,?_,?_,?_,?_,?_⟩
         · have : qC (rs ++ xA o a1 cc1 D) = qC rs ++ qC (xA o a1 cc1 D) := List.flatMap_append;rw[this,List.length_append,show (Zs o D).length=D.length from List.length_map _]
           exact hown
         · rw[List.length_append,List.length_append,hrl,hal2,show (Zs o D).length=D.length from List.length_map _]
         · intro i r x hr hx;refine (HRAW.out i r x hr hx).carry fun b hb=>?_
           have hbl:b<w4.heap.size:=by rcases hb with hb|hb<;>omega
           have hne:v.ownBlock≠some b:=by
            rcases hb with hb|hb
            · exact hb.2.2
            · intro he;have:=(HOV4.out b he).2;omega
           refine ⟨⟨by rcases hb with hb|hb;exact hb.1;have:=hB2.size;omega,Nat.lt_of_lt_of_le hbl hgr.size,?_⟩,hgr.block b hbl (fun e=>hne e.symm)⟩
           rcases hob with h|h
           · rw[h];exact hne
           · rw[h];intro e;injection e with e;omega
         · rw[List.length_append,show (Zs o D).length=D.length from List.length_map _];omega
         · rw[HST.out,HE.out,qbh]
        clear hown hgr hob HRAW HCE H1C HRW4 HBX4 HE HST HOV4;go_wp2_with fail
        go_roundg (ls.length-(k+1))
        case measure => omega
        case rel => exact ⟨k+1,v5,by omega,by go_num,rfl,HI5.out⟩
  · have hlti : ¬ ((k : Int) < (ls.length : Int)) := by omega
    have hkk:k=ls.length:=by omega
    subst hkk
    have HE:Hid (qv ns ls=(acc,0)):=by
     show _=_
     rw[HST.out,List.drop_length];unfold xn qv;simp
    go_wp2_with fail
    go_ret2
    refine ⟨v,by rw[HE.out];rfl,?_,HB.out⟩
    rw[HE.out];obtain ⟨a',c',h1,h2,h3,h4⟩:=KR HRW.out hrl HRR.out;refine ⟨a',c',h1,h2,h3,fun hne=>?_⟩
    obtain ⟨b',o',q1,q2,q3⟩:=h4 hne;refine ⟨b',o',q1,?_,fun i x hx=>?_⟩
    · have := (World.ownsRow.lt HRW.out b' q2).1;omega
    · obtain ⟨ca', cc', d0, d1, d2, d3, d4, dT⟩ := q3 i x hx;exact ⟨ca',cc',d0,d1,d2,d3,d4,qa.carry (fun b hb=>⟨by have:=hb.1;omega,rfl⟩) _ dT⟩
end
section
attribute [local go_sem] qc
structure Sto (S:Nat→Prop) (w:World) (sb:Nat) (ns:List Nd) (n:Nat):Prop where
 here:∀ b,S b→b<w.heap.size∧b≠sb
 good:qq ns=true
 box:∃ a c,w.heap[sb]?=some (.cells #[.slice a ns.length c,.int .i64 (n:Int)] 57 (0,0))∧qt S w (.slice a ns.length c) ns∧c≤maxLen
theorem Za {ns:List Nd}(hg:qq ns=true):(∀ x∈ns,x.attrs.length≤4398046511104)∧j5 ns:=by
 refine ⟨fun x hx=>Nat.le_trans ((xh hg).2 x hx).2 (by omega),fun x hx=>⟨Nat.le_trans (YF hg x hx) (by unfold maxLen;omega),fun y hy=>?_⟩⟩
 obtain ⟨n,hn⟩:=List.mem_iff_getElem?.1 hx;obtain ⟨d,T,u,fs,hz⟩:=Yb hg (qd hn);obtain ⟨x',hx',e1,_,e3⟩:=hz.get;rw[hn]at hx'
 obtain rfl:=Option.some.inj hx';rw[e3]at hy
 have hr:=hz.right;cases ht:u.text with
 | true =>
   unfold qx at hr
   rw[ht]at hr
   simp at hr
   rw[hr.1.2]at hy
   cases hy
 | false =>
   have hA:=(jp hr ht).2;have key:=(QO hA).2 y hy;exact ⟨Nat.le_trans (Zk key.1) (by unfold maxLen;omega),Nat.le_trans (Zo key.2) (by unfold maxLen;omega)⟩
theorem Sto.doc {S:Nat→Prop}{w:World}{sb n:Nat}{ns:List Nd}(h:Sto S w sb ns n){a:Option Addr}{c:Nat}(hN:qt S w (.slice a ns.length c) ns):QK S w (.slice a ns.length c) ns :=
 ⟨hN,fun b hb=>(h.here b hb).1,(Za h.good).1,(Za h.good).2⟩
theorem Sto.keep {S:Nat→Prop}{w w':World}{sb n:Nat}{ns:List Nd}(h:Sto S w sb ns n)(hs:w.heap.size≤w'.heap.size)(hb:∀ b,S b∨b=sb→w'.heap[b]?=w.heap[b]?):Sto S w' sb ns n:=by
 obtain ⟨a,c,h1,h2,h3⟩:=h.box;exact ⟨fun b hb=>⟨Nat.lt_of_lt_of_le (h.here b hb).1 hs,(h.here b hb).2⟩,h.good,a,c,(hb sb (Or.inr rfl)).trans h1,h2.carry fun b hb'=>⟨hb',hb b (Or.inl hb')⟩,h3⟩
theorem Sto.later {S:Nat→Prop}{w w':World}{sb n:Nat}{ns:List Nd}(h:Sto S w sb ns n)(hb:Below w.heap.size w w'):Sto S w' sb ns n:=by
 obtain ⟨a,c,h1,_⟩:=h.box;refine h.keep hb.size fun b hb'=>hb.block b ?_
 rcases hb' with hb'|rfl
 · exact (h.here b hb').1
 · exact qg h1
structure DcI (w:World) (v:Value) (ns:List Nd) (i:Nat) (ms:List Rw) (wr:World):Prop where
 below:Below w.heap.size w wr
 res:wr.heap[w.heap.size]?=some (.cells #[.slice none 0 0] 44 (0,0))
 len:ms.length=ns.length
 row:wr.ownsRow (w.heap.size+1) 69 5 v ns.length (rawCells ms)
 each:∀ (j:Nat) r x,ms[j]?=some r→ns[j]?=some x→(j<i→xf (fun b=>w.heap.size+1≤b∧b<wr.heap.size∧v.ownBlock≠some b) wr r x)∧(i≤j→xf (fun b=>b<w.heap.size) wr r x)
theorem qbt {B:Nat}{T:Nat→Prop}{w:World}{v:Value}{ns:List Nd}{ms:List Rw}(h:w.ownsRow B 69 5 v ns.length (rawCells ms))(hl:ms.length=ns.length)(hr:∀ (j:Nat) r x,ms[j]?=some r→ns[j]?=some x→xf T w r x)(hT:∀ b,T b→B≤b):qt (fun b=>B≤b) w v ns:=by
 have h0:=h
 rcases h.2 with ⟨rfl,hz⟩|⟨g,cap,cur,rfl,hB,hg,hc,hm,hs,ht⟩
 · have : ns = [] := List.eq_nil_of_length_eq_zero hz;subst this;exact ⟨none,0,rfl,nR9 _,nZ9 _,fun hne=>absurd rfl hne⟩
 · refine ⟨_, cap, rfl, hc, hm, fun _ => ⟨g, 0, rfl, hB, fun i x hx => ?_⟩⟩
   have hi:=qd hx;obtain ⟨r,hri⟩:∃ r,ms[i]?=some r:=⟨ms[i]'(by omega),List.getElem?_eq_getElem (by omega)⟩
   obtain ⟨e1,e2,e3,hA,hK⟩:=hr i r x hri hx;obtain ⟨g0,g1,g2,g3,g4⟩:=zA ms i r hri
   have cell:∀ c,c<5→w.cell? ⟨g,0+i*5+c,none⟩=(rawCells ms)[i*5+c]?:=fun c hc=>by
    rw[Nat.zero_add];exact World.ownsRow.cellAt h0 (i*5+c) (by omega)
   refine ⟨r.va,r.vk,?_,?_,?_,?_,?_,hA.carry fun b hb=>⟨hT b hb,rfl⟩,hK.carry fun b hb=>⟨hT b hb,rfl⟩⟩
   · rw[←e1,←g0];exact cell 0 (by omega)
   · rw[←e2,←g1];exact cell 1 (by omega)
   · rw[←g2];exact cell 2 (by omega)
   · rw[←e3,←g3];exact cell 3 (by omega)
   · rw[←g4];exact cell 4 (by omega)
theorem yw.attrsIn {B:Nat}{w:World}{v:Value}{l:List (ByteArray × ByteArray)}(h:yw B w v l):qi (fun b=>B≤b∧b<w.heap.size) w v l:=by
 rcases id h.2 with ⟨hv,h0⟩|⟨g,cap,cur,hv,hB,hh,hc,hm,_⟩
 · have : l = [] := List.eq_nil_of_length_eq_zero h0;subst this;exact ⟨none,0,hv,nR9 _,nZ9 _,fun hne=>absurd rfl hne⟩
 · have hrow := h;unfold yw at hrow
   subst hv;refine ⟨_,cap,rfl,hc,hm,fun _=>⟨g,0,rfl,⟨hB,qg hh⟩,fun i x hx=>?_⟩⟩
   have hi:=qd hx;obtain ⟨g0,g1⟩:=zW l i x hx;exact ⟨by rw[Nat.zero_add,World.ownsRow.cellAt hrow (i*2) (by omega),g0],by rw[Nat.zero_add,World.ownsRow.cellAt hrow (i*2+1) (by omega),g1]⟩
theorem DcI.step {w:World}{g cap:Nat}{ns:List Nd}{i:Nat}{ms:List Rw}{W Wa Wc:World}{va vk:Value}{r:Rw}{x:Nd}(h:DcI w (.slice (some ⟨g,0,none⟩) ns.length cap) ns i ms W)(hr:ms[i]?=some r)(hx:ns[i]?=some x)
 (hA:yw W.heap.size Wa va x.attrs) (ha:Below W.heap.size W Wa) (hK:qF Wa.heap.size Wc vk x.kids) (hc:Below Wa.heap.size (Wa.setCell ⟨g,i*5+2,none⟩ va) Wc) (he:r.text=x.text∧r.s=x.s∧r.par=x.parent) :
 DcI w (.slice (some ⟨g,0,none⟩) ns.length cap) ns (i+1) (ms.set i { r with va:=va,vk:=vk }) (Wc.setCell ⟨g,i*5+4,none⟩ vk):=by
 obtain ⟨hgB,hgl⟩:=h.row.lt g rfl;have hwl:=qg h.res;have hsa:=ha.size;have hsc:=hc.size;have hss:(Wa.setCell ⟨g,i*5+2,none⟩ va).heap.size=Wa.heap.size:=by simp
 have hsd:(Wc.setCell ⟨g,i*5+4,none⟩ vk).heap.size=Wc.heap.size:=by simp
 have him:i<ms.length:=qd hr
 have old:∀ b,b<W.heap.size→b≠g→(Wc.setCell ⟨g,i*5+4,none⟩ vk).heap[b]?=W.heap[b]?:=fun b hb hne=>by
  rw[qb hne,hc.block b (by omega),qb hne,ha.block b hb]
 have rowa:Wa.ownsRow (w.heap.size+1) 69 5 (.slice (some ⟨g,0,none⟩) ns.length cap) ns.length (rawCells ms):=ql h.row ha;have rowb:=(rowa.stored (i*5+2) va).1
 have rowc:Wc.ownsRow (w.heap.size+1) 69 5 (.slice (some ⟨g,0,none⟩) ns.length cap) ns.length ((rawCells ms).set (i*5+2) va):=qj rowb (fun b hb=>by
  have:g=b:=by injection hb
  subst this;exact hc.block g (by omega))
 have rowd:=(rowc.stored (i*5+4) vk).1
 have ecell:((rawCells ms).set (i*5+2) va).set (i*5+4) vk=rawCells (ms.set i { r with va:=va,vk:=vk }):=by
  have e1:=j9 ms i r va hr;have hr2:(ms.set i { r with va:=va })[i]?=some { r with va:=va }:=List.getElem?_set_self him
  have e2:=yC (ms.set i { r with va:=va }) i { r with va:=va } vk hr2
  rw[←e1,←e2,List.set_set]
 rw[ecell]at rowd
 have hBd:Below w.heap.size w (Wc.setCell ⟨g,i*5+4,none⟩ vk):=by
  have s1:Below w.heap.size w Wa:=h.below.trans (ha.mono h.below.size);have s2:=s1.setCell (p:=⟨g,i*5+2,none⟩) (by show w.heap.size≤g;omega) va
  have s3:=s2.trans (hc.mono (Nat.le_trans h.below.size hsa));exact s3.setCell (p:=⟨g,i*5+4,none⟩) (by show w.heap.size≤g;omega) vk
 have hob:∀ b,(Value.slice (some ⟨g,0,none⟩) ns.length cap).ownBlock≠some b→b≠g:=fun b hb e=>hb (by rw[e];rfl)
 have hbo:∀ b,b≠g→(Value.slice (some ⟨g,0,none⟩) ns.length cap).ownBlock≠some b:=fun b hb e=>hb (by injection e with e;exact e.symm)
 refine ⟨hBd,(old _ hwl (by omega)).trans h.res,by rw[List.length_set];exact h.len,rowd,fun j q y hq hy=>?_⟩
 by_cases hji:j=i
 · subst hji;rw[List.getElem?_set_self him]at hq
   obtain rfl:=Option.some.inj hq;rw[hx]at hy
   obtain rfl:=Option.some.inj hy;refine ⟨fun _=>⟨he.1,he.2.1,he.2.2,?_,?_⟩,fun hh=>by omega⟩
   · refine (yw.attrsIn hA).carry fun b hb => ?_
     have hne:b≠g:=by omega
     exact ⟨⟨by omega,by omega,hbo b hne⟩,by rw[qb hne,hc.block b hb.2,qb hne]⟩
   · refine (qF.ints hK).bounded.carry fun b hb => ?_
     have hne:b≠g:=by omega
     exact ⟨⟨by omega,by omega,hbo b hne⟩,qb hne⟩
 · rw[List.getElem?_set_ne (fun e => hji e.symm)]at hq
   obtain ⟨f1,f2⟩:=h.each j q y hq hy;refine ⟨fun hj=>(f1 (by omega)).carry fun b hb=>⟨⟨hb.1,by omega,hb.2.2⟩,old b hb.2.1 (hob b hb.2.2)⟩,fun hj=>(f2 (by omega)).carry fun b hb=>⟨hb,old b (by omega) (by omega)⟩⟩
set_option linter.unusedSimpArgs false in
set_option maxHeartbeats 2000000 in
theorem Z6 (S:Nat→Prop)(sb n:Nat)(ns:List Nd)(w:World)(h:Sto S w sb ns n) :
 Calls Tryz.prog 10 #[.pointer (some ⟨sb,0,none⟩)] w fun e w'=>∃ v,e=.returned (.agg #[v])∧qt (fun b=>w.heap.size≤b) w' v ns∧Below w.heap.size w w':=by
 obtain ⟨a,c,hbx,hN,hcm⟩:=h.box
 have hne:ns≠[]:=by
  intro e;have hg:=h.good;rw[e]at hg
  simp only[qq,Bool.and_eq_true]at hg
  have:=QR hg.1.2;simp at this
 have hbd:=xh h.good;have hN0:qt (fun b=>b<w.heap.size) w (.slice a ns.length c) ns:=hN.carry fun b hb=>⟨(h.here b hb).1,rfl⟩
 have hb0:=Below.alloc1 w (.cells #[.slice none 0 0] 44);have HR0:Hid _:=heap_alloc_new w (.cells #[.slice none 0 0] 44);have hsb:=qg hbx;have HX0:Hid _:=(hb0.block sb hsb).trans hbx;obtain ⟨a0,cap0,ms0,hv,ha0,hml,hraw,hcells,hone⟩:=(qt.later hN0 hb0).raw
 injection hv with hv1 _ hv2
 subst hv1 hv2;have hnl:0<ns.length:=List.length_pos_iff.2 hne;have hbl:=hbd.1;have HC:Hid _:=qaq (.slice a ns.length c) a ns.length c (rawCells ms0) _ rfl ha0 (by rw[zU,hml]) (by omega) hcells hone
 have HRW:Hid _:=hraw;have HBN:Hid _:=hbd;have x0:(w.alloc (.cells #[.slice none 0 0] 44)).cell? ⟨sb,0,none⟩=some (.slice a ns.length c):=by rw[cH9 HX0.out];rfl
 clear h hraw hcells hone ha0 hN hN0 hbd
 go_enter Tryz.func10,Tryz.ntmps10
 go_wp2_with fail
 generalize w.alloc (.cells #[.slice none 0 0] 44)=W0 at *
 refine (Calls.mono HC.out ?_);rintro e w1 ⟨v1,rfl,hown,hb1⟩;obtain ⟨g,cap,rfl,hcl,hcm1⟩:=ym hown hnl;have hsz0:w.heap.size+1≤W0.heap.size:=qg HR0.out
 have HI0:Hid (DcI w (.slice (some ⟨g,0,none⟩) ns.length cap) ns 0 ms0 w1):=by
  refine ⟨hb0.trans (hb1.mono hb0.size),(hb1.block _ (qg HR0.out)).trans HR0.out,hml,QH hown hsz0,fun j r x hr hx=>⟨fun hj=>by omega,fun _=>(HRW.out j r x hr hx).carry fun b hb=>⟨hb,hb1.block b (by omega)⟩⟩⟩
 unfold maxLen at hcm1
 clear hown HC HRW hb1 hb0 x0;go_wp2_with fail
 go_loopg [16] ns.length (fun gh vi wr=>∃ (i:Nat) (ms:List Rw),i+gh=ns.length∧vi=.int .i64 (i:Int)∧DcI w (.slice (some ⟨g,0,none⟩) ns.length cap) ns i ms wr)
 case atStart => exact ⟨0,ms0,by omega,rfl,HI0.out⟩
 case round =>
  clear HI0;obtain ⟨i,ms,hig,rfl,hN⟩:=hrel;have HN:Hid _:=hN;clear hN
  by_cases hlt:i<ns.length
  · have hlti : (i : Int) < (ns.length : Int) := by omega
    obtain ⟨x,hx⟩:∃ x,ns[i]?=some x:=⟨ns[i],by simp[hlt]⟩
    obtain ⟨r,hr⟩:∃ r,ms[i]?=some r:=⟨ms[i]'(by rw[HN.out.len];exact hlt),by simp⟩
    obtain ⟨hbk,hba⟩:=HBN.out.2 x (List.mem_of_getElem? hx);obtain ⟨e1,e2,e3,hAt,hKt⟩:=(HN.out.each i r x hr hx).2 (nR9 _);obtain ⟨_,_,h2,_,h4⟩:=zA ms i r hr;have c2:wr.cell? ⟨g,i*5+2,none⟩=some r.va:=by rw[World.ownsRow.cellAt HN.out.row (i*5+2) (by omega)];exact h2
    obtain ⟨cur,hcur,_,_,_,_⟩:=yR HN.out.row;obtain ⟨aa,ac,hva⟩:∃ a c,r.va=.slice a x.attrs.length c:=by obtain ⟨a,c,e,_⟩:=hAt;exact ⟨a,c,e⟩
    obtain ⟨ka,kc,hvk⟩:∃ a c,r.vk=.slice a x.kids.length c:=by obtain ⟨a,c,e,_⟩:=hKt;exact ⟨a,c,e⟩
    have HA:Hid (Calls Tryz.prog 23 #[.slice aa x.attrs.length ac] wr fun e w'=>∃ v',e=.returned v'∧(yw wr.heap.size w' v' x.attrs∧Below wr.heap.size wr w')):=by
     have:=Yr (fun b=>b<w.heap.size) r.va x.attrs wr hAt (by omega)
     rw[hva]at this
     exact this
    have hgl:=HN.out.row.lt g rfl;rw[hva]at c2
    have HCUR:Hid _:=hcur;have HVK:Hid _:=hvk;have HKT:Hid _:=hKt;have HR:Hid _:=hr;have HXX:Hid _:=hx;have HEE:Hid (r.text=x.text∧r.s=x.s∧r.par=x.parent):=⟨e1,e2,e3⟩;have H4:Hid _:=h4;clear hAt hKt hx hr h2 h4 hcur hva hvk e1 e2 e3;go_wp2_with fail;refine Calls.mono HA.out ?_;rintro e wa ⟨va,rfl,hAr,hba'⟩;have HCA:Hid _:=(hba'.block g hgl.2).trans HCUR.out;have c2a:wa.cell? ⟨g,i*5+2,none⟩=some (.slice aa x.attrs.length ac):=(hba'.cell (p:=⟨g,i*5+2,none⟩) hgl.2).trans c2;have f2a:wa.frozen? ⟨g,i*5+2,none⟩=false:=fH9 HCA.out _;obtain ⟨va1,va2,hvs⟩:∃ a c,va=.slice a x.attrs.length c:=by obtain ⟨a,c,e,_⟩:=yw.attrsIn hAr;exact ⟨a,c,e⟩
    have HVS:Hid _:=hvs;have c4w:wr.cell? ⟨g,i*5+4,none⟩=some r.vk:=by rw[World.ownsRow.cellAt HN.out.row (i*5+4) (by omega)];exact H4.out
    rw[HVK.out]at c4w
    have c4b:(wa.setCell ⟨g,i*5+2,none⟩ (.slice va1 x.attrs.length va2)).cell? ⟨g,i*5+4,none⟩=some (.slice ka x.kids.length kc):=by
     rw[World.cell?_setCell_other _ _ _ _ (Qc (by omega))]
     exact (hba'.cell (p:=⟨g,i*5+4,none⟩) hgl.2).trans c4w
    have HKC:Hid (Calls Tryz.prog 24 #[.slice ka x.kids.length kc] (wa.setCell ⟨g,i*5+2,none⟩ (.slice va1 x.attrs.length va2)) fun e w'=>∃ v',e=.returned v'∧qF wa.heap.size w' v' x.kids∧Below wa.heap.size (wa.setCell ⟨g,i*5+2,none⟩ (.slice va1 x.attrs.length va2)) w'):=by
     have:=Ys (fun b=>b<w.heap.size) r.vk x.kids (wa.setCell ⟨g,i*5+2,none⟩ (.slice va1 x.attrs.length va2)) (qY.carry HKT.out fun b hb=>⟨hb,by rw[qb (by omega)];exact hba'.block b (by have:=HN.out.below.size;omega)⟩) (by omega)
     rw[HVK.out]at this
     simp only[World.size_setCell]at this
     exact this
    have HFB:Hid ((wa.setCell ⟨g,i*5+2,none⟩ (.slice va1 x.attrs.length va2)).frozen? ⟨g,i*5+4,none⟩=false):=by
     show _=_
     rw[World.frozen?_setCell];exact fH9 HCA.out _
    have HAR:Hid _:=hAr;have HBA:Hid _:=hba';have hgla:g<wa.heap.size:=Nat.lt_of_lt_of_le hgl.2 hba'.size;subst hvs;clear hAr hba' c4w c2 HA;go_wp2_with fail;refine Calls.mono HKC.out ?_;rintro e wc ⟨vk,rfl,hKr,hbc⟩;obtain ⟨vk1,vk2,hks⟩:∃ a c,vk=.slice a x.kids.length c:=by obtain ⟨a,c,e,_⟩:=qF.ints hKr;exact ⟨a,c,e⟩
    have c4c:wc.cell? ⟨g,i*5+4,none⟩=some (.slice ka x.kids.length kc):=(hbc.cell (p:=⟨g,i*5+4,none⟩) hgla).trans c4b
    have f4c:wc.frozen? ⟨g,i*5+4,none⟩=false:=by
     have hx':wc.heap[g]?=(wa.setCell ⟨g,i*5+2,none⟩ (.slice va1 x.attrs.length va2)).heap[g]?:=hbc.block g hgla;rw[World.frozen?_of_block (a:=⟨g,i*5+4,none⟩) hx'];exact HFB.out
    have HI2:Hid _:=HN.out.step HR.out HXX.out HAR.out HBA.out hKr hbc HEE.out;subst hks;clear hKr hbc c4b HKC HFB HAR HBA c2a f2a;go_wp2_with fail
    go_roundg (ns.length-(i+1))
    case measure => omega
    case rel => exact ⟨i+1,_,by omega,by go_num,HI2.out⟩
  · have hlti : ¬ ((i : Int) < (ns.length : Int)) := by omega
    have hii:i=ns.length:=by omega
    subst hii;have r0:wr.cell? ⟨w.heap.size,0,none⟩=some (.slice none 0 0):=by rw[cH9 HN.out.res];rfl
    have f0:wr.frozen? ⟨w.heap.size,0,none⟩=false:=fH9 HN.out.res _;go_wp2_with fail;refine bodyPost_ret (v:=.agg #[.slice (some ⟨g,0,none⟩) ns.length cap]) (by simp[results,Tryz.results10,go_sem,qc,World.cell?_setCell_other,r0]) rfl ?_
    have hN1:=qbt HN.out.row HN.out.len (fun j r x hr hx=>(HN.out.each j r x hr hx).1 (qd hx)) (fun b hb=>hb.1)
    exact ⟨_,rfl,hN1.carry fun b hb=>⟨by omega,qb (by omega)⟩,HN.out.below.setCell (p:=⟨w.heap.size,0,none⟩) (nR9 _) _⟩
end
theorem KZ {t:Tr}(h:qx t=true):Ye t:=by
 refine ⟨Nat.le_trans (QS h) (by unfold maxLen;omega),fun y hy=>?_⟩
 cases ht:t.text with
 | true =>
   unfold qx at h
   rw[ht]at h
   simp at h
   rw[h.1.2]at hy
   cases hy
 | false =>
   have key:=(QO (jp h ht).2).2 y hy;exact ⟨Nat.le_trans (Zk key.1) (by unfold maxLen;omega),Nat.le_trans (Zo key.2) (by unfold maxLen;omega)⟩
theorem rgt_texts:∀ {n:Nat}{ts:List Tr},(∀ N,rgt N ts=true)→TextsN n ts:=by
 intro n
 induction n with
 | zero=>intro ts _;trivial
 | succ n ih =>
   intro ts h t ht;obtain ⟨h1,_⟩:=ji _ _ (h (n+1)) t ht;refine ⟨KZ h1,ih (fun N=>?_)⟩
   obtain ⟨h3,h4⟩:=ji _ _ (h (N+1)) t ht;cases hx:t.text with
   | true=>rw[xw h3 hx];exact xP N
   | false=>rw[hx,Bool.false_or]at h4;exact h4
theorem QC {l:List Tr}(h:qH l=true)(n:Nat):TextsN n l:=by
 have hd:Deep 8 l:=rb_deep 8 80 l (by simpa[qH] using h)
 have h2:=h;rw[jU hd]at h2
 simp only[Bool.and_eq_true,decide_eq_true_eq]at h2
 exact rgt_texts (rgt_all hd h2.2)
theorem YG {t:Tr}(h:qS t=true)(n:Nat):TextsN n [t]:=by
 simp only[qS,Bool.and_eq_true]at h
 exact QC h.2 n
theorem KT (s:List UInt8):(∃ c:Int,(c=1∨c=2)∧(qB s).2=c)∨(qS (qB s).1=true∧(qB s).2=0):=by
 unfold qB
 split
 · exact Or.inl ⟨2,Or.inr rfl,rfl⟩
 · split
   · exact Or.inl ⟨1,Or.inl rfl,rfl⟩
   · rename_i h
     simp only[Bool.or_eq_true,not_or,Bool.not_eq_true',Bool.not_eq_false]at h
     exact Or.inr ⟨by simpa using h.2,rfl⟩
theorem Vp (s:List UInt8):(qM s).2≠0∧(qM s).1=[]∨qH (qM s).1=true∧(qM s).2=0:=by
 unfold qM
 split
 · exact Or.inl ⟨by show (2:Int)≠0;decide,rfl⟩
 · split
   · exact Or.inl ⟨by show (1:Int)≠0;decide,rfl⟩
   · rename_i h
     simp only[Bool.or_eq_true,not_or,Bool.not_eq_true',Bool.not_eq_false]at h
     exact Or.inr ⟨by simpa using h.2,rfl⟩
section
attribute [local go_sem] qc
def Jp (w:World)(b:Nat)(v0 v1 v2:Value):World:=((w.setCell ⟨b,0,none⟩ v0).setCell ⟨b,1,none⟩ v1).setCell ⟨b,2,none⟩ v2
theorem jP {w:World}{b c:Nat}{v0 v1 v2:Value}(h:c≠b):(Jp w b v0 v1 v2).heap[c]?=w.heap[c]?:=by
 unfold Jp;rw[qb h,qb h,qb h]
theorem zE {B b:Nat}{w0 w:World}{v0 v1 v2:Value}(h:Below B w0 w)(hb:B≤b):Below B w0 (Jp w b v0 v1 v2):=by
 unfold Jp;exact ((h.setCell (p:=⟨b,0,none⟩) hb _).setCell (p:=⟨b,1,none⟩) hb _).setCell (p:=⟨b,2,none⟩) hb _
def jr (S:Nat→Prop)(sb:Nat)(w:World)(rep:Rep)(ns:List Nd)(n:Nat)(e:Ending)(w':World):Prop :=
 e=.returned (.agg #[.int .i64 rep.1,.int .i64 rep.2.1,.string rep.2.2])∧(∃ S':Nat→Prop,(∀ b,S' b→S b∨w.heap.size≤b)∧Sto S' w' sb ns n)∧CFr sb w w'
theorem zt {S:Nat→Prop}{sb n:Nat}{ns:List Nd}{w w':World}(rep:Rep)(h:Sto S w sb ns n)(hb:Below w.heap.size w w'):jr S sb w rep ns n (.returned (.agg #[.int .i64 rep.1,.int .i64 rep.2.1,.string rep.2.2])) w' :=
 ⟨rfl,⟨S,fun _ hb=>Or.inl hb,h.later hb⟩,CFr.later hb⟩
theorem Yw {S:Nat→Prop}{sb n:Nat}{ns ns':List Nd}{w W:World}(rep:Rep)(h:Sto S w sb ns n)(hb:Below w.heap.size w W){S':Nat→Prop}(hS':∀ b,S' b→(S b∨w.heap.size≤b)){a:Option Addr}{c:Nat}(hN:qt S' W (.slice a ns'.length c) ns')(hc:c≤maxLen)(hg:qq ns'=true){R:Nat}(hR:w.heap.size≤R){v0 v1 v2:Value}(hSR:∀ b,S' b→b≠R) :
 jr S sb w rep ns' n (.returned (.agg #[.int .i64 rep.1,.int .i64 rep.2.1,.string rep.2.2])) (Jp (W.setCell ⟨sb,0,none⟩ (.slice a ns'.length c)) R v0 v1 v2):=by
 obtain ⟨a0,c0,hbx,_,_⟩:=h.box;have hsl:=qg hbx;have hsw:w.heap.size≤W.heap.size:=hb.size;have hbx1:W.heap[sb]?=_:=(hb.block sb hsl).trans hbx
 have hset:(W.setCell ⟨sb,0,none⟩ (.slice a ns'.length c)).heap[sb]?=some (.cells #[.slice a ns'.length c,.int .i64 (n:Int)] 57 (0,0)):=by
  simp[World.setCell,Array.getElem?_modify,hbx1]
 have hne:∀ b,S' b→b≠sb:=fun b hb'=>by
  rcases hS' b hb' with h1|h1
  · exact (h.here b h1).2
  · omega
 have hsz:(Jp (W.setCell ⟨sb,0,none⟩ (.slice a ns'.length c)) R v0 v1 v2).heap.size=W.heap.size:=by unfold Jp;simp
 refine ⟨rfl,⟨fun b=>S' b∧b<W.heap.size,fun b hb'=>hS' b hb'.1,?_⟩,?_⟩
 · refine ⟨fun b hb' => ⟨by rw[hsz];exact hb'.2, hne b hb'.1⟩, hg, a, c, ?_, ?_, hc⟩
   · rw[jP (by omega)];exact hset
   · exact hN.bounded.carry fun b hb'=>⟨hb',by rw[jP (hSR b hb'.1),qb (hne b hb'.1)]⟩
 · have h1 : CFr sb w (W.setCell ⟨sb, 0, none⟩ (.slice a ns'.length c)) := (CFr.later hb).trans (CFr.put sb W 0 _);refine ⟨zE h1.below (nZ9 _),fun x hx hxs=>?_⟩
   rw[jP (by omega)]
   exact h1.frame x hx hxs
set_option linter.unusedSimpArgs false in
set_option maxHeartbeats 2000000 in
theorem qcF (S T:Nat→Prop)(sb n:Nat)(ns:List Nd)(vl:Value)(ls:List ByteArray)(w:World)(h:Sto S w sb ns n)(hL:Strs T w vl ls)(hE:yN w)(hz:∀ s∈ls,s.size≤maxLen) :
 Calls Tryz.prog 17 #[.pointer (some ⟨sb,0,none⟩),vl] w fun e w'=>jr S sb w (QT ls ns).1 (QT ls ns).2 n e w':=by
 obtain ⟨la,lc,rfl,hll,hlc⟩:=hL.shape;have HST:Hid _:=h;have hb0:=Below.alloc1 w (.cells #[.int .i64 0,.int .i64 0,.string ⟨#[]⟩] 37);have HR0:Hid _:=heap_alloc_new w (.cells #[.int .i64 0,.int .i64 0,.string ⟨#[]⟩] 37);have HEV:Hid (∀ W,Below w.heap.size w W→yN W):=fun W hW=>hE.later hW
 have HL:Hid (Strs T w (.slice la ls.length lc) ls):=hL;unfold maxLen at hlc
 clear h hE hL
 by_cases hl1:ls.length=1
 case neg =>
  have HS:Hid (QT ls ns=(qO 1,ns)):=by
   show _=_
   match ls,hl1 with
   | [],_=>rfl
   | [_],h=>exact absurd rfl h
   | _::_::_,_=>rfl
  have hl1b:((ls.length:Int)==1)=false:=beq_eq_false_iff_ne.2 (by omega)
  rw[HS.out];clear HEV HL
  go_enter Tryz.func17,Tryz.ntmps17
  go_wp2_with fail
  generalize w.alloc (.cells #[.int .i64 0,.int .i64 0,.string ⟨#[]⟩] 37)=W0 at *
  refine Calls.mono (zO 1 W0) ?_;rintro e wr1 ⟨rfl,hbr1⟩;have HRr:Hid _:=(hbr1.block _ (qg HR0.out)).trans HR0.out;have hBr:=hb0.trans (hbr1.mono hb0.size);have r0:wr1.cell? ⟨w.heap.size,0,none⟩=some (.int .i64 0):=by rw[cH9 HRr.out];rfl
  have r1:wr1.cell? ⟨w.heap.size,1,none⟩=some (.int .i64 0):=by rw[cH9 HRr.out];rfl
  have r2:wr1.cell? ⟨w.heap.size,2,none⟩=some (.string ⟨#[]⟩):=by rw[cH9 HRr.out];rfl
  have f0:wr1.frozen? ⟨w.heap.size,0,none⟩=false:=fH9 HRr.out _;have f1:wr1.frozen? ⟨w.heap.size,1,none⟩=false:=fH9 HRr.out _;have f2:wr1.frozen? ⟨w.heap.size,2,none⟩=false:=fH9 HRr.out _;clear hbr1 HRr;go_wp2_with fail;refine bodyPost_ret (v:=.agg #[.int .i64 (1),.int .i64 0,.string ⟨#[]⟩]) (by simp[results,Tryz.results17,go_sem,qc,World.cell?_setCell_other,r0,r1,r2]) rfl ?_
  exact zt (qO _) HST.out (zE hBr (nR9 _))
 case pos =>
  obtain ⟨s,rfl⟩:∃ s,ls=[s]:=by
   match ls,hl1 with
   | [s],_=>exact ⟨s,rfl⟩
  obtain ⟨b1,o1,c1,hv1,_,_,e1⟩:=(Strs.later HL.out hb0).at (i:=0) (x:=s) rfl
  injection hv1 with hv1 hv1l hv1c
  subst hv1 hv1c;clear hv1l hl1;simp only[List.length_cons,List.length_nil,Nat.zero_add,Nat.add_zero]at e1 hll ⊢
  have hsz:=hz s (List.mem_cons_self)
  have HP:Hid (∀ W,Below w.heap.size w W→Calls Tryz.prog 34 #[.string s] W fun e w'=>∃ va vk,e=.returned (.tuple #[.agg #[.bool (qB s.data.toList).1.text,.string (qB s.data.toList).1.s,va,vk],.int .i64 (qB s.data.toList).2])∧qi (fun b=>W.heap.size≤b) w' va (qB s.data.toList).1.attrs∧qa (fun b=>W.heap.size≤b) w' s.data.toList.length vk (qB s.data.toList).1.kids∧Below W.heap.size W w'):=by
   intro W hW;have:=qbu s.data.toList W (HEV.out W hW).marks (by rw[yo];unfold maxLen at hsz;omega)
   rw[Yo]at this
   exact this
  have hpc:=KT s.data.toList;have HS:Hid (QT [s] ns=if (qB s.data.toList).2≠0 then (qO (qB s.data.toList).2,ns) else ((0,((yq s.data.toList.length (qB s.data.toList).1).length:Int),⟨#[]⟩),yq s.data.toList.length (qB s.data.toList).1)):=rfl
  obtain ⟨Q,hQ⟩:∃ Q,qB s.data.toList=Q:=⟨_,rfl⟩;rw[hQ]at HP HS hpc
  clear hQ hsz HEV HL hz;obtain ⟨t,E⟩:=Q;simp only at HP HS hpc
  generalize s.data.toList.length=N at *
  rcases hpc with ⟨c,hc,rfl⟩|⟨hg,rfl⟩
  · have hc0 : ¬ E = 0 := by rcases hc with rfl | rfl <;> decide
    have hcb:(E==0)=false:=by simpa using hc0
    rw[if_pos hc0]at HS
    rw[HS.out];clear hc hc0
    go_enter Tryz.func17,Tryz.ntmps17
    go_wp2_with fail
    generalize w.alloc (.cells #[.int .i64 0,.int .i64 0,.string ⟨#[]⟩] 37)=W0 at *
    refine Calls.mono (HP.out W0 hb0) ?_;rintro e w1 ⟨va,vk,rfl,hA1,hK1,hb1⟩;obtain ⟨aa,ac,rfl⟩:=hA1.shape;obtain ⟨ka,kc,rfl,_,_⟩:=qa.shape N hK1;have hb2:=Below.alloc1 w1 (.cells #[.bool t.text,.string t.s,.slice aa t.attrs.length ac,.slice ka t.kids.length kc] 62);have hb12:=hb1.trans (hb2.mono hb1.size);have hB2:=hb0.trans (hb12.mono hb0.size);have HR2:Hid _:=(hb12.block _ (qg HR0.out)).trans HR0.out;clear hA1 hK1 hb1 hb2 hb12 HP;go_wp2_with fail
    generalize w1.alloc (.cells #[.bool t.text,.string t.s,.slice aa t.attrs.length ac,.slice ka t.kids.length kc] 62)=W2 at *
    refine Calls.mono (zO E W2) ?_;rintro e wr1 ⟨rfl,hbr1⟩;have HRr:Hid _:=(hbr1.block _ (qg HR2.out)).trans HR2.out;have hBr:=hB2.trans (hbr1.mono hB2.size);have r0:wr1.cell? ⟨w.heap.size,0,none⟩=some (.int .i64 0):=by rw[cH9 HRr.out];rfl
    have r1:wr1.cell? ⟨w.heap.size,1,none⟩=some (.int .i64 0):=by rw[cH9 HRr.out];rfl
    have r2:wr1.cell? ⟨w.heap.size,2,none⟩=some (.string ⟨#[]⟩):=by rw[cH9 HRr.out];rfl
    have f0:wr1.frozen? ⟨w.heap.size,0,none⟩=false:=fH9 HRr.out _;have f1:wr1.frozen? ⟨w.heap.size,1,none⟩=false:=fH9 HRr.out _;have f2:wr1.frozen? ⟨w.heap.size,2,none⟩=false:=fH9 HRr.out _;clear hbr1 HRr;go_wp2_with fail;refine bodyPost_ret (v:=.agg #[.int .i64 (E),.int .i64 0,.string ⟨#[]⟩]) (by simp[results,Tryz.results17,go_sem,qc,World.cell?_setCell_other,r0,r1,r2]) rfl ?_
    exact zt (qO _) HST.out (zE hBr (nR9 _))
  · rw[if_neg (by simp)]at HS
    rw[HS.out];obtain ⟨D,hD⟩:∃ D,yq N t=D:=⟨_,rfl⟩;rw[hD]
    go_enter Tryz.func17,Tryz.ntmps17
    go_wp2_with fail
    generalize w.alloc (.cells #[.int .i64 0,.int .i64 0,.string ⟨#[]⟩] 37)=W0 at *
    refine Calls.mono (HP.out W0 hb0) ?_;rintro e w1 ⟨va,vk,rfl,hA1,hK1,hb1⟩;obtain ⟨aa,ac,rfl⟩:=hA1.shape;obtain ⟨ka,kc,rfl,_,_⟩:=qa.shape N hK1;have hb2:=Below.alloc1 w1 (.cells #[.bool t.text,.string t.s,.slice aa t.attrs.length ac,.slice ka t.kids.length kc] 62);have hb12:=hb1.trans (hb2.mono hb1.size);have hB2:=hb0.trans (hb12.mono hb0.size);have HR2:Hid _:=(hb12.block _ (qg HR0.out)).trans HR0.out;have hdp:=qa.deep N hK1;have HMK:Hid _:=YM (fun b=>b<(w1.alloc (.cells #[.bool t.text,.string t.s,.slice aa t.attrs.length ac,.slice ka t.kids.length kc] 62)).heap.size) N _ _ t _ ((qi.later hA1 hb2).bounded.carry fun b hb=>⟨hb.2,rfl⟩) (qa.carry (fun b hb=>⟨hb.2,rfl⟩) N (qa.bounded N (qa.later hb2 N hK1))) (YG hg _) (fun b hb=>hb)
    have HMG:Hid (qq (yq N t)=true):=by
     show _=_
     unfold yq;rw[if_pos hg];exact (JY hdp hg).1
    have hme:xR t=0:=by unfold xR;rw[if_pos hg]
    rw[hme]at HMK
    rw[hD]at HMK HMG
    clear hA1 hK1 hb1 hb2 hb12 HP hme hdp hg HS hD;go_wp2_with fail
    generalize w1.alloc (.cells #[.bool t.text,.string t.s,.slice aa t.attrs.length ac,.slice ka t.kids.length kc] 62)=W2 at *
    refine Calls.mono HMK.out ?_;rintro e w3 ⟨v3,rfl,hN3,hb3⟩;obtain ⟨a3,c3,rfl,_,hc3⟩:=hN3.shape;have hb4:=Below.alloc1 w3 (.cells #[.slice a3 D.length c3] 44);have hb34:=hb3.trans (hb4.mono hb3.size);have hB4:=hB2.trans (hb34.mono hB2.size);have HR4:Hid _:=(hb34.block _ (qg HR2.out)).trans HR2.out;have HN4:Hid _:=qt.later hN3 hb4;have hrw2:w.heap.size<W2.heap.size:=qg HR2.out;obtain ⟨a0,c0,hbx,_,_⟩:=HST.out.box;have hsbl:=qg hbx;have HX4:Hid _:=(hB4.block sb hsbl).trans hbx;have x4:(w3.alloc (.cells #[.slice a3 D.length c3] 44)).cell? ⟨sb,0,none⟩=some (.slice a0 ns.length c0):=by rw[cH9 HX4.out];rfl
    have xf4:(w3.alloc (.cells #[.slice a3 D.length c3] 44)).frozen? ⟨sb,0,none⟩=false:=fH9 HX4.out _;have HRs:Hid (((w3.alloc (.cells #[.slice a3 D.length c3] 44)).setCell ⟨sb,0,none⟩ (.slice a3 D.length c3)).heap[w.heap.size]?=_):=(qb (by omega)).trans HR4.out
    have HD4:Hid _:=heap_alloc_new w3 (.cells #[.slice a3 D.length c3] 44);have hd4ne:sb≠w3.heap.size:=by have:=hB4.size;have:=hb34.size;have:=hb3.size;omega
    have d4:((w3.alloc (.cells #[.slice a3 D.length c3] 44)).setCell ⟨sb,0,none⟩ (.slice a3 D.length c3)).cell? ⟨w3.heap.size,0,none⟩=some (.slice a3 D.length c3):=by
     rw[World.cell?_of_block (a:=⟨w3.heap.size,0,none⟩) (qb (fun e=>hd4ne e.symm)),cH9 HD4.out];rfl
    have r0:((w3.alloc (.cells #[.slice a3 D.length c3] 44)).setCell ⟨sb,0,none⟩ (.slice a3 D.length c3)).cell? ⟨w.heap.size,0,none⟩=some (.int .i64 0):=by rw[cH9 HRs.out];rfl
    have r1:((w3.alloc (.cells #[.slice a3 D.length c3] 44)).setCell ⟨sb,0,none⟩ (.slice a3 D.length c3)).cell? ⟨w.heap.size,1,none⟩=some (.int .i64 0):=by rw[cH9 HRs.out];rfl
    have r2:((w3.alloc (.cells #[.slice a3 D.length c3] 44)).setCell ⟨sb,0,none⟩ (.slice a3 D.length c3)).cell? ⟨w.heap.size,2,none⟩=some (.string ⟨#[]⟩):=by rw[cH9 HRs.out];rfl
    have f0:((w3.alloc (.cells #[.slice a3 D.length c3] 44)).setCell ⟨sb,0,none⟩ (.slice a3 D.length c3)).frozen? ⟨w.heap.size,0,none⟩=false:=fH9 HRs.out _;have f1:((w3.alloc (.cells #[.slice a3 D.length c3] 44)).setCell ⟨sb,0,none⟩ (.slice a3 D.length c3)).frozen? ⟨w.heap.size,1,none⟩=false:=fH9 HRs.out _;have f2:((w3.alloc (.cells #[.slice a3 D.length c3] 44)).setCell ⟨sb,0,none⟩ (.slice a3 D.length c3)).frozen? ⟨w.heap.size,2,none⟩=false:=fH9 HRs.out _;clear hN3 hb3 hb4 hb34 HR2 HMK HRs HX4 hbx;go_wp2_with fail;refine bodyPost_ret (v:=.agg #[.int .i64 0,.int .i64 (D.length:Int),.string ⟨#[]⟩]) (by simp[results,Tryz.results17,go_sem,qc,World.cell?_setCell_other,r0,r1,r2]) rfl ?_
    exact Yw (0,(D.length:Int),⟨#[]⟩) HST.out hB4 (fun b hb=>Or.inr (by omega)) HN4.out hc3 HMG.out (nR9 _) (fun b hb=>by omega)
end
section
attribute [local go_sem] qc
theorem Qg {ns:List Nd}(hg:qq ns=true):jq ns 0=(growF ns.length ns 0,0)∧qS (growF ns.length ns 0)=true:=by
 have h:=hg;simp only[qq,Bool.and_eq_true]at h
 have h0:=QR h.1.2;have hq:js ns 0=true:=by unfold js;simp;omega
 refine ⟨?_,h.2⟩;unfold jq;rw[hg,hq];rfl
set_option linter.unusedSimpArgs false in
set_option maxHeartbeats 2000000 in
theorem qdb (S:Nat→Prop)(sb n:Nat)(ns:List Nd)(w:World)(h:Sto S w sb ns n)(hE:yN w) :
 Calls Tryz.prog 19 #[.pointer (some ⟨sb,0,none⟩)] w fun e w'=>jr S sb w (ZL ns) ns n e w':=by
 have HST:Hid _:=h;have hb0:=Below.alloc1 w (.cells #[.int .i64 0,.int .i64 0,.string ⟨#[]⟩] 37);have HR0:Hid _:=heap_alloc_new w (.cells #[.int .i64 0,.int .i64 0,.string ⟨#[]⟩] 37);have HEV:Hid (∀ W,Below w.heap.size w W→yN W):=fun W hW=>hE.later hW
 obtain ⟨a,c,hbx,hN,hcm⟩:=h.box;have hsl:=qg hbx
 have HX:Hid (∀ W,Below w.heap.size w W→W.cell? ⟨sb,0,none⟩=some (.slice a ns.length c)):=fun W hW=>by
  rw[cH9 ((hW.block sb hsl).trans hbx)];rfl
 have x0:=HX.out _ hb0;obtain ⟨htd,hgt⟩:=Qg h.good;have HT:Hid _:=ZQ S (.slice a ns.length c) ns 0 _ ((h.doc hN).later hb0)
 have HS:Hid (ZL ns=if (yT ns.length (growF ns.length ns 0)).2≠0 then qO (yT ns.length (growF ns.length ns 0)).2 else (0,(ns.length:Int),(yT ns.length (growF ns.length ns 0)).1)):=by
  show _=_
  unfold ZL;rw[htd];rfl
 rw[htd]at HT
 generalize growF ns.length ns 0=t at *
 have HPR:Hid (∀ (U:Nat→Prop) (va vk:Value) (W:World),Below w.heap.size w W→qi U W va t.attrs→qa U W ns.length vk t.kids→Calls Tryz.prog 37 #[.agg #[.bool t.text,.string t.s,va,vk]] W fun e w'=>e=.returned (.tuple #[.string (yT ns.length t).1,.int .i64 (yT ns.length t).2])∧Below W.heap.size W w') :=
  fun U va vk W hW hA hK=>KU U ns.length va vk t W hA hK (HEV.out W hW).marks (YG hgt _)
 obtain ⟨P,E,hPE⟩:∃ P E,yT ns.length t=(P,E):=⟨_,_,rfl⟩;rw[hPE]at HS HPR
 simp only at HS HPR
 unfold maxLen at hcm
 clear h hE htd hgt hbx hN hPE HEV;have main:True:=trivial;clear main
 by_cases hE0:E=0
 · subst hE0;rw[if_neg (by simp)]at HS
   rw[HS.out]
   go_enter Tryz.func19,Tryz.ntmps19
   go_wp2_with fail
   generalize w.alloc (.cells #[.int .i64 0,.int .i64 0,.string ⟨#[]⟩] 37)=W0 at *
   refine Calls.mono HT.out ?_;rintro e w1 ⟨va,vk,rfl,hA1,hK1,hb1⟩;obtain ⟨aa,ac,rfl⟩:=hA1.shape;obtain ⟨ka,kc,rfl,_,_⟩:=qa.shape ns.length hK1;have hb2:=Below.alloc1 w1 (.cells #[.bool t.text,.string t.s,.slice aa t.attrs.length ac,.slice ka t.kids.length kc] 62);have hb12:=hb1.trans (hb2.mono hb1.size);have hB2:=hb0.trans (hb12.mono hb0.size);have HR2:Hid _:=(hb12.block _ (qg HR0.out)).trans HR0.out;have HP2:Hid _:=HPR.out _ _ _ _ hB2 (qi.later hA1 hb2) (qa.later hb2 ns.length hK1);clear hA1 hK1 hb1 hb2 hb12 HT HPR HS;go_wp2_with fail
   generalize w1.alloc (.cells #[.bool t.text,.string t.s,.slice aa t.attrs.length ac,.slice ka t.kids.length kc] 62)=W2 at *
   refine Calls.mono HP2.out ?_;rintro e w3 ⟨rfl,hb3⟩;have hB3:=hB2.trans (hb3.mono hB2.size);have HR3:Hid _:=(hb3.block _ (qg HR2.out)).trans HR2.out;have x3:=HX.out w3 hB3;have r0:w3.cell? ⟨w.heap.size,0,none⟩=some (.int .i64 0):=by rw[cH9 HR3.out];rfl
   have r1:w3.cell? ⟨w.heap.size,1,none⟩=some (.int .i64 0):=by rw[cH9 HR3.out];rfl
   have r2:w3.cell? ⟨w.heap.size,2,none⟩=some (.string ⟨#[]⟩):=by rw[cH9 HR3.out];rfl
   have f0:w3.frozen? ⟨w.heap.size,0,none⟩=false:=fH9 HR3.out _;have f1:w3.frozen? ⟨w.heap.size,1,none⟩=false:=fH9 HR3.out _;have f2:w3.frozen? ⟨w.heap.size,2,none⟩=false:=fH9 HR3.out _;clear hb3 HR2 HR3 HP2 HX x0;go_wp2_with fail;refine bodyPost_ret (v:=.agg #[.int .i64 0,.int .i64 (ns.length:Int),.string P]) (by simp[results,Tryz.results19,go_sem,qc,World.cell?_setCell_other,r0,r1,r2]) rfl ?_
   exact zt (0,(ns.length:Int),P) HST.out (zE hB3 (nR9 _))
 · have hEb : (E == 0) = false := by simpa using hE0
   rw[if_pos hE0]at HS
   rw[HS.out]
   go_enter Tryz.func19,Tryz.ntmps19
   go_wp2_with fail
   generalize w.alloc (.cells #[.int .i64 0,.int .i64 0,.string ⟨#[]⟩] 37)=W0 at *
   refine Calls.mono HT.out ?_;rintro e w1 ⟨va,vk,rfl,hA1,hK1,hb1⟩;obtain ⟨aa,ac,rfl⟩:=hA1.shape;obtain ⟨ka,kc,rfl,_,_⟩:=qa.shape ns.length hK1;have hb2:=Below.alloc1 w1 (.cells #[.bool t.text,.string t.s,.slice aa t.attrs.length ac,.slice ka t.kids.length kc] 62);have hb12:=hb1.trans (hb2.mono hb1.size);have hB2:=hb0.trans (hb12.mono hb0.size);have HR2:Hid _:=(hb12.block _ (qg HR0.out)).trans HR0.out;have HP2:Hid _:=HPR.out _ _ _ _ hB2 (qi.later hA1 hb2) (qa.later hb2 ns.length hK1);clear hA1 hK1 hb1 hb2 hb12 HT HPR HS hE0;go_wp2_with fail
   generalize w1.alloc (.cells #[.bool t.text,.string t.s,.slice aa t.attrs.length ac,.slice ka t.kids.length kc] 62)=W2 at *
   refine Calls.mono HP2.out ?_;rintro e w3 ⟨rfl,hb3⟩;have hB3:=hB2.trans (hb3.mono hB2.size);have HR3:Hid _:=(hb3.block _ (qg HR2.out)).trans HR2.out;clear hb3 HR2 HP2 HX x0;go_wp2_with fail;refine Calls.mono (zO E w3) ?_;rintro e wr1 ⟨rfl,hbr1⟩;have HRr:Hid _:=(hbr1.block _ (qg HR3.out)).trans HR3.out;have hBr:=hB3.trans (hbr1.mono hB3.size);have r0:wr1.cell? ⟨w.heap.size,0,none⟩=some (.int .i64 0):=by rw[cH9 HRr.out];rfl
   have r1:wr1.cell? ⟨w.heap.size,1,none⟩=some (.int .i64 0):=by rw[cH9 HRr.out];rfl
   have r2:wr1.cell? ⟨w.heap.size,2,none⟩=some (.string ⟨#[]⟩):=by rw[cH9 HRr.out];rfl
   have f0:wr1.frozen? ⟨w.heap.size,0,none⟩=false:=fH9 HRr.out _;have f1:wr1.frozen? ⟨w.heap.size,1,none⟩=false:=fH9 HRr.out _;have f2:wr1.frozen? ⟨w.heap.size,2,none⟩=false:=fH9 HRr.out _;clear hbr1 HRr;go_wp2_with fail;refine bodyPost_ret (v:=.agg #[.int .i64 (E),.int .i64 0,.string ⟨#[]⟩]) (by simp[results,Tryz.results19,go_sem,qc,World.cell?_setCell_other,r0,r1,r2]) rfl ?_
   exact zt (qO _) HST.out (zE hBr (nR9 _))
theorem Xs (k:Int)(said:List UInt8)(hs:said.length≤2500)(n:Nat):TextsN n (qp k said).1.content∧(qp k said).1.name.size≤maxLen∧(qp k said).1.s.size≤maxLen:=by
 have h0:TextsN n []:=by cases n with|zero=>trivial|succ n=>intro t ht;cases ht
 have hz:(⟨#[]⟩:ByteArray).size≤maxLen:=nZ9 _
 have hc:TextsN n (qM said).1:=by
  rcases Vp said with ⟨_,h⟩|⟨h,_⟩
  · rw[h];exact h0
  · exact QC h n
 have ht:∀ s:List UInt8,s.length≤2500→(bytesOf (zK s).1).size≤maxLen:=by
  intro s hs;rw[qk];unfold zK
  split
  · exact nZ9 _
  · split
    · exact nZ9 _
    · exact Nat.le_trans (ZD textEnds _ _) (by unfold Rs.left maxLen;simp;omega)
 have hcs:=jF 61 said;unfold qp
 split
 · exact ⟨hc,hz,hz⟩
 · split
   · exact ⟨h0,hz,ht said hs⟩
   · split
     · exact ⟨h0,by rw[qk];unfold maxLen;omega,hz⟩
     · split
       · split
         · exact ⟨h0,by rw[qk];unfold maxLen;omega,ht _ (by omega)⟩
         · exact ⟨h0,hz,hz⟩
       · exact ⟨h0,hz,hz⟩
theorem VD (s:List UInt8)(n:Nat):TextsN n (qw s).1.content∧(qw s).1.name.size≤maxLen∧(qw s).1.s.size≤maxLen:=by
 have h00:TextsN n []:=by cases n with|zero=>trivial|succ n=>intro t ht;cases ht
 have h0:TextsN n noOp.content∧noOp.name.size≤maxLen∧noOp.s.size≤maxLen:=⟨h00,nZ9 _,nZ9 _⟩;unfold qw
 split
 · exact h0
 · rename_i hl
   have h1:=jF 32 s;have h2:=jF 32 (zx s);have hsl:(zT s).length≤2500:=by have:=h1.2;have:=h2.2;unfold zT;unfold zx at *;omega
   split
   · exact h0
   · split
     · exact h0
     · split
       · exact h0
       · exact Xs _ _ hsl n
theorem qa2 (ns:List Nd)(n:Nat):∀ ls:List ByteArray,QM n (qv ns ls).1:=by
 intro ls
 induction ls with
 | nil=>intro x hx;cases hx
 | cons s r ih =>
   intro x hx;unfold qv at hx
   split at hx
   · cases hx
   · split at hx
     · cases hx
     · split at hx
       · cases hx
       · split at hx
         · cases hx
         · rcases List.mem_append.1 hx with hx | hx
           · unfold Zs at hx
             obtain ⟨t,_,rfl⟩:=List.mem_map.1 hx;exact VD s.data.toList n
           · exact ih x hx
set_option linter.unusedSimpArgs false in
set_option maxHeartbeats 2000000 in
theorem qaU (S T:Nat→Prop)(sb n:Nat)(ns:List Nd)(vl:Value)(ls:List ByteArray)(w:World)(h:Sto S w sb ns n)(hL:Strs T w vl ls)(hE:yN w)(hz:∀ s∈ls,s.size≤maxLen) :
 Calls Tryz.prog 18 #[.pointer (some ⟨sb,0,none⟩),vl] w fun e w'=>jr S sb w (zF ls ns).1 (zF ls ns).2 n e w':=by
 obtain ⟨la,lc,rfl,hll,hlc⟩:=hL.shape;have HST:Hid _:=h;have hb0:=Below.alloc1 w (.cells #[.int .i64 0,.int .i64 0,.string ⟨#[]⟩] 37);have HR0:Hid _:=heap_alloc_new w (.cells #[.int .i64 0,.int .i64 0,.string ⟨#[]⟩] 37);have HEV:Hid (∀ W,Below w.heap.size w W→yN W):=fun W hW=>hE.later hW
 obtain ⟨a,c,hbx,hN,hcm⟩:=h.box;have hsl:=qg hbx;have HBX:Hid _:=hbx
 have HX:Hid (∀ W,Below w.heap.size w W→W.cell? ⟨sb,0,none⟩=some (.slice a ns.length c)):=fun W hW=>by
  rw[cH9 ((hW.block sb hsl).trans hbx)];rfl
 have x0:=HX.out _ hb0;have HD:Hid _:=h.doc hN;unfold maxLen at hcm hlc
 clear hbx hN
 by_cases h6:6<ls.length
 · have h6i : (6 : Int) < (ls.length : Int) := by omega
   have HS:Hid (zF ls ns=(qO 2,ns)):=by show _=_;unfold zF;rw[if_pos h6]
   rw[HS.out];clear h hE HEV hL HX x0 HD HBX
   go_enter Tryz.func18,Tryz.ntmps18
   go_wp2_with fail
   generalize w.alloc (.cells #[.int .i64 0,.int .i64 0,.string ⟨#[]⟩] 37)=W0 at *
   refine Calls.mono (zO 2 W0) ?_;rintro e wr1 ⟨rfl,hbr1⟩;have HRr:Hid _:=(hbr1.block _ (qg HR0.out)).trans HR0.out;have hBr:=hb0.trans (hbr1.mono hb0.size);have r0:wr1.cell? ⟨w.heap.size,0,none⟩=some (.int .i64 0):=by rw[cH9 HRr.out];rfl
   have r1:wr1.cell? ⟨w.heap.size,1,none⟩=some (.int .i64 0):=by rw[cH9 HRr.out];rfl
   have r2:wr1.cell? ⟨w.heap.size,2,none⟩=some (.string ⟨#[]⟩):=by rw[cH9 HRr.out];rfl
   have f0:wr1.frozen? ⟨w.heap.size,0,none⟩=false:=fH9 HRr.out _;have f1:wr1.frozen? ⟨w.heap.size,1,none⟩=false:=fH9 HRr.out _;have f2:wr1.frozen? ⟨w.heap.size,2,none⟩=false:=fH9 HRr.out _;clear hbr1 HRr;go_wp2_with fail;refine bodyPost_ret (v:=.agg #[.int .i64 (2),.int .i64 0,.string ⟨#[]⟩]) (by simp[results,Tryz.results18,go_sem,qc,World.cell?_setCell_other,r0,r1,r2]) rfl ?_
   exact zt (qO _) HST.out (zE hBr (nR9 _))
 · have h6i : ¬ (6 : Int) < (ls.length : Int) := by omega
   have HS:Hid (zF ls ns=if (qv ns ls).2≠0 then (qO (qv ns ls).2,ns) else if q5 ns (qv ns ls).1≠0 then (qO (q5 ns (qv ns ls).1),ns) else ((0,((qv ns ls).1.length:Int),⟨#[]⟩),zn ns (qv ns ls).1)):=by show _=_;unfold zF;rw[if_neg h6]
   have HCH:Hid _:=Kj (fun b=>b<(w.alloc (.cells #[.int .i64 0,.int .i64 0,.string ⟨#[]⟩] 37)).heap.size) (.slice a ns.length c) (.slice la ls.length lc) ns ls _ ⟨(HD.out.later hb0).nodes.carry fun b hb=>⟨(HD.out.later hb0).here b hb,rfl⟩,fun b hb=>hb,HD.out.few,HD.out.short⟩ ((hL.later hb0).bounded.carry fun b hb=>⟨hb.2,rfl⟩) (HEV.out _ hb0) (by omega) hz
   have HTX:Hid _:=qa2 ns 2501 ls;obtain ⟨L,hLL⟩:∃ L,(qv ns ls).1=L:=⟨_,rfl⟩;obtain ⟨E,hEE⟩:∃ E,(qv ns ls).2=E:=⟨_,rfl⟩;rw[hLL,hEE]at HCH HS
   rw[hLL]at HTX
   clear h hE HEV hL hLL hEE
   by_cases hE0:E=0
   case neg =>
    have hEb:(E==0)=false:=by simpa using hE0
    rw[if_pos hE0]at HS
    rw[HS.out];clear hE0
    go_enter Tryz.func18,Tryz.ntmps18
    go_wp2_with fail
    generalize w.alloc (.cells #[.int .i64 0,.int .i64 0,.string ⟨#[]⟩] 37)=W0 at *
    refine Calls.mono HCH.out ?_;rintro e w1 ⟨v1,rfl,hO1,hb1⟩;obtain ⟨oa,oc,rfl,_,_⟩:=hO1.shape;have hB1:=hb0.trans (hb1.mono hb0.size);have HR1:Hid _:=(hb1.block _ (qg HR0.out)).trans HR0.out;clear hO1 hb1 HCH HX x0;go_wp2_with fail;refine Calls.mono (zO E w1) ?_;rintro e wr1 ⟨rfl,hbr1⟩;have HRr:Hid _:=(hbr1.block _ (qg HR1.out)).trans HR1.out;have hBr:=hB1.trans (hbr1.mono hB1.size);have r0:wr1.cell? ⟨w.heap.size,0,none⟩=some (.int .i64 0):=by rw[cH9 HRr.out];rfl
    have r1:wr1.cell? ⟨w.heap.size,1,none⟩=some (.int .i64 0):=by rw[cH9 HRr.out];rfl
    have r2:wr1.cell? ⟨w.heap.size,2,none⟩=some (.string ⟨#[]⟩):=by rw[cH9 HRr.out];rfl
    have f0:wr1.frozen? ⟨w.heap.size,0,none⟩=false:=fH9 HRr.out _;have f1:wr1.frozen? ⟨w.heap.size,1,none⟩=false:=fH9 HRr.out _;have f2:wr1.frozen? ⟨w.heap.size,2,none⟩=false:=fH9 HRr.out _;clear hbr1 HRr;go_wp2_with fail;refine bodyPost_ret (v:=.agg #[.int .i64 (E),.int .i64 0,.string ⟨#[]⟩]) (by simp[results,Tryz.results18,go_sem,qc,World.cell?_setCell_other,r0,r1,r2]) rfl ?_
    exact zt (qO _) HST.out (zE hBr (nR9 _))
   case pos =>
    subst hE0;rw[if_neg (by simp)]at HS
    obtain ⟨F,hF⟩:∃ F,q5 ns L=F:=⟨_,rfl⟩;obtain ⟨D,hD⟩:∃ D,zn ns L=D:=⟨_,rfl⟩
    have HGD:Hid (F=0→qq D=true):=by
     intro h0;rw[←hD];exact (Vi (hF.trans h0)).1
    rw[hF,hD]at HS
    have HAP:Hid (∀ (w1:World) (v:Value),Below (w.alloc (.cells #[.int .i64 0,.int .i64 0,.string ⟨#[]⟩] 37)).heap.size (w.alloc (.cells #[.int .i64 0,.int .i64 0,.string ⟨#[]⟩] 37)) w1→Ops (fun b=>(w.alloc (.cells #[.int .i64 0,.int .i64 0,.string ⟨#[]⟩] 37)).heap.size≤b) w1 2501 v L→Calls Tryz.prog 36 #[.agg #[.slice a ns.length c],v] w1 fun e w'=>∃ v',e=.returned (.tuple #[.agg #[v'],.int .i64 F])∧qt (fun b=>(S b∨(w.alloc (.cells #[.int .i64 0,.int .i64 0,.string ⟨#[]⟩] 37)).heap.size≤b)∧b<w'.heap.size) w' v' D∧Below w1.heap.size w1 w'):=by
     intro w1 v hb1 hO;have hB1:=hb0.trans (hb1.mono hb0.size);have hD1:=HD.out.later hB1;have:=Xp (fun b=>(S b∨(w.alloc (.cells #[.int .i64 0,.int .i64 0,.string ⟨#[]⟩] 37)).heap.size≤b)∧b<w1.heap.size) 2501 _ v ns L w1 (hD1.nodes.carry fun b hb=>⟨⟨Or.inl hb,hD1.here b hb⟩,rfl⟩) (fun b hb=>hb.2) hD1.few hD1.short (hO.bounded.carry fun b hb=>⟨⟨Or.inr hb.1,hb.2⟩,rfl⟩) HTX.out
     rw[hF,hD]at this
     refine this.mono ?_;rintro e w' ⟨v',rfl,h1,h2⟩;refine ⟨v',rfl,h1.bounded.carry fun b hb=>⟨⟨?_,hb.2⟩,rfl⟩,h2⟩
     rcases hb.1 with h|h
     · exact h.1
     · exact Or.inr (Nat.le_trans hb1.size h)
    clear hF hD
    by_cases hF0:F=0
    case neg =>
     have hFb:(F==0)=false:=by simpa using hF0
     rw[if_pos hF0]at HS
     rw[HS.out];clear hF0 HGD
     go_enter Tryz.func18,Tryz.ntmps18
     go_wp2_with fail
     generalize w.alloc (.cells #[.int .i64 0,.int .i64 0,.string ⟨#[]⟩] 37)=W0 at *
     refine Calls.mono HCH.out ?_;rintro e w1 ⟨v1,rfl,hO1,hb1⟩;obtain ⟨oa,oc,rfl,_,_⟩:=hO1.shape;have hB1:=hb0.trans (hb1.mono hb0.size);have HR1:Hid _:=(hb1.block _ (qg HR0.out)).trans HR0.out;have x1:=HX.out w1 hB1;have HA1:Hid _:=HAP.out w1 _ hb1 hO1;clear hO1 hb1 HCH x0 HAP;go_wp2_with fail;refine Calls.mono HA1.out ?_;rintro e w2 ⟨v2,rfl,hN2,hb2⟩;obtain ⟨a2,c2,rfl,_,_⟩:=hN2.shape;have hb3:=Below.alloc1 w2 (.cells #[.slice a2 D.length c2] 44);have hb23:=hb2.trans (hb3.mono hb2.size);have hB3:=hB1.trans (hb23.mono hB1.size);have HR3:Hid _:=(hb23.block _ (qg HR1.out)).trans HR1.out;clear hN2 hb2 hb3 hb23 HR1 x1 HX HA1;go_wp2_with fail
     generalize w2.alloc (.cells #[.slice a2 D.length c2] 44)=W3 at *
     refine Calls.mono (zO F W3) ?_;rintro e wr1 ⟨rfl,hbr1⟩;have HRr:Hid _:=(hbr1.block _ (qg HR3.out)).trans HR3.out;have hBr:=hB3.trans (hbr1.mono hB3.size);have r0:wr1.cell? ⟨w.heap.size,0,none⟩=some (.int .i64 0):=by rw[cH9 HRr.out];rfl
     have r1:wr1.cell? ⟨w.heap.size,1,none⟩=some (.int .i64 0):=by rw[cH9 HRr.out];rfl
     have r2:wr1.cell? ⟨w.heap.size,2,none⟩=some (.string ⟨#[]⟩):=by rw[cH9 HRr.out];rfl
     have f0:wr1.frozen? ⟨w.heap.size,0,none⟩=false:=fH9 HRr.out _;have f1:wr1.frozen? ⟨w.heap.size,1,none⟩=false:=fH9 HRr.out _;have f2:wr1.frozen? ⟨w.heap.size,2,none⟩=false:=fH9 HRr.out _;clear hbr1 HRr;go_wp2_with fail;refine bodyPost_ret (v:=.agg #[.int .i64 (F),.int .i64 0,.string ⟨#[]⟩]) (by simp[results,Tryz.results18,go_sem,qc,World.cell?_setCell_other,r0,r1,r2]) rfl ?_
     exact zt (qO _) HST.out (zE hBr (nR9 _))
    case pos =>
     subst hF0;rw[if_neg (by simp)]at HS
     rw[HS.out];have hgD:=HGD.out rfl;have HGG:Hid _:=hgD;clear HGD hgD
     go_enter Tryz.func18,Tryz.ntmps18
     go_wp2_with fail
     generalize w.alloc (.cells #[.int .i64 0,.int .i64 0,.string ⟨#[]⟩] 37)=W0 at *
     refine Calls.mono HCH.out ?_;rintro e w1 ⟨v1,rfl,hO1,hb1⟩;obtain ⟨oa,oc,rfl,_,hocm⟩:=hO1.shape;have hB1:=hb0.trans (hb1.mono hb0.size);have HR1:Hid _:=(hb1.block _ (qg HR0.out)).trans HR0.out;have x1:=HX.out w1 hB1;have HA1:Hid _:=HAP.out w1 _ hb1 hO1;have hrw0:w.heap.size<W0.heap.size:=qg HR0.out;clear hO1 hb1 HCH x0 HAP;go_wp2_with fail;refine Calls.mono HA1.out ?_;rintro e w2 ⟨v2,rfl,hN2,hb2⟩;obtain ⟨a2,c2,rfl,_,hc2⟩:=hN2.shape;have hb3:=Below.alloc1 w2 (.cells #[.slice a2 D.length c2] 44);have hb23:=hb2.trans (hb3.mono hb2.size);have hB3:=hB1.trans (hb23.mono hB1.size);have HR3:Hid _:=(hb23.block _ (qg HR1.out)).trans HR1.out;have HN3:Hid _:=qt.later hN2 hb3;have HX3:Hid _:=(hB3.block sb hsl).trans HBX.out;have x3:(w2.alloc (.cells #[.slice a2 D.length c2] 44)).cell? ⟨sb,0,none⟩=some (.slice a ns.length c):=by rw[cH9 HX3.out];rfl
     have xf3:(w2.alloc (.cells #[.slice a2 D.length c2] 44)).frozen? ⟨sb,0,none⟩=false:=fH9 HX3.out _;have HRs:Hid (((w2.alloc (.cells #[.slice a2 D.length c2] 44)).setCell ⟨sb,0,none⟩ (.slice a2 D.length c2)).heap[w.heap.size]?=_):=(qb (by omega)).trans HR3.out
     have hSw:∀ b,S b→b<w.heap.size:=fun b hb=>(HST.out.here b hb).1
     have HSW:Hid _:=hSw;have r0:((w2.alloc (.cells #[.slice a2 D.length c2] 44)).setCell ⟨sb,0,none⟩ (.slice a2 D.length c2)).cell? ⟨w.heap.size,0,none⟩=some (.int .i64 0):=by rw[cH9 HRs.out];rfl
     have r1:((w2.alloc (.cells #[.slice a2 D.length c2] 44)).setCell ⟨sb,0,none⟩ (.slice a2 D.length c2)).cell? ⟨w.heap.size,1,none⟩=some (.int .i64 0):=by rw[cH9 HRs.out];rfl
     have r2:((w2.alloc (.cells #[.slice a2 D.length c2] 44)).setCell ⟨sb,0,none⟩ (.slice a2 D.length c2)).cell? ⟨w.heap.size,2,none⟩=some (.string ⟨#[]⟩):=by rw[cH9 HRs.out];rfl
     have f0:((w2.alloc (.cells #[.slice a2 D.length c2] 44)).setCell ⟨sb,0,none⟩ (.slice a2 D.length c2)).frozen? ⟨w.heap.size,0,none⟩=false:=fH9 HRs.out _;have f1:((w2.alloc (.cells #[.slice a2 D.length c2] 44)).setCell ⟨sb,0,none⟩ (.slice a2 D.length c2)).frozen? ⟨w.heap.size,1,none⟩=false:=fH9 HRs.out _;have f2:((w2.alloc (.cells #[.slice a2 D.length c2] 44)).setCell ⟨sb,0,none⟩ (.slice a2 D.length c2)).frozen? ⟨w.heap.size,2,none⟩=false:=fH9 HRs.out _;clear hN2 hb2 hb3 hb23 HR1 x1 HX HA1 HRs HX3 hSw;go_wp2_with fail;refine bodyPost_ret (v:=.agg #[.int .i64 0,.int .i64 (L.length:Int),.string ⟨#[]⟩]) (by simp[results,Tryz.results18,go_sem,qc,World.cell?_setCell_other,r0,r1,r2]) rfl ?_
     exact Yw (0,(L.length:Int),⟨#[]⟩) HST.out hB3 (fun b hb=>by rcases hb.1 with h|h;exact Or.inl h;exact Or.inr (by omega)) HN3.out hc2 HGG.out (nR9 _) (fun b hb=>by
      rcases hb.1 with h|h
      · have:=HSW.out b h;omega
      · omega)
end
section
attribute [local go_sem] qc
theorem Sto.acts {S:Nat→Prop}{w W:World}{sb n:Nat}{ns:List Nd}(h:Sto S w sb ns n)(hb:Below w.heap.size w W)(m:Nat):Sto S (W.setCell ⟨sb,1,none⟩ (.int .i64 (m:Int))) sb ns m:=by
 obtain ⟨a,c,h1,h2,h3⟩:=h.box;have hbx:W.heap[sb]?=_:=(hb.block sb (qg h1)).trans h1;refine ⟨fun b hb'=>⟨by simpa using Nat.lt_of_lt_of_le (h.here b hb').1 hb.size,(h.here b hb').2⟩,h.good,a,c,?_,?_,h3⟩
 · simp[World.setCell,Array.getElem?_modify,hbx]
 · exact h2.carry fun b hb'=>⟨hb',by rw[qb (h.here b hb').2];exact hb.block b (h.here b hb').1⟩
theorem jW {S:Nat→Prop}{sb n m R:Nat}{ns ns':List Nd}{w W1 w2:World}{rep:Rep}{e:Ending}{v0 v1 v2:Value}(h:Sto S w sb ns n)(hF1:CFr sb w W1)(hR:w.heap.size≤R)(hRl:R<W1.heap.size)(hP:jr S sb W1 rep ns' m e w2):jr S sb w rep ns' m e (Jp w2 R v0 v1 v2):=by
 obtain ⟨h1,⟨S',hS',hSt⟩,hF⟩:=hP;obtain ⟨a,c,hbx,_,_⟩:=h.box;have hsl:=qg hbx;have hs1:=hF1.below.size;have hsz2:(Jp w2 R v0 v1 v2).heap.size=w2.heap.size:=by unfold Jp;simp
 refine ⟨h1,⟨S',fun b hb'=>?_,hSt.keep (by rw[hsz2];exact nR9 _) fun b hb'=>jP ?_⟩,?_⟩
 · rcases hS' b hb' with h2 | h2
   · exact Or.inl h2
   · exact Or.inr (Nat.le_trans hs1 h2)
 · rcases hb' with hb' | rfl
   · rcases hS' b hb' with h2 | h2
     · have:=(h.here b h2).1;omega
     · omega
   · omega
 · refine ⟨zE (B := 0) (hF1.below.trans hF.below) (nZ9 _), fun x hx hxs => ?_⟩
   rw[jP (by omega),hF.frame x (Nat.lt_of_lt_of_le hx hs1) hxs]
   exact hF1.frame x hx hxs
set_option linter.unusedSimpArgs false in
set_option maxHeartbeats 4000000 in
theorem Yx (S T:Nat→Prop)(sb n:Nat)(ns:List Nd)(vl:Value)(a:Ac)(w0 w:World)(h:Sto S w sb ns n)(hL:Strs T w vl a.lines)(hT:∀ b,T b→b≠sb)(hE:yN w0)(hB0:Below w0.heap.size w0 w)(hsb:w0.heap.size≤sb)(hz:∀ s∈a.lines,s.size≤maxLen) :
 Calls Tryz.prog 8 #[.pointer (some ⟨sb,0,none⟩),.agg #[.int .i64 a.kind,vl]] w fun e w'=>jr S sb w (yp a ns n).1 (yp a ns n).2.1 (yp a ns n).2.2 e w':=by
 obtain ⟨la,lc,rfl,hll,hlc⟩:=hL.shape;have HST:Hid _:=h;have hb0:Below w.heap.size w ((w.alloc (.cells #[.int .i64 a.kind,.slice la a.lines.length lc] 40)).alloc (.cells #[.int .i64 0,.int .i64 0,.string ⟨#[]⟩] 37)):=(Below.alloc1 w _).alloc (by simp) _
 have HA0:Hid (((w.alloc (.cells #[.int .i64 a.kind,.slice la a.lines.length lc] 40)).alloc (.cells #[.int .i64 0,.int .i64 0,.string ⟨#[]⟩] 37)).heap[w.heap.size]?=some (.cells #[.int .i64 a.kind,.slice la a.lines.length lc] 40 (0,0))):=by
  show _=_
  rw[heap_alloc_old _ _ (by simp)];exact heap_alloc_new _ _
 have HR0:Hid (((w.alloc (.cells #[.int .i64 a.kind,.slice la a.lines.length lc] 40)).alloc (.cells #[.int .i64 0,.int .i64 0,.string ⟨#[]⟩] 37)).heap[w.heap.size+1]?=some (.cells #[.int .i64 0,.int .i64 0,.string ⟨#[]⟩] 37 (0,0))):=by
  have:=heap_alloc_new (w.alloc (.cells #[.int .i64 a.kind,.slice la a.lines.length lc] 40)) (.cells #[.int .i64 0,.int .i64 0,.string ⟨#[]⟩] 37);rw[World.size_alloc]at this
  exact this
 obtain ⟨da,dc,hbx,_,_⟩:=h.box;have hsl:=qg hbx;have HBX:Hid (((w.alloc (.cells #[.int .i64 a.kind,.slice la a.lines.length lc] 40)).alloc (.cells #[.int .i64 0,.int .i64 0,.string ⟨#[]⟩] 37)).heap[sb]?=_):=(hb0.block sb hsl).trans hbx;have x1:((w.alloc (.cells #[.int .i64 a.kind,.slice la a.lines.length lc] 40)).alloc (.cells #[.int .i64 0,.int .i64 0,.string ⟨#[]⟩] 37)).cell? ⟨sb,1,none⟩=some (.int .i64 (n:Int)):=by rw[cH9 HBX.out];rfl
 have xf1:((w.alloc (.cells #[.int .i64 a.kind,.slice la a.lines.length lc] 40)).alloc (.cells #[.int .i64 0,.int .i64 0,.string ⟨#[]⟩] 37)).frozen? ⟨sb,1,none⟩=false:=fH9 HBX.out _
 by_cases hn:100≤n
 · have hni : (100 : Int) ≤ (n : Int) := by omega
   have HS:Hid (yp a ns n=(qO 7,ns,n)):=by show _=_;unfold yp;rw[if_pos hn]
   rw[HS.out];clear h hL hE hbx
   go_enter Tryz.func8,Tryz.ntmps8
   go_wp2_with fail
   generalize ((w.alloc (.cells #[.int .i64 a.kind,.slice la a.lines.length lc] 40)).alloc (.cells #[.int .i64 0,.int .i64 0,.string ⟨#[]⟩] 37))=W0 at *
   refine Calls.mono (zO 7 W0) ?_;rintro e wr1 ⟨rfl,hbr1⟩;have HRr:Hid _:=(hbr1.block _ (qg HR0.out)).trans HR0.out;have hBr:=hb0.trans (hbr1.mono hb0.size);have r0:wr1.cell? ⟨w.heap.size+1,0,none⟩=some (.int .i64 0):=by rw[cH9 HRr.out];rfl
   have r1:wr1.cell? ⟨w.heap.size+1,1,none⟩=some (.int .i64 0):=by rw[cH9 HRr.out];rfl
   have r2:wr1.cell? ⟨w.heap.size+1,2,none⟩=some (.string ⟨#[]⟩):=by rw[cH9 HRr.out];rfl
   have f0:wr1.frozen? ⟨w.heap.size+1,0,none⟩=false:=fH9 HRr.out _;have f1:wr1.frozen? ⟨w.heap.size+1,1,none⟩=false:=fH9 HRr.out _;have f2:wr1.frozen? ⟨w.heap.size+1,2,none⟩=false:=fH9 HRr.out _;clear hbr1 HRr x1 xf1;go_wp2_with fail;refine bodyPost_ret (v:=.agg #[.int .i64 7,.int .i64 0,.string ⟨#[]⟩]) (by simp[results,Tryz.results8,go_sem,qc,World.cell?_setCell_other,r0,r1,r2]) rfl ?_
   exact zt (qO 7) HST.out (zE hBr (by omega))
 · have hni : ¬ (100 : Int) ≤ (n : Int) := by omega
   have HS:Hid (yp a ns n=((y8 a ns).1,(y8 a ns).2,n+1)):=by show _=_;unfold yp;rw[if_neg hn]
   rw[HS.out];have hcast:((n+1:Nat):Int)=(n:Int)+1:=by omega
   have hbA:Below (w.setCell ⟨sb,1,none⟩ (.int .i64 ((n:Int)+1))).heap.size (w.setCell ⟨sb,1,none⟩ (.int .i64 ((n:Int)+1))) (((w.setCell ⟨sb,1,none⟩ (.int .i64 ((n:Int)+1))).alloc (.cells #[.int .i64 a.kind,.slice la a.lines.length lc] 40)).alloc (.cells #[.int .i64 0,.int .i64 0,.string ⟨#[]⟩] 37)):=(Below.alloc1 _ _).alloc (by simp) _
   have hszs:(w.setCell ⟨sb,1,none⟩ (.int .i64 ((n:Int)+1))).heap.size=w.heap.size:=by simp
   have HF1:Hid (CFr sb w (((w.setCell ⟨sb,1,none⟩ (.int .i64 ((n:Int)+1))).alloc (.cells #[.int .i64 a.kind,.slice la a.lines.length lc] 40)).alloc (.cells #[.int .i64 0,.int .i64 0,.string ⟨#[]⟩] 37))):=(CFr.put sb w 1 _).trans (CFr.later hbA);have hE1:Below w0.heap.size w0 (((w.setCell ⟨sb,1,none⟩ (.int .i64 ((n:Int)+1))).alloc (.cells #[.int .i64 a.kind,.slice la a.lines.length lc] 40)).alloc (.cells #[.int .i64 0,.int .i64 0,.string ⟨#[]⟩] 37)):=(hB0.setCell (p:=⟨sb,1,none⟩) hsb _).trans (hbA.mono (by rw[hszs];exact hB0.size))
   have HSE:Hid _:=hE.later hE1;have HL1:Hid (Strs T (((w.setCell ⟨sb,1,none⟩ (.int .i64 ((n:Int)+1))).alloc (.cells #[.int .i64 a.kind,.slice la a.lines.length lc] 40)).alloc (.cells #[.int .i64 0,.int .i64 0,.string ⟨#[]⟩] 37)) (.slice la a.lines.length lc) a.lines):=Strs.later (hL.carry fun b hb=>⟨hb,qb (hT b hb)⟩) hbA
   have HS1:Hid (Sto S (((w.setCell ⟨sb,1,none⟩ (.int .i64 ((n:Int)+1))).alloc (.cells #[.int .i64 a.kind,.slice la a.lines.length lc] 40)).alloc (.cells #[.int .i64 0,.int .i64 0,.string ⟨#[]⟩] 37)) sb ns (n+1)):=by
    have:=h.acts (Below.refl _ w) (n+1);rw[hcast]at this
    exact this.later hbA
   have HA1:Hid ((((w.setCell ⟨sb,1,none⟩ (.int .i64 ((n:Int)+1))).alloc (.cells #[.int .i64 a.kind,.slice la a.lines.length lc] 40)).alloc (.cells #[.int .i64 0,.int .i64 0,.string ⟨#[]⟩] 37)).heap[w.heap.size]?=some (.cells #[.int .i64 a.kind,.slice la a.lines.length lc] 40 (0,0))):=by
    have h1:=heap_alloc_new (w.setCell ⟨sb,1,none⟩ (.int .i64 ((n:Int)+1))) (.cells #[.int .i64 a.kind,.slice la a.lines.length lc] 40);rw[hszs]at h1
    show _=_
    rw[heap_alloc_old _ _ (by simp)]
    exact h1
   have HR1:Hid ((((w.setCell ⟨sb,1,none⟩ (.int .i64 ((n:Int)+1))).alloc (.cells #[.int .i64 a.kind,.slice la a.lines.length lc] 40)).alloc (.cells #[.int .i64 0,.int .i64 0,.string ⟨#[]⟩] 37)).heap[w.heap.size+1]?=some (.cells #[.int .i64 0,.int .i64 0,.string ⟨#[]⟩] 37 (0,0))):=by
    have h1:=heap_alloc_new ((w.setCell ⟨sb,1,none⟩ (.int .i64 ((n:Int)+1))).alloc (.cells #[.int .i64 a.kind,.slice la a.lines.length lc] 40)) (.cells #[.int .i64 0,.int .i64 0,.string ⟨#[]⟩] 37);rw[World.size_alloc,hszs]at h1
    exact h1
   have hwr:IntKind.i64.wrap ((n:Int)+1)=(n:Int)+1:=IntWalk.i64_in _ (by omega)
   have y1:w.cell? ⟨sb,1,none⟩=some (.int .i64 (n:Int)):=by rw[cH9 hbx];rfl
   have yf1:w.frozen? ⟨sb,1,none⟩=false:=fH9 hbx _;have q0:(((w.setCell ⟨sb,1,none⟩ (.int .i64 ((n:Int)+1))).alloc (.cells #[.int .i64 a.kind,.slice la a.lines.length lc] 40)).alloc (.cells #[.int .i64 0,.int .i64 0,.string ⟨#[]⟩] 37)).cell? ⟨w.heap.size,0,none⟩=some (.int .i64 a.kind):=by rw[cH9 HA1.out];rfl
   have q1:(((w.setCell ⟨sb,1,none⟩ (.int .i64 ((n:Int)+1))).alloc (.cells #[.int .i64 a.kind,.slice la a.lines.length lc] 40)).alloc (.cells #[.int .i64 0,.int .i64 0,.string ⟨#[]⟩] 37)).cell? ⟨w.heap.size,1,none⟩=some (.slice la a.lines.length lc):=by rw[cH9 HA1.out];rfl
   clear hbA hszs hcast HA0 HR0 HBX x1 xf1 hb0;clear h hL hE hbx hT hE1
   by_cases hk1:a.kind=1
   · have HK : Hid (y8 a ns = QT a.lines ns) := by show _ = _;unfold y8;rw[if_pos hk1]
     have HCL:Hid _:=qcF S T sb (n+1) ns _ a.lines _ HS1.out HL1.out HSE.out hz;rw[HK.out];obtain ⟨rep,D,hrd⟩:∃ rep D,QT a.lines ns=(rep,D):=⟨_,_,rfl⟩;rw[hrd]at HCL ⊢
     clear hrd HK;rw[hk1]at q0 HF1 HL1 HS1 HA1 HR1 HSE HCL q1
     have HK1:Hid _:=hk1;rw[HK1.out];simp only at HCL
     go_enter Tryz.func8,Tryz.ntmps8
     go_wp2_with fail
     generalize (((w.setCell ⟨sb,1,none⟩ (.int .i64 ((n:Int)+1))).alloc (.cells #[.int .i64 1,.slice la a.lines.length lc] 40)).alloc (.cells #[.int .i64 0,.int .i64 0,.string ⟨#[]⟩] 37))=W1 at *
     refine Calls.mono HCL.out ?_;rintro e w2 hP;obtain ⟨rfl,hSt,hF⟩:=hP;have HPP:Hid (jr S sb W1 rep D (n+1) _ w2):=⟨rfl,hSt,hF⟩;have HRr:Hid (w2.heap[w.heap.size+1]?=_):=(hF.frame _ (qg HR1.out) (by omega)).trans HR1.out
     have r0:w2.cell? ⟨w.heap.size+1,0,none⟩=some (.int .i64 0):=by rw[cH9 HRr.out];rfl
     have r1:w2.cell? ⟨w.heap.size+1,1,none⟩=some (.int .i64 0):=by rw[cH9 HRr.out];rfl
     have r2:w2.cell? ⟨w.heap.size+1,2,none⟩=some (.string ⟨#[]⟩):=by rw[cH9 HRr.out];rfl
     have f0:w2.frozen? ⟨w.heap.size+1,0,none⟩=false:=fH9 HRr.out _;have f1:w2.frozen? ⟨w.heap.size+1,1,none⟩=false:=fH9 HRr.out _;have f2:w2.frozen? ⟨w.heap.size+1,2,none⟩=false:=fH9 HRr.out _;clear hSt hF HRr;go_wp2_with fail;refine bodyPost_ret (v:=.agg #[.int .i64 rep.1,.int .i64 rep.2.1,.string rep.2.2]) (by simp[results,Tryz.results8,go_sem,qc,World.cell?_setCell_other,r0,r1,r2]) rfl ?_
     exact jW HST.out HF1.out (by omega) (qg HR1.out) HPP.out
   · have hk1b : (a.kind == 1) = false := by simpa using hk1
     by_cases hk2:a.kind=2
     · have HK : Hid (y8 a ns = zF a.lines ns) := by show _ = _;unfold y8;rw[if_neg hk1, if_pos hk2]
       have HCL:Hid _:=qaU S T sb (n+1) ns _ a.lines _ HS1.out HL1.out HSE.out hz;rw[HK.out];obtain ⟨rep,D,hrd⟩:∃ rep D,zF a.lines ns=(rep,D):=⟨_,_,rfl⟩;rw[hrd]at HCL ⊢
       clear hrd HK hk1 hk1b;rw[hk2]at q0 HF1 HL1 HS1 HA1 HR1 HSE HCL q1
       have HK1:Hid _:=hk2;rw[HK1.out];simp only at HCL
       go_enter Tryz.func8,Tryz.ntmps8
       go_wp2_with fail
       generalize (((w.setCell ⟨sb,1,none⟩ (.int .i64 ((n:Int)+1))).alloc (.cells #[.int .i64 2,.slice la a.lines.length lc] 40)).alloc (.cells #[.int .i64 0,.int .i64 0,.string ⟨#[]⟩] 37))=W1 at *
       refine Calls.mono HCL.out ?_;rintro e w2 hP;obtain ⟨rfl,hSt,hF⟩:=hP;have HPP:Hid (jr S sb W1 rep D (n+1) _ w2):=⟨rfl,hSt,hF⟩;have HRr:Hid (w2.heap[w.heap.size+1]?=_):=(hF.frame _ (qg HR1.out) (by omega)).trans HR1.out
       have r0:w2.cell? ⟨w.heap.size+1,0,none⟩=some (.int .i64 0):=by rw[cH9 HRr.out];rfl
       have r1:w2.cell? ⟨w.heap.size+1,1,none⟩=some (.int .i64 0):=by rw[cH9 HRr.out];rfl
       have r2:w2.cell? ⟨w.heap.size+1,2,none⟩=some (.string ⟨#[]⟩):=by rw[cH9 HRr.out];rfl
       have f0:w2.frozen? ⟨w.heap.size+1,0,none⟩=false:=fH9 HRr.out _;have f1:w2.frozen? ⟨w.heap.size+1,1,none⟩=false:=fH9 HRr.out _;have f2:w2.frozen? ⟨w.heap.size+1,2,none⟩=false:=fH9 HRr.out _;clear hSt hF HRr;go_wp2_with fail;refine bodyPost_ret (v:=.agg #[.int .i64 rep.1,.int .i64 rep.2.1,.string rep.2.2]) (by simp[results,Tryz.results8,go_sem,qc,World.cell?_setCell_other,r0,r1,r2]) rfl ?_
       exact jW HST.out HF1.out (by omega) (qg HR1.out) HPP.out
     · have hk2b : (a.kind == 2) = false := by simpa using hk2
       by_cases hk3:a.kind=3
       · have HK : Hid (y8 a ns = (ZL ns, ns)) := by show _ = _;unfold y8;rw[if_neg hk1, if_neg hk2, if_pos hk3]
         have HCL:Hid _:=qdb S sb (n+1) ns _ HS1.out HSE.out;rw[HK.out];obtain ⟨rep,hrd⟩:∃ rep,ZL ns=rep:=⟨_,rfl⟩;obtain ⟨D,hDD⟩:∃ D,ns=D:=⟨_,rfl⟩;rw[hrd]at HCL ⊢
         clear hrd HK hk1 hk1b hk2 hk2b;rw[hk3]at q0 HF1 HL1 HS1 HA1 HR1 HSE HCL q1
         have HK1:Hid _:=hk3;rw[HK1.out];subst hDD
         go_enter Tryz.func8,Tryz.ntmps8
         go_wp2_with fail
         generalize (((w.setCell ⟨sb,1,none⟩ (.int .i64 ((n:Int)+1))).alloc (.cells #[.int .i64 3,.slice la a.lines.length lc] 40)).alloc (.cells #[.int .i64 0,.int .i64 0,.string ⟨#[]⟩] 37))=W1 at *
         refine Calls.mono HCL.out ?_;rintro e w2 hP;obtain ⟨rfl,hSt,hF⟩:=hP;have HPP:Hid (jr S sb W1 rep ns (n+1) _ w2):=⟨rfl,hSt,hF⟩;have HRr:Hid (w2.heap[w.heap.size+1]?=_):=(hF.frame _ (qg HR1.out) (by omega)).trans HR1.out
         have r0:w2.cell? ⟨w.heap.size+1,0,none⟩=some (.int .i64 0):=by rw[cH9 HRr.out];rfl
         have r1:w2.cell? ⟨w.heap.size+1,1,none⟩=some (.int .i64 0):=by rw[cH9 HRr.out];rfl
         have r2:w2.cell? ⟨w.heap.size+1,2,none⟩=some (.string ⟨#[]⟩):=by rw[cH9 HRr.out];rfl
         have f0:w2.frozen? ⟨w.heap.size+1,0,none⟩=false:=fH9 HRr.out _;have f1:w2.frozen? ⟨w.heap.size+1,1,none⟩=false:=fH9 HRr.out _;have f2:w2.frozen? ⟨w.heap.size+1,2,none⟩=false:=fH9 HRr.out _;clear hSt hF HRr;go_wp2_with fail;refine bodyPost_ret (v:=.agg #[.int .i64 rep.1,.int .i64 rep.2.1,.string rep.2.2]) (by simp[results,Tryz.results8,go_sem,qc,World.cell?_setCell_other,r0,r1,r2]) rfl ?_
         exact jW HST.out HF1.out (by omega) (qg HR1.out) HPP.out
       · have hk3b : (a.kind == 3) = false := by simpa using hk3
         have HK:Hid (y8 a ns=(qO 4,ns)):=by show _=_;unfold y8;rw[if_neg hk1,if_neg hk2,if_neg hk3]
         rw[HK.out];clear HK hk1 hk2 hk3
         go_enter Tryz.func8,Tryz.ntmps8
         go_wp2_with fail
         generalize (((w.setCell ⟨sb,1,none⟩ (.int .i64 ((n:Int)+1))).alloc (.cells #[.int .i64 a.kind,.slice la a.lines.length lc] 40)).alloc (.cells #[.int .i64 0,.int .i64 0,.string ⟨#[]⟩] 37))=W1 at *
         refine Calls.mono (zO 4 _) ?_;rintro e w2 ⟨rfl,hbr⟩;have hP:jr S sb W1 (qO 4) ns (n+1) (.returned (.agg #[.int .i64 4,.int .i64 0,.string ⟨#[]⟩])) w2:=zt (qO 4) HS1.out hbr;have HPP:Hid _:=hP;have HRr:Hid (w2.heap[w.heap.size+1]?=_):=(hbr.block _ (qg HR1.out)).trans HR1.out;have r0:w2.cell? ⟨w.heap.size+1,0,none⟩=some (.int .i64 0):=by rw[cH9 HRr.out];rfl
         have r1:w2.cell? ⟨w.heap.size+1,1,none⟩=some (.int .i64 0):=by rw[cH9 HRr.out];rfl
         have r2:w2.cell? ⟨w.heap.size+1,2,none⟩=some (.string ⟨#[]⟩):=by rw[cH9 HRr.out];rfl
         have f0:w2.frozen? ⟨w.heap.size+1,0,none⟩=false:=fH9 HRr.out _;have f1:w2.frozen? ⟨w.heap.size+1,1,none⟩=false:=fH9 HRr.out _;have f2:w2.frozen? ⟨w.heap.size+1,2,none⟩=false:=fH9 HRr.out _;clear hbr HRr hP;go_wp2_with fail;refine bodyPost_ret (v:=.agg #[.int .i64 4,.int .i64 0,.string ⟨#[]⟩]) (by simp[results,Tryz.results8,go_sem,qc,World.cell?_setCell_other,r0,r1,r2]) rfl ?_
         exact jW HST.out HF1.out (by omega) (qg HR1.out) HPP.out
theorem new_make:yq 0 ⟨false,⟨#[100,111,99]⟩,[],[]⟩=newD∧xR ⟨false,⟨#[100,111,99]⟩,[],[]⟩=0∧qq newD=true:=by
 refine ⟨?_,?_,?_⟩<;>kernel_rfl
set_option maxHeartbeats 1000000 in
theorem qaC (w:World) :
 Calls Tryz.prog 11 #[] w fun e w'=>∃ (sb:Nat) (S:Nat→Prop),e=.returned (.pointer (some ⟨sb,0,none⟩))∧w.heap.size≤sb∧sb<w'.heap.size∧(∀ b,S b→w.heap.size≤b)∧Sto S w' sb newD 0∧Below w.heap.size w w':=by
 obtain ⟨e1,e2,e3⟩:=new_make
 have HM:Hid _:=YM (fun _=>False) 0 (.slice none 0 0) (.slice none 0 0) ⟨false,⟨#[100,111,99]⟩,[],[]⟩ w qi.nil ⟨rfl,none,0,rfl,nZ9 _⟩ (by
  intro t ht;rw[List.mem_singleton.1 ht];exact ⟨⟨by show 3≤maxLen;unfold maxLen;omega,by intro y hy;cases hy⟩,trivial⟩) (fun _ h=>h.elim)
 rw[e1,e2]at HM
 have HG:Hid _:=e3;clear e1 e2 e3
 go_enter Tryz.func11,Tryz.ntmps11
 go_wp2_with fail;refine Calls.mono HM.out ?_;rintro e w1 ⟨v1,rfl,hN1,hb1⟩;obtain ⟨a1,c1,rfl,_,hc1⟩:=hN1.shape;have hb2:=Below.alloc1 w1 (.cells #[.slice a1 newD.length c1] 44);have hb12:=hb1.trans (hb2.mono hb1.size);have HN2:Hid _:=qt.later hN1.bounded hb2;clear hN1 HM;go_wp2_with fail;go_ret;have hb3:=Below.alloc1 (w1.alloc (.cells #[.slice a1 newD.length c1] 44)) (.cells #[.slice a1 newD.length c1,.int .i64 0] 57);have hs1:=hb1.size;refine ⟨w1.heap.size+1,fun b=>w.heap.size≤b∧b<w1.heap.size,rfl,by omega,by simp,fun b hb=>hb.1,⟨fun b hb=>⟨by simp;omega,by omega⟩,HG.out,a1,c1,?_,?_,hc1⟩,hb12.trans (hb3.mono hb12.size)⟩
 · have := heap_alloc_new (w1.alloc (.cells #[.slice a1 newD.length c1] 44)) (.cells #[.slice a1 newD.length c1, .int .i64 0] 57);rw[World.size_alloc]at this
   exact this
 · exact qt.later HN2.out hb3
end
end Go.Proofs.YtcgknjhpgikckaaGreatDoor
namespace Go.Proofs.YtcgknjhpgikckaaGreatDoor
open Go.RowKit
set_option maxRecDepth 100000
def aliveL1:ByteArray:=⟨#[108,97,115,116,32,47,100,111,99,32,60,97,62,120,60,47,97,62]⟩
def aliveL2:ByteArray:=⟨#[115,101,116,32,47,100,111,99,32,107,61,118]⟩
def aliveT:ByteArray:=⟨#[60,100,111,99,32,107,61,34,118,34,62,60,97,62,120,60,47,97,62,60,47,100,111,99,62]⟩
def aliveD:List Nd:=[⟨false,⟨#[100,111,99]⟩,[(⟨#[107]⟩,⟨#[118]⟩)],-1,[1]⟩,⟨false,⟨#[97]⟩,[],0,[2]⟩,⟨true,⟨#[120]⟩,[],1,[]⟩]
theorem alive_one:yp ⟨2,[aliveL1,aliveL2]⟩ newD 0=((0,2,⟨#[]⟩),aliveD,1):=by kernel_rfl
theorem alive_two:yp ⟨3,[]⟩ aliveD 1=((0,3,aliveT),aliveD,2):=by kernel_rfl
end Go.Proofs.YtcgknjhpgikckaaGreatDoor
namespace Go.Proofs.YtcgknjhpgikckaaGreatDoor
open Go.ChangeShapes Go.WideShapes Go.ChangeAt Go.RowKit
set_option maxRecDepth 100000
section
attribute [local go_sem] qc
theorem X6 (w:World):Strs (fun b=>b=w.heap.size) (w.alloc (.cells #[.string ⟨#[108,97,115,116,32,47,100,111,99,32,60,97,62,120,60,47,97,62]⟩,.string ⟨#[115,101,116,32,47,100,111,99,32,107,61,118]⟩] 9)) (.slice (some ⟨w.heap.size,0,none⟩) 2 2) [aliveL1,aliveL2]:=by
 have hh:=heap_alloc_new w (.cells #[.string ⟨#[108,97,115,116,32,47,100,111,99,32,60,97,62,120,60,47,97,62]⟩,.string ⟨#[115,101,116,32,47,100,111,99,32,107,61,118]⟩] 9);refine ⟨_,2,rfl,nR9 _,by unfold maxLen;omega,fun _=>⟨w.heap.size,0,rfl,rfl,fun i x hx=>?_⟩⟩
 match i,hx with
 | 0,hx=>simp at hx;subst hx;rw[cH9 hh];rfl
 | 1,hx=>simp at hx;subst hx;rw[cH9 hh];rfl
 | i+2,hx=>simp at hx
theorem xi {sb:Nat}{w0 w w':World}(h:Below w0.heap.size w0 w)(hF:CFr sb w w')(hs:w0.heap.size≤sb):Below w0.heap.size w0 w' :=
 ⟨hF.below.os.trans h.os,hF.below.tape.trans h.tape,hF.below.output.trans h.output,Nat.le_trans h.size hF.below.size,fun k hk=>(hF.frame k (Nat.lt_of_lt_of_le hk h.size) (by omega)).trans (h.block k hk)⟩
set_option linter.unusedSimpArgs false in
set_option maxHeartbeats 2000000 in
theorem xg (w:World)(hE:yN w):Calls Tryz.prog 4 #[] w fun e w'=>e=.returned (.bool true)∧Below w.heap.size w w':=by
 have HE:Hid _:=hE;clear hE
 go_enter Tryz.func4,Tryz.ntmps4
 go_wp2_with fail;refine Calls.mono (qaC w) ?_;rintro e w1 ⟨sb,S,rfl,hsb,hsl,hSw,hSt,hb1⟩;have hpn:(Value.pointer (some ⟨sb,0,none⟩)=Value.pointer none)=False:=by simp
 have HD1:Hid _:=Yx S (fun b=>b=w1.heap.size) sb 0 newD _ ⟨2,[aliveL1,aliveL2]⟩ w (w1.alloc (.cells #[.string ⟨#[108,97,115,116,32,47,100,111,99,32,60,97,62,120,60,47,97,62]⟩,.string ⟨#[115,101,116,32,47,100,111,99,32,107,61,118]⟩] 9)) (hSt.later (Below.alloc1 w1 _)) (X6 w1) (fun b hb=>by omega) HE.out (hb1.alloc hb1.size _) hsb (by
  intro s hs;simp only[List.mem_cons,List.not_mem_nil,or_false]at hs
  rcases hs with rfl|rfl
  · show 18≤maxLen;unfold maxLen;omega
  · show 12≤maxLen;unfold maxLen;omega)
 rw[alive_one]at HD1
 simp only at HD1
 have hbA:Below w.heap.size w (w1.alloc (.cells #[.string ⟨#[108,97,115,116,32,47,100,111,99,32,60,97,62,120,60,47,97,62]⟩,.string ⟨#[115,101,116,32,47,100,111,99,32,107,61,118]⟩] 9)):=hb1.alloc hb1.size _;have hs12:w1.heap.size≤(w1.alloc (.cells #[.string ⟨#[108,97,115,116,32,47,100,111,99,32,60,97,62,120,60,47,97,62]⟩,.string ⟨#[115,101,116,32,47,100,111,99,32,107,61,118]⟩] 9)).heap.size:=by simp
 clear hSt hb1;go_wp2_with fail
 generalize w1.alloc (.cells #[.string ⟨#[108,97,115,116,32,47,100,111,99,32,60,97,62,120,60,47,97,62]⟩,.string ⟨#[115,101,116,32,47,100,111,99,32,107,61,118]⟩] 9)=W2 at *
 refine Calls.mono HD1.out ?_;rintro e w3 ⟨rfl,⟨S3,hS3,hSt3⟩,hF3⟩;have hB3:=xi hbA hF3 hsb;have hs13:w1.heap.size≤w3.heap.size:=Nat.le_trans hs12 hF3.below.size;have hb4:=Below.alloc1 w3 (.cells #[.int .i64 0,.int .i64 2,.string ⟨#[]⟩] 37);have hB4:=hB3.trans (hb4.mono hB3.size);have HR4:Hid _:=heap_alloc_new w3 (.cells #[.int .i64 0,.int .i64 2,.string ⟨#[]⟩] 37);have HD2:Hid _:=Yx S3 (fun _=>False) sb 1 aliveD (.slice none 0 0) ⟨3,[]⟩ w (w3.alloc (.cells #[.int .i64 0,.int .i64 2,.string ⟨#[]⟩] 37)) (hSt3.later hb4) Strs.nil (fun _ h=>h.elim) HE.out hB4 hsb (by intro s hs;cases hs)
 rw[alive_two]at HD2
 simp only[aliveT]at HD2
 clear HD1 hSt3 hF3 hb4 hbA;go_wp2_with fail
 generalize w3.alloc (.cells #[.int .i64 0,.int .i64 2,.string ⟨#[]⟩] 37)=W4 at *
 refine Calls.mono HD2.out ?_;rintro e w5 ⟨rfl,⟨S5,hS5,hSt5⟩,hF5⟩;have hB5:=xi hB4 hF5 hsb;have hb6:=Below.alloc1 w5 (.cells #[.int .i64 0,.int .i64 3,.string ⟨#[60,100,111,99,32,107,61,34,118,34,62,60,97,62,120,60,47,97,62,60,47,100,111,99,62]⟩] 37);have hB6:=hB5.trans (hb6.mono hB5.size);have hne:w3.heap.size≠sb:=by omega
 have HR6:Hid _:=(hb6.block _ (Nat.lt_of_lt_of_le (qg HR4.out) hF5.below.size)).trans ((hF5.frame _ (qg HR4.out) hne).trans HR4.out);have HQ6:Hid _:=heap_alloc_new w5 (.cells #[.int .i64 0,.int .i64 3,.string ⟨#[60,100,111,99,32,107,61,34,118,34,62,60,97,62,120,60,47,97,62,60,47,100,111,99,62]⟩] 37);have r0:(w5.alloc (.cells #[.int .i64 0,.int .i64 3,.string ⟨#[60,100,111,99,32,107,61,34,118,34,62,60,97,62,120,60,47,97,62,60,47,100,111,99,62]⟩] 37)).cell? ⟨w3.heap.size,0,none⟩=some (.int .i64 0):=by rw[cH9 HR6.out];rfl
 have r1:(w5.alloc (.cells #[.int .i64 0,.int .i64 3,.string ⟨#[60,100,111,99,32,107,61,34,118,34,62,60,97,62,120,60,47,97,62,60,47,100,111,99,62]⟩] 37)).cell? ⟨w3.heap.size,1,none⟩=some (.int .i64 2):=by rw[cH9 HR6.out];rfl
 have HDC:Hid _:=Z6 S5 sb 2 aliveD _ (hSt5.later hb6);clear HD2 hSt5 hF5 hb6 HR6;go_wp2_with fail;refine Calls.mono HDC.out ?_;rintro e w7 ⟨v7,rfl,hN7,hb7⟩;obtain ⟨a7,c7,rfl,_,_⟩:=hN7.shape;have hB7:=hB6.trans (hb7.mono hB6.size)
 have hfd:(Instr.field 44 (.agg #[.slice a7 aliveD.length c7]) 0).run Tryz.prog w7=.ok (.slice a7 aliveD.length c7) w7:=by
  simp[Instr.field,part,asAgg,go_sem]
 have hl3:aliveD.length=3:=rfl;rw[hl3]at hfd ⊢
 clear hN7 hb7 HDC;go_wp2_with fail;go_ret;exact ⟨rfl,hB7⟩
end
section
attribute [local go_sem] qc
def QA (S:Nat→Prop)(w:World)(v:Value)(l:List Ac):Prop :=
  ∃ a cap, v = .slice a l.length cap ∧ l.length ≤ cap ∧ cap ≤ maxLen ∧
    (l≠[]→∃ b o,a=some ⟨b,o,none⟩∧S b∧∀ (i:Nat) (x:Ac),l[i]?=some x→∃ vs,w.cell? ⟨b,o+i*2,none⟩=some (.int .i64 x.kind)∧w.cell? ⟨b,o+i*2+1,none⟩=some vs∧Strs S w vs x.lines)
theorem QA.carry {S S':Nat→Prop}{w w':World}{v:Value}{l:List Ac}(h:QA S w v l)(hw:∀ b,S b→S' b∧w'.heap[b]?=w.heap[b]?):QA S' w' v l:=by
 obtain ⟨a,cap,h1,h2,h3,h4⟩:=h;refine ⟨a,cap,h1,h2,h3,fun hne=>?_⟩
 obtain ⟨b,o,ha,hs,hc⟩:=h4 hne;refine ⟨b,o,ha,(hw b hs).1,fun i x hx=>?_⟩
 obtain ⟨vs,c0,c1,hS⟩:=hc i x hx;refine ⟨vs,?_,?_,hS.carry hw⟩
 · rw[World.cell?_of_block (a:=⟨b,o+i*2,none⟩) (hw b hs).2];exact c0
 · rw[World.cell?_of_block (a:=⟨b,o+i*2+1,none⟩) (hw b hs).2];exact c1
theorem QA.shape {S:Nat→Prop}{w:World}{v:Value}{l:List Ac}(h:QA S w v l):∃ a c,v=.slice a l.length c∧l.length≤c∧c≤maxLen:=by
 obtain ⟨a,cap,h1,h2,h3,_⟩:=h;exact ⟨a,cap,h1,h2,h3⟩
theorem QA.at {S:Nat→Prop}{w:World}{v:Value}{l:List Ac}(h:QA S w v l){i:Nat}{x:Ac}(hx:l[i]?=some x):∃ b o cap vs,v=.slice (some ⟨b,o,none⟩) l.length cap∧S b∧b<w.heap.size∧w.cell? ⟨b,o+i*2,none⟩=some (.int .i64 x.kind)∧w.cell? ⟨b,o+i*2+1,none⟩=some vs∧Strs S w vs x.lines:=by
 obtain ⟨a,cap,h1,h2,h3,h4⟩:=h;obtain ⟨b,o,rfl,hs,hc⟩:=h4 (by intro e;subst e;simp at hx)
 obtain ⟨vs,c0,c1,hS⟩:=hc i x hx;exact ⟨b,o,cap,vs,h1,hs,World.block_lt_of_cell? w _ c0,c0,c1,hS⟩
def Yf (l:List Ac):Prop:=∀ x∈l,∀ s∈x.lines,s.size≤maxLen
def zB (l:List Ac):List Nd × Nat:=l.foldl (fun p a=>((yp a p.1 p.2).2.1,(yp a p.1 p.2).2.2)) (newD,0)
theorem qcZ {l:List Ac}{i:Nat}{a:Ac}(h:l[i]?=some a):zB (l.take (i+1))=((yp a (zB (l.take i)).1 (zB (l.take i)).2).2.1,(yp a (zB (l.take i)).1 (zB (l.take i)).2).2.2):=by
 have hi:=qd h;have e:l[i]=a:=by simpa[hi] using h
 unfold zB;rw[List.take_succ_eq_append_getElem hi,e,List.foldl_append];rfl
def qbX (fm:Nat)(w:World)(S0:Nat→Prop)(l:List Ac):Prop :=
  ∀ (S : Nat → Prop) (sb i : Nat) (a : Ac) (vd vs : Value) (W : World), l[i]? = some a → i < 50 → Below w.heap.size w W → w.heap.size ≤ sb → (∀ b, S b → w.heap.size ≤ b) → Sto S W sb (zB (l.take (i + 1))).1 (zB (l.take (i + 1))).2 → qt (fun b => w.heap.size ≤ b ∧ b ≠ sb) W vd (zB (l.take i)).1 → qq (zB (l.take i)).1 = true → Strs S0 W vs a.lines →
    Calls Tryz.prog fm #[.pointer (some ⟨sb,0,none⟩),.agg #[vd],.agg #[.int .i64 a.kind,vs],.agg #[.int .i64 (yp a (zB (l.take i)).1 (zB (l.take i)).2).1.1,.int .i64 (yp a (zB (l.take i)).1 (zB (l.take i)).2).1.2.1,.string (yp a (zB (l.take i)).1 (zB (l.take i)).2).1.2.2]] W fun e w'=>e=.returned (.bool true)∧Below W.heap.size W w'
def X0 (w:World)(l:List Ac)(e:Ending)(w':World):Prop :=
 ∃ (sb:Nat) (S:Nat→Prop),e=.returned (.tuple #[.pointer (some ⟨sb,0,none⟩),.bool true])∧w.heap.size≤sb∧(∀ b,S b→w.heap.size≤b)∧Sto S w' sb (zB (l.take 50)).1 (zB (l.take 50)).2∧Below w.heap.size w w'
set_option linter.unusedSimpArgs false in
set_option maxHeartbeats 2000000 in
theorem qcT (fm:Nat)(eg:∀ args w,(callFunc fm args).run Tryz.prog w=.ok (.enter fm args) w)(S0:Nat→Prop)(vl:Value)(l:List Ac)(w:World)(hL:QA S0 w vl l)(hS0:∀ b,S0 b→b<w.heap.size)(hz:Yf l)(hE:yN w)(hlook:qbX fm w S0 l) :
 Calls Tryz.prog 6 #[vl,.func (.func fm) #[] #[]] w fun e w'=>X0 w l e w':=by
 obtain ⟨la,lc,rfl,hll,hlc⟩:=hL.shape;have HL:Hid (QA S0 w (.slice la l.length lc) l):=hL;have HE:Hid _:=hE;have HLK:Hid _:=hlook;have HZ:Hid _:=hz;have HS0:Hid _:=hS0;unfold maxLen at hlc
 clear hL hE hlook hz hS0
 go_enter Tryz.func6,Tryz.ntmps6
 go_wp2_with fail;refine Calls.mono (xg w HE.out) ?_;rintro e w1 ⟨rfl,hb1⟩;go_wp2_with fail;refine Calls.mono (qaC w1) ?_;rintro e w2 ⟨sb,S2,rfl,hsb2,hsl2,hSw2,hSt2,hb2⟩;have hsb:w.heap.size≤sb:=Nat.le_trans hb1.size hsb2;have HI0:Hid (∃ S:Nat→Prop,(∀ b,S b→w.heap.size≤b)∧Sto S w2 sb (zB (l.take 0)).1 (zB (l.take 0)).2∧Below w.heap.size w w2):=⟨S2,fun b hb=>Nat.le_trans hb1.size (hSw2 b hb),hSt2,hb1.trans (hb2.mono hb1.size)⟩
 clear hsb2 hsl2 hSw2 hSt2 hb2 hb1;go_wp2_with fail
 go_loopg [7] (min l.length 50) (fun g vi wr=>∃ i:Nat,i+g=min l.length 50∧vi=.int .i64 (i:Int)∧∃ S:Nat→Prop,(∀ b,S b→w.heap.size≤b)∧Sto S wr sb (zB (l.take i)).1 (zB (l.take i)).2∧Below w.heap.size w wr)
 case atStart => exact ⟨0,by omega,rfl,HI0.out⟩
 case round =>
  clear HI0;obtain ⟨i,hig,rfl,S,hSw,hSt,hB⟩:=hrel;have HSW:Hid _:=hSw;have HST:Hid _:=hSt;clear hSw hSt
  by_cases hil:i<l.length
  · have hili : (i : Int) < (l.length : Int) := by omega
    by_cases hi50:i<50
    · have hi5i : (i : Int) < 50 := by omega
      obtain ⟨a,ha⟩:∃ a,l[i]?=some a:=⟨l[i],by simp[hil]⟩
      have HAA:Hid _:=ha;have HLB:Hid (∀ W,Below w.heap.size w W→QA S0 W (.slice la l.length lc) l):=fun W hW=>HL.out.carry fun b hb=>⟨hb,hW.block b (HS0.out b hb)⟩
      obtain ⟨lb,lo,lc2,vs,hlv,hSb,hlbl,c0,c1,hstr⟩:=(HLB.out wr hB).at ha
      injection hlv with hla hll2 hlc2
      subst hla hlc2;obtain ⟨sa,sc,rfl,_,_⟩:=hstr.shape;have hlbw:lb<w.heap.size:=HS0.out lb hSb
      have HSB:Hid (∀ W,Below w.heap.size w W→Strs S0 W (.slice sa a.lines.length sc) a.lines∧W.cell? ⟨lb,lo+i*2,none⟩=some (.int .i64 a.kind)∧W.cell? ⟨lb,lo+i*2+1,none⟩=some (.slice sa a.lines.length sc)):=by
       intro W hW;have hc0:W.heap[lb]?=wr.heap[lb]?:=(hW.block lb hlbw).trans (hB.block lb hlbw).symm;refine ⟨hstr.carry fun b hb=>⟨hb,(hW.block b (HS0.out b hb)).trans (hB.block b (HS0.out b hb)).symm⟩,?_,?_⟩
       · rw[World.cell?_of_block (a:=⟨lb,lo+i*2,none⟩) hc0];exact c0
       · rw[World.cell?_of_block (a:=⟨lb,lo+i*2+1,none⟩) hc0];exact c1
      have HSN:Hid _:=qcZ ha;have HLO:Hid _:=fun S' vd W=>HLK.out S' sb i a vd (.slice sa a.lines.length sc) W ha hi50
      have hza:=HZ.out a (List.mem_of_getElem? ha);have HGD:Hid _:=HST.out.good
      generalize hP0:zB (l.take i)=P0 at *
      generalize hP1:zB (l.take (i+1))=P1 at *
      obtain ⟨ns0,n0⟩:=P0;simp only at HST HSN HLO HGD
      have HDC:Hid _:=Z6 S sb n0 ns0 wr HST.out;clear hstr ha hll2 c0 c1;go_wp2_with fail;refine Calls.mono HDC.out ?_;rintro e w3 ⟨v3,rfl,hN3,hb3⟩;obtain ⟨a3,c3,rfl,_,hc3⟩:=hN3.shape;have hb4:=Below.alloc1 w3 (.cells #[.slice a3 ns0.length c3] 44);have hb34:=hb3.trans (hb4.mono hb3.size);have hB4:=hB.trans (hb34.mono hB.size);have HW4:Hid _:=heap_alloc_new w3 (.cells #[.slice a3 ns0.length c3] 44);obtain ⟨q0,q1,q2⟩:=HSB.out _ hB4;obtain ⟨_,_,hbx,_,_⟩:=HST.out.box;have hsbl:=qg hbx;have HDO:Hid _:=Yx S S0 sb n0 ns0 _ a w _ (HST.out.later hb34) q0 (fun b hb=>by have:=HS0.out b hb;omega) HE.out hB4 hsb hza
      have HN4:Hid _:=qt.later hN3 hb4;have hsz4:wr.heap.size≤(w3.alloc (.cells #[.slice a3 ns0.length c3] 44)).heap.size:=hb34.size;have hsz3:wr.heap.size≤w3.heap.size:=hb3.size;obtain ⟨rep,ns1,n1,hrd⟩:∃ rep ns1 n1,yp a ns0 n0=(rep,ns1,n1):=⟨_,_,_,rfl⟩;rw[hrd]at HDO HSN HLO
      simp only at HDO HSN HLO
      clear hN3 hb3 hb4 hb34 q0 hbx HDC hrd hza;go_wp2_with fail
      generalize w3.alloc (.cells #[.slice a3 ns0.length c3] 44)=W4 at *
      refine Calls.mono HDO.out ?_;rintro e w5 ⟨rfl,⟨S5,hS5,hSt5⟩,hF5⟩;have hB5:=xi hB4 hF5 hsb;have hb6:=Below.alloc1 w5 (.cells #[.int .i64 rep.1,.int .i64 rep.2.1,.string rep.2.2] 37);have hB6:=hB5.trans (hb6.mono hB5.size)
      have hSw5:∀ b,S5 b→w.heap.size≤b:=fun b hb=>by
       rcases hS5 b hb with h|h
       · exact HSW.out b h
       · have:=hB.size;omega
      have HW6:Hid _:=(hb6.block _ (Nat.lt_of_lt_of_le (qg HW4.out) hF5.below.size)).trans ((hF5.frame _ (qg HW4.out) (by omega)).trans HW4.out)
      have HR6:Hid _:=heap_alloc_new w5 (.cells #[.int .i64 rep.1,.int .i64 rep.2.1,.string rep.2.2] 37);have HN6:Hid (qt (fun b=>w.heap.size≤b∧b≠sb) (w5.alloc (.cells #[.int .i64 rep.1,.int .i64 rep.2.1,.string rep.2.2] 37)) (.slice a3 ns0.length c3) ns0):=qt.later ((qt.bounded HN4.out).carry fun b hb=>⟨⟨Nat.le_trans hB.size hb.1,by omega⟩,hF5.frame b hb.2 (by omega)⟩) hb6
      have HS6:Hid _:=hSt5.later hb6
      have HLK6:Hid (∀ W,Below (w5.alloc (.cells #[.int .i64 rep.1,.int .i64 rep.2.1,.string rep.2.2] 37)).heap.size (w5.alloc (.cells #[.int .i64 rep.1,.int .i64 rep.2.1,.string rep.2.2] 37)) W→Calls Tryz.prog fm #[.pointer (some ⟨sb,0,none⟩),.agg #[.slice a3 ns0.length c3],.agg #[.int .i64 a.kind,.slice sa a.lines.length sc],.agg #[.int .i64 rep.1,.int .i64 rep.2.1,.string rep.2.2]] W fun e w'=>∃ v',e=.returned v'∧v'=.bool true∧Below W.heap.size W w'):=by
       intro W hW;have hBW:=hB6.trans (hW.mono hB6.size);refine (HLO.out S5 (.slice a3 ns0.length c3) W hBW hsb hSw5 ?_ (qt.later HN6.out hW) HGD.out (HSB.out W hBW).1).mono ?_
       · rw[HSN.out];exact HS6.out.later hW
       · rintro e w' ⟨rfl, hb⟩;exact ⟨_,rfl,rfl,hb⟩
      have HC:Hid (∀ W,Below (w5.alloc (.cells #[.int .i64 rep.1,.int .i64 rep.2.1,.string rep.2.2] 37)).heap.size (w5.alloc (.cells #[.int .i64 rep.1,.int .i64 rep.2.1,.string rep.2.2] 37)) W→Below (w5.alloc (.cells #[.int .i64 rep.1,.int .i64 rep.2.1,.string rep.2.2] 37)).heap.size (w5.alloc (.cells #[.int .i64 rep.1,.int .i64 rep.2.1,.string rep.2.2] 37)) W∧W.cell? ⟨w3.heap.size,0,none⟩=some (.slice a3 ns0.length c3)∧(W.cell? ⟨lb,lo+i*2,none⟩=some (.int .i64 a.kind)∧W.cell? ⟨lb,lo+i*2+1,none⟩=some (.slice sa a.lines.length sc))∧W.cell? ⟨w5.heap.size,0,none⟩=some (.int .i64 rep.1)∧W.cell? ⟨w5.heap.size,1,none⟩=some (.int .i64 rep.2.1)∧W.cell? ⟨w5.heap.size,2,none⟩=some (.string rep.2.2)):=by
       intro W hW;have h1:=(hW.block _ (qg HW6.out)).trans HW6.out;have h2:=(hW.block _ (qg HR6.out)).trans HR6.out;refine ⟨hW,?_,(HSB.out W (hB6.trans (hW.mono hB6.size))).2,?_,?_,?_⟩
       · rw[cH9 h1];rfl
       · rw[cH9 h2];rfl
       · rw[cH9 h2];rfl
       · rw[cH9 h2];rfl
      clear HDO hSt5 hF5 hS5 q1 q2 HN4 HW4 hb6;go_wp2_with fail
      generalize w5.alloc (.cells #[.int .i64 rep.1,.int .i64 rep.2.1,.string rep.2.2] 37)=W6 at *
      have hbn:Below W6.heap.size W6 W6.drew:=(Below.refl _ W6).drew
      go_region_held3 (fun W:World=>Below W6.heap.size W6 W∧W.cell? ⟨w3.heap.size,0,none⟩=some (.slice a3 ns0.length c3)∧(W.cell? ⟨lb,lo+i*2,none⟩=some (.int .i64 a.kind)∧W.cell? ⟨lb,lo+i*2+1,none⟩=some (.slice sa a.lines.length sc))∧W.cell? ⟨w5.heap.size,0,none⟩=some (.int .i64 rep.1)∧W.cell? ⟨w5.heap.size,1,none⟩=some (.int .i64 rep.2.1)∧W.cell? ⟨w5.heap.size,2,none⟩=some (.string rep.2.2))
       (with_reducible exact HC.out _ hbn)
       ((refine zj (by rfl) fm #[.pointer (some ⟨sb,0,none⟩),.agg #[.slice a3 ns0.length c3],.agg #[.int .i64 a.kind,.slice sa a.lines.length sc],.agg #[.int .i64 rep.1,.int .i64 rep.2.1,.string rep.2.2]] (by go_simp) _ (HLK6.out _ hbn) ?_;rintro v7 W7 ⟨rfl,hb7⟩;have hbn:=hbn.trans (hb7.mono hbn.size)))
      have hB7:=hB6.trans (hbn.mono hB6.size);have HS7:Hid _:=HS6.out.later hbn;have HP1:Hid _:=hP1;have HSW5:Hid _:=hSw5;clear hP1 hP0 hbn hb7 HS6 HN6 HC HLK6 hSw5 HSB;go_wp2_with fail
      go_roundg (min l.length 50-(i+1))
      case measure => omega
      case rel => exact ⟨i+1,by omega,by go_num,S5,HSW5.out,by rw[HP1.out,HSN.out];exact HS7.out,hB7⟩
    · have hi5i : ¬ ((i : Int) < 50) := by omega
      go_wp2_with fail
      go_ret2
      refine ⟨sb,S,rfl,hsb,HSW.out,?_,hB⟩;have e:i=50:=by omega
      rw[e]at HST
      exact HST.out
  · have hili : ¬ ((i : Int) < (l.length : Int)) := by omega
    go_wp2_with fail
    go_ret2
    refine ⟨sb,S,rfl,hsb,HSW.out,?_,hB⟩;have e:l.take i=l.take 50:=by rw[List.take_of_length_le (by omega),List.take_of_length_le (by omega)]
    rw[e]at HST
    exact HST.out
end
section
attribute [local go_sem] qc
theorem like_refl:∀ (n:Nat)(ts:List Tr),Deep n ts→likeB n ts ts=true:=by
 intro n
 induction n with
 | zero=>intro ts h;have e:ts=[]:=h;subst e;exact JU 0
 | succ n ih =>
   intro ts h;rw[JV rfl];unfold ZG;rw[List.all_eq_true];intro p hp;have hz:=List.mem_of_mem_take hp;obtain ⟨i,hi⟩:=List.mem_iff_getElem?.1 hz;rw[List.getElem?_zip_eq_some]at hi
   have e:p.1=p.2:=by
    have h1:=hi.1;have h2:=hi.2;rw[h1]at h2
    exact Option.some.inj h2
   rw[←e,ih p.1.kids (h p.1 (List.mem_of_getElem? hi.1)),Bool.and_true];simp[j6]
theorem Jm (w:World)(S0:Nat→Prop)(l:List Ac):qbX 7 w S0 l:=by
 intro S sb i a vd vs W _ _ hB hsb hSw hSt hN hg hstr;obtain ⟨da,dc,rfl,_,_⟩:=hN.shape;obtain ⟨sa,sc,rfl,_,_⟩:=hstr.shape
 generalize (yp a (zB (l.take i)).1 (zB (l.take i)).2).1=rep
 have hb1:Below W.heap.size W (((W.alloc (.cells #[.slice da (zB (l.take i)).1.length dc] 44)).alloc (.cells #[.int .i64 a.kind,.slice sa a.lines.length sc] 40)).alloc (.cells #[.int .i64 rep.1,.int .i64 rep.2.1,.string rep.2.2] 37)):=((Below.alloc1 W _).alloc (by simp) _).alloc (by simp;omega) _
 clear hSt hN hg hstr hB
 go_enter Tryz.func7,Tryz.ntmps7
 go_wp2_with fail;go_ret;exact ⟨rfl,hb1⟩
theorem YY (S0:Nat→Prop)(vl:Value)(l:List Ac)(w:World)(hL:QA S0 w vl l)(hS0:∀ b,S0 b→b<w.heap.size)(hz:Yf l)(hE:yN w) :
 Calls Tryz.prog 6 #[vl,.func (.func 7) #[] #[]] w fun e w'=>X0 w l e w' :=
 qcT 7 (fun _ _=>rfl) S0 vl l w hL hS0 hz hE (Jm w S0 l)
set_option maxHeartbeats 1000000 in
theorem K1 (S S':Nat→Prop)(vd vd':Value)(ns:List Nd)(w:World)(h:QK S w vd ns)(h':QK S' w vd' ns)(hg:qq ns=true) :
 Calls Tryz.prog 9 #[.agg #[vd],.agg #[vd']] w fun e w'=>e=.returned (.bool true)∧Below w.heap.size w w':=by
 obtain ⟨a,c,rfl,_,_⟩:=h.nodes.shape;obtain ⟨a',c',rfl,_,_⟩:=h'.nodes.shape;have hb1:Below w.heap.size w ((w.alloc (.cells #[.slice a ns.length c] 44)).alloc (.cells #[.slice a' ns.length c'] 44)):=(Below.alloc1 w _).alloc (by simp) _
 have HY1:Hid (((w.alloc (.cells #[.slice a ns.length c] 44)).alloc (.cells #[.slice a' ns.length c'] 44)).heap[w.heap.size+1]?=some (.cells #[.slice a' ns.length c'] 44 (0,0))):=by
  have:=heap_alloc_new (w.alloc (.cells #[.slice a ns.length c] 44)) (.cells #[.slice a' ns.length c'] 44);rw[World.size_alloc]at this
  exact this
 obtain ⟨htd,hgt⟩:=Qg hg;have HT1:Hid _:=ZQ S _ ns 0 _ (h.later hb1);have HD':Hid _:=h';rw[htd]at HT1
 have HT2:Hid (∀ W,Below w.heap.size w W→Calls Tryz.prog 20 #[.agg #[.slice a' ns.length c'],.int .i64 0] W fun e w'=>∃ va vk,e=.returned (.tuple #[.agg #[.bool (growF ns.length ns 0).text,.string (growF ns.length ns 0).s,va,vk],.int .i64 0])∧qi (fun b=>W.heap.size≤b) w' va (growF ns.length ns 0).attrs∧qa (fun b=>W.heap.size≤b) w' ns.length vk (growF ns.length ns 0).kids∧Below W.heap.size W w'):=by
  intro W hW;have:=ZQ S' _ ns 0 W (HD'.out.later hW);rw[htd]at this
  exact this
 have hcnt:∀ {n:Nat},Deep n (growF ns.length ns 0).kids→cnt (n+1) [growF ns.length ns 0]≤1048576:=by
  intro n hd;have hg2:=hgt;rw[jL hd]at hg2
  simp only[Bool.and_eq_true,decide_eq_true_eq]at hg2
  omega
 have HCN:Hid _:=@hcnt
 generalize growF ns.length ns 0=t at *
 clear h h' htd hgt hcnt hg
 go_enter Tryz.func9,Tryz.ntmps9
 go_wp2_with fail
 generalize (w.alloc (.cells #[.slice a ns.length c] 44)).alloc (.cells #[.slice a' ns.length c'] 44)=W1 at *
 refine Calls.mono HT1.out ?_;rintro e w2 ⟨va,vk,rfl,hA2,hK2,hb2⟩;obtain ⟨aa,ac,rfl⟩:=hA2.shape;obtain ⟨ka,kc,rfl,_,_⟩:=qa.shape ns.length hK2;have hb3:=Below.alloc1 w2 (.cells #[.bool t.text,.string t.s,.slice aa t.attrs.length ac,.slice ka t.kids.length kc] 62);have hb23:=hb2.trans (hb3.mono hb2.size);have hB3:=hb1.trans (hb23.mono hb1.size);have HX3:Hid _:=heap_alloc_new w2 (.cells #[.bool t.text,.string t.s,.slice aa t.attrs.length ac,.slice ka t.kids.length kc] 62);have HY3:Hid _:=(hb23.block _ (qg HY1.out)).trans HY1.out;have HA3:Hid _:=qi.later hA2 hb3;have HK3:Hid _:=qa.later hb3 ns.length hK2;have y3:(w2.alloc (.cells #[.bool t.text,.string t.s,.slice aa t.attrs.length ac,.slice ka t.kids.length kc] 62)).cell? ⟨w.heap.size+1,0,none⟩=some (.slice a' ns.length c'):=by rw[cH9 HY3.out];rfl
 clear hA2 hK2 hb2 hb3 hb23 HT1 HY1;go_wp2_with fail
 generalize w2.alloc (.cells #[.bool t.text,.string t.s,.slice aa t.attrs.length ac,.slice ka t.kids.length kc] 62)=W3 at *
 refine Calls.mono (HT2.out W3 hB3) ?_;rintro e w4 ⟨va4,vk4,rfl,hA4,hK4,hb4⟩;obtain ⟨aa4,ac4,rfl⟩:=hA4.shape;obtain ⟨ka4,kc4,rfl,_,_⟩:=qa.shape ns.length hK4;have hb5:=Below.alloc1 w4 (.cells #[.bool t.text,.string t.s,.slice aa4 t.attrs.length ac4,.slice ka4 t.kids.length kc4] 62);have hb45:=hb4.trans (hb5.mono hb4.size);have hB5:=hB3.trans (hb45.mono hB3.size);have HX5:Hid _:=(hb45.block _ (qg HX3.out)).trans HX3.out;have HZ5:Hid _:=heap_alloc_new w4 (.cells #[.bool t.text,.string t.s,.slice aa4 t.attrs.length ac4,.slice ka4 t.kids.length kc4] 62);have x0:(w4.alloc (.cells #[.bool t.text,.string t.s,.slice aa4 t.attrs.length ac4,.slice ka4 t.kids.length kc4] 62)).cell? ⟨w2.heap.size,0,none⟩=some (.bool t.text):=by rw[cH9 HX5.out];rfl
 have x1:(w4.alloc (.cells #[.bool t.text,.string t.s,.slice aa4 t.attrs.length ac4,.slice ka4 t.kids.length kc4] 62)).cell? ⟨w2.heap.size,1,none⟩=some (.string t.s):=by rw[cH9 HX5.out];rfl
 have x2:(w4.alloc (.cells #[.bool t.text,.string t.s,.slice aa4 t.attrs.length ac4,.slice ka4 t.kids.length kc4] 62)).cell? ⟨w2.heap.size,2,none⟩=some (.slice aa t.attrs.length ac):=by rw[cH9 HX5.out];rfl
 have x3:(w4.alloc (.cells #[.bool t.text,.string t.s,.slice aa4 t.attrs.length ac4,.slice ka4 t.kids.length kc4] 62)).cell? ⟨w2.heap.size,3,none⟩=some (.slice ka t.kids.length kc):=by rw[cH9 HX5.out];rfl
 have HSM:Hid _:=qc9 _ _ ns.length _ _ _ _ t t _ (qi.later HA3.out hb45) (qa.later hb45 ns.length HK3.out) (qi.later hA4 hb5) (qa.later hb5 ns.length hK4) (HCN.out (qa.deep ns.length hK4));rw[like_refl _ _ (show Deep (ns.length+1) [t] from fun u hu=>by rw[List.mem_singleton.1 hu];exact qa.deep ns.length hK4)]at HSM
 clear hA4 hK4 hb4 hb5 hb45 HX3 HA3 HK3 HT2 y3 HX5;go_wp2_with fail;refine Calls.mono HSM.out ?_;rintro e w6 ⟨rfl,hb6⟩;go_wp2_with fail;go_ret;exact ⟨rfl,hB5.trans (hb6.mono hB5.size)⟩
end
end Go.Proofs.YtcgknjhpgikckaaGreatDoor
/- What a store's acts keep, on plain data: who is refused changes nothing. No condition. -/
namespace Go.Proofs.YtcgknjhpgikckaaGreatDoor
open Go.RowKit
set_option maxRecDepth 100000
end Go.Proofs.YtcgknjhpgikckaaGreatDoor
/- What loading and showing answer, on plain data; how many acts were done. No condition. -/
namespace Go.Proofs.YtcgknjhpgikckaaGreatDoor
open Go.RowKit
set_option maxRecDepth 100000
end Go.Proofs.YtcgknjhpgikckaaGreatDoor
namespace Go.Proofs.YtcgknjhpgikckaaGreatDoor
open Go.RowKit
set_option maxRecDepth 100000
def ZS (ns:List Nd)(l m:List Opn):Prop:=zn ns l=zn ns m∧(q5 ns l=0↔q5 ns m=0)
theorem ZS.trans {ns:List Nd}{l m k:List Opn}(h:ZS ns l m)(h':ZS ns m k):ZS ns l k:=⟨h.1.trans h'.1,h.2.trans h'.2⟩
theorem Yi {ns:List Nd}{a:Opn}:∀ (G A C:List Opn),(∀ b∈G,a.kind≠b.kind)→ZS ns (A++(a::G++C)) (A++(G++a::C))
 | [],A,C,_=>⟨rfl,Iff.rfl⟩
 | b :: G, A, C, h => by
   have h1:ZS ns (A++(a::b::(G++C))) (A++(b::a::(G++C))):=Vj (Or.inl (h b List.mem_cons_self)) A (G++C);have h2:=Yi (ns:=ns) (a:=a) G (A++[b]) C (fun x hx=>h x (List.mem_cons_of_mem _ hx))
   have e1:(A++[b])++(a::G++C)=A++(b::a::(G++C)):=by simp
   have e2:(A++[b])++(G++a::C)=A++(b::G++a::C):=by simp
   rw[e1,e2]at h2
   exact h1.trans h2
theorem QZ {ns:List Nd}:∀ (F G A C:List Opn),(∀ a∈F,∀ b∈G,a.kind≠b.kind)→ZS ns (A++(F++(G++C))) (A++(G++(F++C)))
 | [],G,A,C,_=>⟨rfl,Iff.rfl⟩
 | a :: F, G, A, C, h => by
   have h1:=QZ (ns:=ns) F G (A++[a]) C (fun x hx=>h x (List.mem_cons_of_mem _ hx))
   have h2:=Yi (ns:=ns) (a:=a) G A (F++C) (h a List.mem_cons_self);have e1:(A++[a])++(F++(G++C))=A++(a::F++(G++C)):=by simp
   have e2:(A++[a])++(G++(F++C))=A++(a::G++(F++C)):=by simp
   rw[e1,e2]at h1
   have e3:A++(G++(a::F++C))=A++(G++a::(F++C)):=by simp
   rw[e3];exact h1.trans h2
def JW (ns:List Nd)(s:ByteArray):Int :=
 if (qw s.data.toList).2.2≠0 then (qw s.data.toList).2.2
 else if Ql ns (qw s.data.toList).2.1≠0 then Ql ns (qw s.data.toList).2.1
 else if xx ns (qw s.data.toList).2.1=[] then 3 else 0
def xq (ns:List Nd)(s:ByteArray):List Opn:=Zs (qw s.data.toList).1 (xx ns (qw s.data.toList).2.1)
theorem qcg (ns:List Nd)(s:ByteArray)(r:List ByteArray):qv ns (s::r)=if JW ns s≠0 then ([],JW ns s) else if (qv ns r).2≠0 then ([],(qv ns r).2) else (xq ns s++(qv ns r).1,0):=by
 unfold JW xq;rw[qv]
 by_cases h1:(qw s.data.toList).2.2≠0
 · rw[if_pos h1,if_pos h1,if_pos h1]
 · rw[if_neg h1, if_neg h1]
   by_cases h2:Ql ns (qw s.data.toList).2.1≠0
   · rw[if_pos h2,if_pos h2,if_pos h2]
   · rw[if_neg h2, if_neg h2]
     by_cases h3:xx ns (qw s.data.toList).2.1=[]
     · rw[if_pos h3,if_pos h3,if_pos (by decide)]
     · rw[if_neg h3,if_neg h3,if_neg (show ¬ ((0:Int)≠0) by simp)]
theorem Zx (ns:List Nd):∀ l:List ByteArray,((qv ns l).2=0↔∀ s∈l,JW ns s=0)∧((qv ns l).2=0→(qv ns l).1=l.flatMap (xq ns))
 | []=>⟨⟨(fun _ s hs=>by cases hs),fun _=>rfl⟩,fun _=>rfl⟩
 | s :: r => by
   obtain ⟨ih1,ih2⟩:=Zx ns r;rw[qcg]
   by_cases h1:JW ns s≠0
   · rw[if_pos h1];exact ⟨⟨fun h=>absurd h h1,fun h=>absurd (h s List.mem_cons_self) h1⟩,fun h=>absurd h h1⟩
   · rw[if_neg h1];have h1':JW ns s=0:=by simpa using h1
     by_cases h2:(qv ns r).2≠0
     · rw[if_pos h2];exact ⟨⟨fun h=>absurd h h2,fun h=>absurd (ih1.2 fun x hx=>h x (List.mem_cons_of_mem _ hx)) h2⟩,fun h=>absurd h h2⟩
     · rw[if_neg h2];have h2':(qv ns r).2=0:=by simpa using h2
       refine ⟨⟨fun _ x hx=>?_,fun _=>rfl⟩,fun _=>?_⟩
       · rcases List.mem_cons.1 hx with rfl | hx
         · exact h1'
         · exact ih1.1 h2' x hx
       · simp only[List.flatMap_cons,ih2 h2']
theorem X5 {o:Opn}{l:List Int}{a:Opn}(h:a∈Zs o l):a.kind=o.kind:=by
 obtain ⟨n,_,rfl⟩:=List.mem_map.1 h;rfl
theorem qam {ns:List Nd}{l:List ByteArray}(h6:¬ 6<l.length)(hc:¬ (qv ns l).2=0):zF l ns=(qO (qv ns l).2,ns):=by
 unfold zF;rw[if_neg h6,if_pos hc]
theorem qan {ns:List Nd}{l:List ByteArray}{m:List Opn}(h6:¬ 6<l.length)(hc:(qv ns l).2=0)(hm:(qv ns l).1=m)(he:¬ q5 ns m=0):zF l ns=(qO (q5 ns m),ns):=by
 unfold zF;rw[if_neg h6,if_neg (fun h=>h hc),hm,if_pos he]
theorem Ka {ns:List Nd}{l:List ByteArray}{m:List Opn}(h6:¬ 6<l.length)(hc:(qv ns l).2=0)(hm:(qv ns l).1=m)(he:q5 ns m=0):zF l ns=((0,(m.length:Int),⟨#[]⟩),zn ns m):=by
 unfold zF;rw[if_neg h6,if_neg (fun h=>h hc),hm,if_neg (fun h=>h he)]
theorem KQ {ns:List Nd}{P Q:List ByteArray}{s t:ByteArray}{n:Nat}(hk:(qw s.data.toList).1.kind≠(qw t.data.toList).1.kind) :
 ((yp ⟨2,P++s::t::Q⟩ ns n).1.1=0↔(yp ⟨2,P++t::s::Q⟩ ns n).1.1=0)∧(yp ⟨2,P++s::t::Q⟩ ns n).1.2.1=(yp ⟨2,P++t::s::Q⟩ ns n).1.2.1∧(yp ⟨2,P++s::t::Q⟩ ns n).2.1=(yp ⟨2,P++t::s::Q⟩ ns n).2.1:=by
 unfold yp
 by_cases hn:100≤n
 · rw[if_pos hn,if_pos hn];exact ⟨Iff.rfl,rfl,rfl⟩
 rw[if_neg hn,if_neg hn];simp only[y8,show ¬ ((2:Int)=1) by decide,if_false,if_true]
 have hlen:(P++t::s::Q).length=(P++s::t::Q).length:=by simp
 by_cases h6:6<(P++s::t::Q).length
 · unfold zF;rw[hlen,if_pos h6,if_pos h6];exact ⟨Iff.rfl,rfl,rfl⟩
 have h6':¬ 6<(P++t::s::Q).length:=by rw[hlen];exact h6
 obtain ⟨a1,a2⟩:=Zx ns (P++s::t::Q);obtain ⟨b1,b2⟩:=Zx ns (P++t::s::Q)
 have hmem:∀ x,x∈P++s::t::Q↔x∈P++t::s::Q:=by
  intro x;simp only[List.mem_append,List.mem_cons]
  constructor
  · rintro (h|h|h|h)<;>simp[h]
  · rintro (h|h|h|h)<;>simp[h]
 by_cases hc:(qv ns (P++s::t::Q)).2=0
 · have hc2 : (qv ns (P ++ t :: s :: Q)).2 = 0 := b1.2 fun x hx => a1.1 hc x ((hmem x).2 hx)
   have hs2:ZS ns ((P++s::t::Q).flatMap (xq ns)) ((P++t::s::Q).flatMap (xq ns)):=by
    have:=QZ (ns:=ns) (xq ns s) (xq ns t) (P.flatMap (xq ns)) (Q.flatMap (xq ns)) (fun a ha b hb=>by rw[X5 ha,X5 hb];exact hk)
    simpa[List.flatMap_append,List.flatMap_cons] using this
   have hl2:((P++t::s::Q).flatMap (xq ns)).length=((P++s::t::Q).flatMap (xq ns)).length:=by
    simp only[List.flatMap_append,List.flatMap_cons,List.length_append];omega
   by_cases he:q5 ns ((P++s::t::Q).flatMap (xq ns))=0
   · rw[Ka h6 hc (a2 hc) he, Ka h6' hc2 (b2 hc2) (hs2.2.1 he)];exact ⟨Iff.rfl,by simp only[hl2],hs2.1⟩
   · have he2 : ¬ q5 ns ((P ++ t :: s :: Q).flatMap (xq ns)) = 0 := fun h => he (hs2.2.2 h)
     rw[qan h6 hc (a2 hc) he,qan h6' hc2 (b2 hc2) he2];exact ⟨⟨fun h=>absurd h he,fun h=>absurd h he2⟩,rfl,rfl⟩
 · have hc2 : ¬ (qv ns (P ++ t :: s :: Q)).2 = 0 := fun h => hc (a1.2 fun x hx => b1.1 h x ((hmem x).1 hx))
   rw[qam h6 hc,qam h6' hc2];exact ⟨⟨fun h=>absurd h hc,fun h=>absurd h hc2⟩,rfl,rfl⟩
end Go.Proofs.YtcgknjhpgikckaaGreatDoor
namespace Go.Proofs.YtcgknjhpgikckaaGreatDoor
open Go.ChangeShapes Go.WideShapes Go.ChangeAt Go.RowKit
set_option maxRecDepth 100000
def yK (l:List ByteArray):List Value:=l.map .string
theorem strInfoC:(Tryz.prog.info? 9).map (fun i=>(i.zero,i.size,i.bytes))=some (some (.string ⟨#[]⟩),1,16):=by kernel_rfl
theorem Strs.of_owns {w:World}{B:Nat}{v:Value}{l:List ByteArray}(h:w.ownsRow B 9 1 v l.length (yK l)):Strs (fun b=>B≤b) w v l:=by
 have hcell:=h
 rcases h.2 with ⟨rfl,hz⟩|⟨g,cap,cur,rfl,hB,hh,hc,hm,hsz,ht⟩
 · have e : l = [] := List.eq_nil_of_length_eq_zero hz;subst e;exact Strs.nil
 · refine ⟨_, cap, rfl, hc, hm, fun _ => ⟨g, 0, rfl, hB, fun i x hx => ?_⟩⟩
   have hi:=qd hx;rw[Nat.zero_add,World.ownsRow.cellAt hcell i (by omega)]
   unfold yK;rw[List.getElem?_map,hx];rfl
theorem Qo {ops:Array Oper}{rest:List Oper}{o:Oper}{a:Act}{w:World}{Q:Exit→Act→World→Prop}(hgd:o.guard=none)(x:Operand)
 (ho:o.op=.call { callee:=.builtin .append,args:=#[.const (.slice none 0 0),x],argTypes:=#[23,23] })
 (S:Nat→Prop) (ad:Addr) (cap n:Nat) (l:List ByteArray) (hx:a.eval x=.slice (some ad) n cap) (h:Strs S w (.slice (some ad) n cap) l) (hl:l.length*16≤140737488355328)
 (hK:∀ v' w',w'.ownsRow w.heap.size 9 1 v' l.length (yK l)→Below w.heap.size w w'→wpList Tryz.prog ops Q rest (a.put o.dst v') w'):wpList Tryz.prog ops Q (o::rest) a w:=by
 obtain ⟨i0,hi,hz0,hz1,hz2⟩:=info_parts strInfoC;obtain ⟨a1,c1,hv,hlc,hcm,hcell⟩:=h
 injection hv with e1 hn e3
 subst e1 e3;subst hn;refine wpList_plain hgd fun K hK'=>?_
 obtain ⟨v',w',hr,h2,h3,_,h5⟩:=run_append_own_at (P:=Tryz.prog) w w.heap.size 23 o.type 9 i0 _ 1 16 Tryz.underlying23 hi hz0 hz1 hz2 rfl (by decide) (.slice none 0 0) 0 [] (World.ownsRow_nil w _ _ _) ad l.length cap (yK l) (by simp[yK]) (by
  intro j u hj;unfold yK at hj
  rw[List.getElem?_map]at hj
  cases hy:l[j]? with
  | none=>rw[hy]at hj;cases hj
  | some y =>
    rw[hy]at hj
    have hne:l≠[]:=by intro e;subst e;simp at hy
    obtain ⟨b,o',ha,_,hc⟩:=hcell hne
    injection ha with ha
    subst ha;rw[Addr.add_lit,hc j y hy];exact hj) (by
  intro u hu;obtain ⟨y,_,rfl⟩:=List.mem_map.1 hu;rfl) (by unfold maxLen;omega) (by omega) (nR9 _)
 have hB:Below w.heap.size w w':=(Below.refl _ w).grown h3 (nR9 _) (fun k hk=>by simp[Value.ownBlock]at hk)
 have hs:a.eval (.const (.slice none 0 0))=.slice none 0 0:=rfl;unfold Oper.wp execOp;simp only[ho,resolve,invoke,builtin,Sem.run_bind,Sem.run_pure,Result.andThen_ok,List.map_toArray,List.map_cons,List.map_nil,hs,hx,hr];refine hK' _ _ (hK v' w' ?_ hB);have:0+l.length=l.length:=by omega
 rw[this]at h2
 simpa using h2
theorem Xa {w:World}{B:Nat}{e:TypeId}{k n:Nat}{v:Value}{xs:List Value}(h:w.ownsRow B e k v n xs)(hn:0<n):∃ g c cur,v=.slice (some ⟨g,0,none⟩) n c∧n≤c∧c≤maxLen∧B≤g∧w.heap[g]?=some (.cells cur e (0,0)):=by
 rcases h.2 with ⟨rfl,hz⟩|⟨g,cap,cur,rfl,hB,hh,hc,hm,hsz,ht⟩
 · omega
 · exact ⟨g,cap,cur,rfl,hc,hm,hB,hh⟩
theorem Qy {α:Type}{l:List α}{m:Nat}{a b:α}(ha:l[m]?=some a)(hb:l[m+1]?=some b):l=l.take m++a::b::l.drop (m+2):=by
 have h1:=qd ha;have h2:=qd hb;have e1:l[m]=a:=by simpa[h1] using ha
 have e2:l[m+1]=b:=by simpa[h2] using hb
 conv=>lhs;rw[←List.take_append_drop m l]
 rw[List.drop_eq_getElem_cons h1,e1,List.drop_eq_getElem_cons h2,e2]
theorem Strs.swap {w:World}{g cap n m:Nat}{S:Nat→Prop}{l:List ByteArray}{a b:ByteArray}(h:Strs S w (.slice (some ⟨g,0,none⟩) n cap) l)(ha:l[m]?=some a)(hb:l[m+1]?=some b)(w':World)
 (h0:w'.cell? ⟨g,m,none⟩=some (.string b)) (h1:w'.cell? ⟨g,m+1,none⟩=some (.string a)) (hx:∀ i,i≠m→i≠m+1→w'.cell? ⟨g,i,none⟩=w.cell? ⟨g,i,none⟩) :
 Strs S w' (.slice (some ⟨g,0,none⟩) n cap) (l.take m++b::a::l.drop (m+2)):=by
 have hl:=Qy ha hb;have hla:=qd ha;have hlb:=qd hb;have hne:l≠[]:=by intro e;subst e;simp at ha
 obtain ⟨a1,c1,hv,hlc,hcm,hcell⟩:=h
 injection hv with e1 hn e3
 subst e1 e3;subst hn
 have hlen:(l.take m++b::a::l.drop (m+2)).length=l.length:=by
  conv=>rhs;rw[hl]
  simp
 obtain ⟨b',o',hab,hS,hc⟩:=hcell hne
 injection hab with hab
 injection hab with e1 e2 _
 subst e1 e2;refine ⟨_,cap,by rw[hlen],by omega,hcm,fun _=>⟨g,0,rfl,hS,fun i x hxi=>?_⟩⟩
 rw[Nat.zero_add];have htl:(l.take m).length=m:=by rw[List.length_take];omega
 by_cases hi0:i=m
 · subst hi0;rw[List.getElem?_append_right (by omega),htl,Nat.sub_self]at hxi
   have:b=x:=by simpa using hxi
   rw[h0,this]
 · by_cases hi1 : i = m + 1
   · subst hi1;rw[List.getElem?_append_right (by omega),htl,show m+1-m=1 by omega]at hxi
     have:a=x:=by simpa using hxi
     rw[h1,this]
   · rw[hx i hi0 hi1]
     have e:(l.take m++b::a::l.drop (m+2))[i]?=l[i]?:=by
      conv=>rhs;rw[hl]
      by_cases hlt:i<m
      · rw[List.getElem?_append_left (by omega),List.getElem?_append_left (by omega)]
      · rw[List.getElem?_append_right (by omega), List.getElem?_append_right (by omega), htl]
        obtain ⟨d,hd⟩:∃ d,i-m=d+2:=⟨i-m-2,by omega⟩
        rw[hd];rfl
     rw[e]at hxi
     have:=hc i x hxi;rw[Nat.zero_add]at this
     exact this
theorem YR {S:Nat→Prop}{w:World}{v:Value}{ns:List Nd}(h:qt S w v ns)(hg:qq ns=true):QK (fun b=>S b∧b<w.heap.size) w v ns :=
 ⟨h.bounded,fun _ hb=>hb.2,(Za hg).1,(Za hg).2⟩
section
attribute [local go_sem] qc
theorem qdi (k:Int)(L:Nat)(h:2≤L):∃ m:Nat,m+1<L∧Int.tmod (Int.tmod k ((L:Int)-1)+(L:Int)-1) ((L:Int)-1)=(m:Int)∧-((L:Int)-1)<Int.tmod k ((L:Int)-1)∧Int.tmod k ((L:Int)-1)<(L:Int)-1:=by
 have h1:Int.tmod k ((L:Int)-1)<(L:Int)-1:=Int.tmod_lt_of_pos k (by omega)
 have h2:-((L:Int)-1)<Int.tmod k ((L:Int)-1):=Int.lt_tmod_of_pos k (by omega)
 have h3:0≤Int.tmod k ((L:Int)-1)+(L:Int)-1:=by omega
 have h4:=Int.tmod_lt_of_pos (Int.tmod k ((L:Int)-1)+(L:Int)-1) (show (0:Int)<(L:Int)-1 by omega)
 have h5:0≤Int.tmod (Int.tmod k ((L:Int)-1)+(L:Int)-1) ((L:Int)-1):=Int.tmod_nonneg _ h3;exact ⟨(Int.tmod (Int.tmod k ((L:Int)-1)+(L:Int)-1) ((L:Int)-1)).toNat,by omega,by omega,h2,h1⟩
theorem JX (s:ByteArray)(W:World)(hE:yN W)(hs:s.size≤maxLen):Calls Tryz.prog 5 #[.string s] W fun e w'=>∃ a n c nm tx vl,e=.returned (.tuple #[.agg #[.int .i64 (qw s.data.toList).1.kind,.int .i64 0,.slice a n c,.string nm,.string tx],vl,.int .i64 (qw s.data.toList).2.2])∧Below W.heap.size W w':=by
 refine (KE s.data.toList W hE (by rw[yo];unfold maxLen at hs;omega)).mono ?_
 rintro e w' ⟨a,c,vl,rfl,_,_,_,hb⟩;exact ⟨a,_,c,_,_,vl,rfl,hb⟩
set_option linter.unusedSimpArgs false in
set_option maxHeartbeats 4000000 in
theorem XR (S0:Nat→Prop)(vl vs:Value)(l:List Ac)(ls:List ByteArray)(k:Int)(w:World)(hL:QA S0 w vl l)(hV:Strs S0 w vs ls)(hS0:∀ b,S0 b→b<w.heap.size)(hz:Yf l)(hzl:∀ s∈ls,s.size≤maxLen)(hre:ls.length*16≤140737488355328)(hE:yN w) :
 Calls Tryz.prog 3 #[vl,vs,.int .i64 k] w fun e w'=>e=.returned (.bool true)∧Below w.heap.size w w':=by
 obtain ⟨la,lc,rfl,_,_⟩:=hL.shape;obtain ⟨sa,sc,rfl,hsc,hsm⟩:=hV.shape;unfold maxLen at hsm
 have HL:Hid (QA S0 w (.slice la l.length lc) l):=hL;have HV:Hid (Strs S0 w (.slice sa ls.length sc) ls):=hV;have HS0:Hid (∀ b,S0 b→b<w.heap.size):=hS0;have HZ:Hid (Yf l):=hz;have HZL:Hid (∀ s∈ls,s.size≤maxLen):=hzl;have HE:Hid (yN w):=hE;clear hL hV hS0 hz hzl hE
 by_cases hl2:ls.length<2
 · have hlt : (ls.length : Int) < 2 := by omega
   go_enter Tryz.func3,Tryz.ntmps3
   go_wp2_with fail;refine Calls.mono (xg w HE.out) ?_;rintro e w1 ⟨rfl,hb1⟩;go_wp2_with fail;go_ret;exact ⟨rfl,hb1⟩
 have hlt:¬ (ls.length:Int)<2:=by omega
 obtain ⟨m,hm,hmk,hr1,hr2⟩:=qdi k ls.length (by omega)
 obtain ⟨r,hr⟩:∃ r,Int.tmod k ((ls.length:Int)-1)=r:=⟨_,rfl⟩;rw[hr]at hmk hr1 hr2
 have hne:¬ ((ls.length:Int)-1=0):=by omega
 have hne2:((ls.length:Int)-1==0)=false:=by simp;omega
 obtain ⟨s,hs⟩:∃ s,ls[m]?=some s:=⟨ls[m],by simp[show m<ls.length by omega]⟩
 obtain ⟨t,ht⟩:∃ t,ls[m+1]?=some t:=⟨ls[m+1],by simp[hm]⟩
 obtain ⟨b,o,cap,hv1,hSb,hbl,q0⟩:=HV.out.at hs
 injection hv1 with hv1 hvl hv3
 subst hv1 hv3;clear hvl;obtain ⟨b',o',cap',hv1',_,_,q1⟩:=HV.out.at ht
 injection hv1' with hv1' hvl' hvc'
 injection hv1' with hv1'
 injection hv1' with e1 e2 e3
 subst e1 e2;clear hvl' hvc' e3;have HLS:Hid (∀ W,Below w.heap.size w W→_):=fun W hW=>JX s W (HE.out.later hW) (HZL.out s (List.mem_of_getElem? hs))
 have HLT:Hid (∀ W,Below w.heap.size w W→_):=fun W hW=>JX t W (HE.out.later hW) (HZL.out t (List.mem_of_getElem? ht))
 have HORD:Hid (∀ (ns:List Nd) (n:Nat),(qw s.data.toList).1.kind≠(qw t.data.toList).1.kind→((yp ⟨2,ls⟩ ns n).1.1=0↔(yp ⟨2,ls.take m++t::s::ls.drop (m+2)⟩ ns n).1.1=0)∧(yp ⟨2,ls⟩ ns n).1.2.1=(yp ⟨2,ls.take m++t::s::ls.drop (m+2)⟩ ns n).1.2.1∧(yp ⟨2,ls⟩ ns n).2.1=(yp ⟨2,ls.take m++t::s::ls.drop (m+2)⟩ ns n).2.1):=by
  intro ns n hk;have:=KQ (ns:=ns) (P:=ls.take m) (Q:=ls.drop (m+2)) (s:=s) (t:=t) (n:=n) hk;rw[←Qy hs ht]at this
  exact this
 have HZS:Hid (∀ x∈ls.take m++t::s::ls.drop (m+2),x.size≤maxLen):=by
  intro x hx;refine HZL.out x ?_;rw[Qy hs ht];simp only[List.mem_append,List.mem_cons]at hx ⊢
  rcases hx with h|h|h|h<;>simp[h]
 have HS:Hid (ls[m]?=some s):=hs;have HT:Hid (ls[m+1]?=some t):=ht;obtain ⟨ka,hka⟩:∃ ka,(qw s.data.toList).1.kind=ka:=⟨_,rfl⟩;obtain ⟨ea,hea⟩:∃ ea,(qw s.data.toList).2.2=ea:=⟨_,rfl⟩;obtain ⟨kb,hkb⟩:∃ kb,(qw t.data.toList).1.kind=kb:=⟨_,rfl⟩;obtain ⟨eb,heb⟩:∃ eb,(qw t.data.toList).2.2=eb:=⟨_,rfl⟩;rw[hka,hea]at HLS
 rw[hkb,heb]at HLT
 rw[hka,hkb]at HORD
 clear hs ht hka hea hkb heb;have hmi:(m:Int)<(ls.length:Int):=by omega
 have hmi1:(m:Int)+1<(ls.length:Int):=by omega
 go_enter Tryz.func3,Tryz.ntmps3
 go_wp2_with fail;refine Calls.mono (HLS.out w (Below.refl _ _)) ?_;rintro e w1 ⟨a1,n1,c1,m1,x1,v1,rfl,hb1⟩;have hb2:=Below.alloc1 w1 (.cells #[.int .i64 ka,.int .i64 0,.slice a1 n1 c1,.string m1,.string x1] 27);have hB2:=hb1.trans (hb2.mono hb1.size);have HO2:Hid _:=heap_alloc_new w1 (.cells #[.int .i64 ka,.int .i64 0,.slice a1 n1 c1,.string m1,.string x1] 27);rw[←hB2.cell (p:=⟨b,o+(m+1),none⟩) hbl]at q1
 clear q0;go_wp2_with fail
 generalize w1.alloc (.cells #[.int .i64 ka,.int .i64 0,.slice a1 n1 c1,.string m1,.string x1] 27)=W2 at *
 refine Calls.mono (HLT.out W2 hB2) ?_;rintro e w3 ⟨a3,n3,c3,m3,x3,v3,rfl,hb3⟩;have hb4:=Below.alloc1 w3 (.cells #[.int .i64 kb,.int .i64 0,.slice a3 n3 c3,.string m3,.string x3] 27);have hb24:=hb3.trans (hb4.mono hb3.size);have hB4:=hB2.trans (hb24.mono hB2.size);have HO4:Hid _:=(hb24.block _ (qg HO2.out)).trans HO2.out;have HP4:Hid _:=heap_alloc_new w3 (.cells #[.int .i64 kb,.int .i64 0,.slice a3 n3 c3,.string m3,.string x3] 27);have f0:(w3.alloc (.cells #[.int .i64 kb,.int .i64 0,.slice a3 n3 c3,.string m3,.string x3] 27)).cell? ⟨w1.heap.size,0,none⟩=some (.int .i64 ka):=by rw[cH9 HO4.out];rfl
 have f1:(w3.alloc (.cells #[.int .i64 kb,.int .i64 0,.slice a3 n3 c3,.string m3,.string x3] 27)).cell? ⟨w3.heap.size,0,none⟩=some (.int .i64 kb):=by rw[cH9 HP4.out];rfl
 clear HLS HLT HO2 HO4 HP4 q1 hb1 hb2 hb3 hb4 hb24
 by_cases hea:ea=0
 · by_cases heb : eb = 0
   · by_cases hk : ka = kb
     · subst hea heb hk;go_wp2_with fail;refine Calls.mono (xg _ (HE.out.later hB4)) ?_;rintro e w5 ⟨rfl,hb5⟩;go_wp2_with fail;go_ret;exact ⟨rfl,hB4.trans (hb5.mono hB4.size)⟩
     · subst hea heb;have hkk:(ka==kb)=false:=by simpa using hk
       have HOD:Hid _:=fun ns n=>HORD.out ns n hk
       have HA4:Hid (QA S0 (w3.alloc (.cells #[.int .i64 kb,.int .i64 0,.slice a3 n3 c3,.string m3,.string x3] 27)) (.slice la l.length lc) l):=HL.out.carry fun x hx=>⟨hx,hB4.block x (HS0.out x hx)⟩
       have HPL:Hid _:=YY S0 _ l _ HA4.out (fun x hx=>Nat.lt_of_lt_of_le (HS0.out x hx) hB4.size) HZ.out (HE.out.later hB4)
       clear HORD hk;go_wp2_with fail
       generalize w3.alloc (.cells #[.int .i64 kb,.int .i64 0,.slice a3 n3 c3,.string m3,.string x3] 27)=W4 at *
       refine Calls.mono HPL.out ?_;rintro e w5 ⟨sb1,S1,rfl,hsb1,hSw1,hSt1,hb5⟩;have hB5:=hB4.trans (hb5.mono hB4.size);have HA5:Hid (QA S0 w5 (.slice la l.length lc) l):=HL.out.carry fun x hx=>⟨hx,hB5.block x (HS0.out x hx)⟩
       have HPL2:Hid _:=YY S0 _ l w5 HA5.out (fun x hx=>Nat.lt_of_lt_of_le (HS0.out x hx) hB5.size) HZ.out (HE.out.later hB5)
       have HST1:Hid _:=hSt1;obtain ⟨_,_,hbx1,_,_⟩:=hSt1.box;have hsl1:=qg hbx1;clear HPL HA4 hSt1 hbx1 f0 f1;go_wp2_with fail;refine Calls.mono HPL2.out ?_;rintro e w6 ⟨sb2,S2,rfl,hsb2,hSw2,hSt2,hb6⟩;have hB6:=hB5.trans (hb6.mono hB5.size);have HST2:Hid _:=hSt2;obtain ⟨_,_,hbx2,_,_⟩:=hSt2.box;have hsl2:=qg hbx2;have HST1b:Hid _:=HST1.out.later hb6;have HG0:Hid _:=hSt2.good
       generalize (zB (l.take 50)).1=ns0 at *
       generalize (zB (l.take 50)).2=n0 at *
       have HV6:Hid _:=Strs.later HV.out hB6;clear HPL2 HA5 hSt2 hbx2;go_wp2_with (at_builtin;refine Qo rfl _ rfl S0 ⟨b,o,none⟩ sc ls.length ls rfl ?qa0 ?qa1 ?_)
       case qa0 => exact HV6.out
       case qa1 => omega
       intro v7 w7 hrow7 hb7;obtain ⟨g,c7,cur,rfl,hc7,hc7m,hg7,hh7⟩:=Xa hrow7 (by omega)
       have hstr7:=Strs.of_owns hrow7;have p0:w7.cell? ⟨g,m,none⟩=some (.string s):=by rw[World.ownsRow.cellAt hrow7 m (by omega)];unfold yK;rw[List.getElem?_map,HS.out];rfl
       have p1:w7.cell? ⟨g,m+1,none⟩=some (.string t):=by rw[World.ownsRow.cellAt hrow7 (m+1) (by omega)];unfold yK;rw[List.getElem?_map,HT.out];rfl
       have z0:w7.frozen? ⟨g,m,none⟩=false:=fH9 hh7 _;have z1:w7.frozen? ⟨g,m+1,none⟩=false:=fH9 hh7 _;have HSR7:Hid _:=hstr7;unfold maxLen at hc7m
       clear hrow7 hstr7 HV6
       have hwr:IntKind.i64.wrap ((m:Int)+1)=((m+1:Nat):Int):=by
        have h63:(m:Int)+1≤9223372036854775807:=by omega
        rw[IntKind.wrap_i64];omega
       have HW8:Hid (∀ W:World,W.cell? ⟨g,m,none⟩=some (.string t)→W.cell? ⟨g,m+1,none⟩=some (.string s)→(∀ i,i≠m→i≠m+1→W.cell? ⟨g,i,none⟩=w7.cell? ⟨g,i,none⟩)→Strs (fun x=>w6.heap.size≤x) W (.slice (some ⟨g,0,none⟩) ls.length c7) (ls.take m++t::s::ls.drop (m+2))):=fun W h0 h1 hx=>Strs.swap HSR7.out HS.out HT.out W h0 h1 hx
       go_wp2_with fail;refine wp_region_held_drew (S:=fun _:World=>True) (by kernel_rfl) trivial (fun hHeld=>?_)
       refine wqi [0,1,2,3,4,5,6,7,8,10,11,12] ?_
       repeat (refine wqt (v:=?_) rfl (by kernel_rfl) (fun _ _ _ h=>h) (by rfl) (by assumption) ?_ ?_;rotate_left;(· (intro w hSw;(try dsimp only at hSw);go_simp;(try simp only[hwr,Int.toNat_natCast]);(try rw[if_pos (by omega)]);try with_reducible rfl));try simp only[Act.put,List.getElem_toArray,List.getElem_cons_succ,List.getElem_cons_zero,List.setIfInBounds_toArray,List.set_cons_zero,List.set_cons_succ])
       refine wqn ?_;refine wpAnyH_ready (rs:=[9,13]) (by kernel_rfl) (by simp) ?_
       refine AllReadyH.cons rfl (fun K hK=>?_) (AllReadyH.cons rfl (fun K hK=>?_) AllReadyH.nil)
       all_goals (go_simp;refine hK.out _ _ trivial (fun hHeld=>?_);clear hK K;try simp only[Act.put,List.getElem_toArray,List.getElem_cons_succ,List.getElem_cons_zero,List.setIfInBounds_toArray,List.set_cons_zero,List.set_cons_succ])
       rotate_left;refine wpAnyH_ready (rs:=[9]) (by kernel_rfl) (by simp) ?_
       refine AllReadyH.cons rfl (fun K hK=>?_) AllReadyH.nil
       go_simp;refine hK.out _ _ trivial (fun hHeld=>?_)
       clear hK K
       try simp only[Act.put,List.getElem_toArray,List.getElem_cons_succ,List.getElem_cons_zero,List.setIfInBounds_toArray,List.set_cons_zero,List.set_cons_succ]
       rotate_left;refine wpAnyH_ready (rs:=[13]) (by kernel_rfl) (by simp) ?_
       refine AllReadyH.cons rfl (fun K hK=>?_) AllReadyH.nil
       go_simp;refine hK.out _ _ trivial (fun hHeld=>?_)
       clear hK K
       try simp only[Act.put,List.getElem_toArray,List.getElem_cons_succ,List.getElem_cons_zero,List.setIfInBounds_toArray,List.set_cons_zero,List.set_cons_succ]
       all_goals
        refine wqi [14] ?_
        repeat (refine wqt (v:=?_) rfl (by kernel_rfl) (fun _ _ _ h=>h) (by rfl) (by assumption) ?_ ?_;rotate_left;(· (intro w hSw;(try dsimp only at hSw);go_simp;(try simp only[hwr,Int.toNat_natCast]);(try rw[if_pos (by omega)]);try with_reducible rfl));try simp only[Act.put,List.getElem_toArray,List.getElem_cons_succ,List.getElem_cons_zero,List.setIfInBounds_toArray,List.set_cons_zero,List.set_cons_succ])
        refine wqn ?_;refine wpAnyH_ready (rs:=[15]) (by kernel_rfl) (by simp) ?_
        refine AllReadyH.cons rfl (fun K hK=>?_) AllReadyH.nil
        go_simp;refine hK.out _ _ trivial (fun hHeld=>?_)
        clear hK K
        try simp only[Act.put,List.getElem_toArray,List.getElem_cons_succ,List.getElem_cons_zero,List.setIfInBounds_toArray,List.set_cons_zero,List.set_cons_succ]
        refine wqi [16] ?_
        repeat (refine wqt (v:=?_) rfl (by kernel_rfl) (fun _ _ _ h=>h) (by rfl) (by assumption) ?_ ?_;rotate_left;(· (intro w hSw;(try dsimp only at hSw);go_simp;(try simp only[hwr,Int.toNat_natCast]);(try rw[if_pos (by omega)]);try with_reducible rfl));try simp only[Act.put,List.getElem_toArray,List.getElem_cons_succ,List.getElem_cons_zero,List.setIfInBounds_toArray,List.set_cons_zero,List.set_cons_succ])
        refine wqn ?_;refine wpAnyH_ready (rs:=[17]) (by kernel_rfl) (by simp) ?_
        refine AllReadyH.cons rfl (fun K hK=>?_) AllReadyH.nil
        go_simp;refine hK.out _ _ trivial (fun hHeld=>?_)
        clear hK K
        try simp only[Act.put,List.getElem_toArray,List.getElem_cons_succ,List.getElem_cons_zero,List.setIfInBounds_toArray,List.set_cons_zero,List.set_cons_succ]
        refine wpAnyH_done (by kernel_rfl) ?_ _
        have hB8:Below w6.heap.size w6 (((w7.setCell ⟨g,m,none⟩ (.string t)).setCell ⟨g,m+1,none⟩ (.string s)).drew):=((hb7.setCell (p:=⟨g,m,none⟩) hg7 _).setCell (p:=⟨g,m+1,none⟩) hg7 _).drew
        have HSW:Hid _:=HW8.out (((w7.setCell ⟨g,m,none⟩ (.string t)).setCell ⟨g,m+1,none⟩ (.string s)).drew) (by
         show ((w7.setCell ⟨g,m,none⟩ (.string t)).setCell ⟨g,m+1,none⟩ (.string s)).cell? ⟨g,m,none⟩=_
         rw[World.cell?_setCell_other _ _ _ _ (by simp)]
         exact World.cell?_setCell_same _ _ _ p0) (by
         show ((w7.setCell ⟨g,m,none⟩ (.string t)).setCell ⟨g,m+1,none⟩ (.string s)).cell? ⟨g,m+1,none⟩=_
         exact World.cell?_setCell_same _ _ _ ((World.cell?_setCell_other _ _ _ _ (by simp)).trans p1)) (fun i h0 h1=>by
         show ((w7.setCell ⟨g,m,none⟩ (.string t)).setCell ⟨g,m+1,none⟩ (.string s)).cell? ⟨g,i,none⟩=_
         rw[World.cell?_setCell_other _ _ _ _ (by simp<;>omega),World.cell?_setCell_other _ _ _ _ (by simp<;>omega)])
        clear hHeld
        generalize ((w7.setCell ⟨g,m,none⟩ (.string t)).setCell ⟨g,m+1,none⟩ (.string s)).drew=W8 at *
        have HV8:Hid _:=Strs.later HV.out (hB6.trans (hB8.mono hB6.size));clear HW8 HSR7 z0 z1 p0 p1;go_wp2_with (at_builtin;refine Qo rfl _ rfl S0 ⟨b,o,none⟩ sc ls.length ls rfl HV8.out hre ?_);intro v9 w9 hrow9 hb9;obtain ⟨g9,c9,cur9,rfl,hc9,hc9m,hg9,hh9⟩:=Xa hrow9 (by omega)
        have hb69:=hB8.trans (hb9.mono hB8.size);have hB9:=hB6.trans (hb69.mono hB6.size);have HS9:Hid _:=Strs.of_owns hrow9;have HSW9:Hid (Strs (fun x=>w6.heap.size≤x) w9 (.slice (some ⟨g,0,none⟩) ls.length c7) (ls.take m++t::s::ls.drop (m+2))):=Strs.later HSW.out hb9
        have hs45:=hb5.size;have hs56:=hb6.size;have hs68:=hB8.size;have hs69:=hb69.size;have hsw4:=hB4.size
        have hlen:(ls.take m++t::s::ls.drop (m+2)).length=ls.length:=by
         conv=>rhs;rw[Qy HS.out HT.out]
         simp
        have HDO1:Hid _:=Yx S1 _ sb1 n0 ns0 _ ⟨2,ls⟩ w w9 (HST1b.out.later hb69) HS9.out (fun x hx=>by omega) HE.out hB9 (by omega) HZL.out
        obtain ⟨rep1,ms1,k1,hrd1⟩:∃ rep1 ms1 k1,yp ⟨2,ls⟩ ns0 n0=(rep1,ms1,k1):=⟨_,_,_,rfl⟩;obtain ⟨rep2,ms2,k2,hrd2⟩:∃ rep2 ms2 k2,yp ⟨2,ls.take m++t::s::ls.drop (m+2)⟩ ns0 n0=(rep2,ms2,k2):=⟨_,_,_,rfl⟩;obtain ⟨hiff,hnn,hmm⟩:=HOD.out ns0 n0;rw[hrd1,hrd2]at hiff hnn hmm
        rw[hrd1]at HDO1
        obtain ⟨rc1,rn1,rt1⟩:=rep1;obtain ⟨rc2,rn2,rt2⟩:=rep2;simp only at hiff hnn hmm HDO1
        subst hnn hmm;have HRD2:Hid (yp ⟨2,ls.take m++t::s::ls.drop (m+2)⟩ ns0 n0=((rc2,rn1,rt2),ms1,k2)):=hrd2;clear hrow9 HS9 HSW hrd1 hrd2 HOD HV8 hh9;go_wp2_with fail;refine Calls.mono HDO1.out ?_;rintro e w10 ⟨rfl,⟨S10,hS10,hSt10⟩,hF10⟩;have hB10:=xi hB9 hF10 (by omega)
        have hb11:=Below.alloc1 w10 (.cells #[.int .i64 rc1,.int .i64 rn1,.string rt1] 37);have hB11:=hB10.trans (hb11.mono hB10.size);have HR11:Hid _:=heap_alloc_new w10 (.cells #[.int .i64 rc1,.int .i64 rn1,.string rt1] 37);have hs910:=hF10.below.size
        have hst2:Sto S2 w10 sb2 ns0 n0:=(HST2.out.later hb69).keep hs910 (by
         rintro x (hx|rfl)
         · have h1 := (HST2.out.here x hx).1;have h2:=hSw2 x hx;exact hF10.frame x (by omega) (by omega)
         · exact hF10.frame _ (by omega) (by omega))
        have HSW11:Hid (Strs (fun x=>w6.heap.size≤x) (w10.alloc (.cells #[.int .i64 rc1,.int .i64 rn1,.string rt1] 37)) (.slice (some ⟨g,0,none⟩) ls.length c7) (ls.take m++t::s::ls.drop (m+2))):=Strs.later (HSW9.out.bounded.carry fun x hx=>⟨hx.1,hF10.frame x hx.2 (by have:=hx.1;omega)⟩) hb11
        have HST1c:Hid _:=hSt10.later hb11;have HGM:Hid _:=hSt10.good
        have HS10:Hid (∀ x,S10 x→x<w10.heap.size∧x≠sb2):=fun x hx=>⟨(hSt10.here x hx).1,by
         rcases hS10 x hx with h|h
         · have := (HST1b.out.here x h).1;have h3:=(HST1.out.here x h).1;omega
         · omega⟩
        have HDO2:Hid _:=Yx S2 _ sb2 n0 ns0 _ ⟨2,ls.take m++t::s::ls.drop (m+2)⟩ w _ (hst2.later hb11) HSW11.out (fun x hx=>by omega) HE.out hB11 (by omega) HZS.out
        rw[HRD2.out]at HDO2
        simp only at HDO2
        rw[←hlen]at HSW11
        clear HDO1 hSt10 hF10 hst2 HSW9 HRD2 hb9 hb69 hS10;go_wp2_with fail
        generalize w10.alloc (.cells #[.int .i64 rc1,.int .i64 rn1,.string rt1] 37)=W11 at *
        refine Calls.mono HDO2.out ?_;rintro e w12 ⟨rfl,⟨S12,hS12,hSt12⟩,hF12⟩;have hB12:=xi hB11 hF12 (by omega)
        have hb13:=Below.alloc1 w12 (.cells #[.int .i64 rc2,.int .i64 rn1,.string rt2] 37);have hB13:=hB12.trans (hb13.mono hB12.size);have hs1011:=hb11.size;have hs1112:=hF12.below.size;have hl10:=qg HR11.out;have HR13:Hid _:=(hb13.block _ (Nat.lt_of_lt_of_le hl10 hs1112)).trans ((hF12.frame _ hl10 (by omega)).trans HR11.out)
        have HQ13:Hid _:=heap_alloc_new w12 (.cells #[.int .i64 rc2,.int .i64 rn1,.string rt2] 37)
        have hst1:Sto S10 w12 sb1 ms1 k1:=HST1c.out.keep hs1112 (by
         rintro x (hx|rfl)
         · have := HS10.out x hx;exact hF12.frame x (by omega) this.2
         · exact hF12.frame _ (by omega) (by omega))
        have HD1:Hid _:=Z6 S10 sb1 k1 ms1 _ (hst1.later hb13);have HST2f:Hid _:=hSt12.later hb13;have y0:(w12.alloc (.cells #[.int .i64 rc2,.int .i64 rn1,.string rt2] 37)).cell? ⟨w10.heap.size,0,none⟩=some (.int .i64 rc1):=by rw[cH9 HR13.out];rfl
        have y1:(w12.alloc (.cells #[.int .i64 rc2,.int .i64 rn1,.string rt2] 37)).cell? ⟨w10.heap.size,1,none⟩=some (.int .i64 rn1):=by rw[cH9 HR13.out];rfl
        have u0:(w12.alloc (.cells #[.int .i64 rc2,.int .i64 rn1,.string rt2] 37)).cell? ⟨w12.heap.size,0,none⟩=some (.int .i64 rc2):=by rw[cH9 HQ13.out];rfl
        have u1:(w12.alloc (.cells #[.int .i64 rc2,.int .i64 rn1,.string rt2] 37)).cell? ⟨w12.heap.size,1,none⟩=some (.int .i64 rn1):=by rw[cH9 HQ13.out];rfl
        clear HDO2 hSt12 hF12 hst1 HST1c HSW11 HR11 HR13 HQ13 HS10 hb13 hS12
        have hcase:(rc1=0∧rc2=0)∨((rc1==0)=false∧(rc2==0)=false):=by
         by_cases h:rc1=0
         · exact Or.inl ⟨h,hiff.1 h⟩
         · exact Or.inr ⟨by simpa using h,by simpa using fun h2=>h (hiff.2 h2)⟩
        clear hiff
        rcases hcase with ⟨rfl,rfl⟩|⟨hc1,hc2⟩
        all_goals
         go_wp2_with fail;refine Calls.mono HD1.out ?_;rintro e w14 ⟨v14,rfl,hN14,hb14⟩;obtain ⟨a14,c14,rfl,_,_⟩:=hN14.shape;have HD2:Hid _:=Z6 S12 sb2 k2 ms1 w14 (HST2f.out.later hb14);have hB14:=hB13.trans (hb14.mono hB13.size);clear HD1;go_wp2_with fail;refine Calls.mono HD2.out ?_;rintro e w15 ⟨v15,rfl,hN15,hb15⟩;obtain ⟨a15,c15,rfl,_,_⟩:=hN15.shape;have hB15:=hB14.trans (hb15.mono hB14.size);have HSD:Hid _:=K1 _ _ _ _ ms1 w15 (YR (qt.later hN14 hb15) HGM.out) (YR hN15 HGM.out) HGM.out;clear HD2 hN14 hN15;go_wp2_with fail;refine Calls.mono HSD.out ?_;rintro e w16 ⟨rfl,hb16⟩;go_wp2_with fail;go_ret;exact ⟨rfl,hB15.trans (hb16.mono hB15.size)⟩
   · have hbb : (eb == 0) = false := by simpa using heb
     subst hea;go_wp2_with fail;refine Calls.mono (xg _ (HE.out.later hB4)) ?_;rintro e w5 ⟨rfl,hb5⟩;go_wp2_with fail;go_ret;exact ⟨rfl,hB4.trans (hb5.mono hB4.size)⟩
 · have hab : (ea == 0) = false := by simpa using hea
   go_wp2_with fail;refine Calls.mono (xg _ (HE.out.later hB4)) ?_;rintro e w5 ⟨rfl,hb5⟩;go_wp2_with fail;go_ret;exact ⟨rfl,hB4.trans (hb5.mono hB4.size)⟩
end
end Go.Proofs.YtcgknjhpgikckaaGreatDoor
