/- Bundled: TurnS TurnR RefRight RefGood. What each says stands ahead of it. -/
import Derived.Test.YtnppmdpmippcoaaGreatDoorBundle23
import Derived.Test.YtnppmdpmippcoaaGreatDoorBundle27
namespace Go.Proofs.YtnppmdpmippcoaaGreatDoor
open Go.ChangeShapes Go.WideShapes Go.ChangeAt Go.RowKit
set_option maxRecDepth 100000
theorem qas (t:TypeId)(a b:ByteArray):binOp .lss t (.string a) (.string b)=pure (.bool (Op.bytesLess a.toList b.toList)):=by
 simp only[binOp,Op.stringOp]
theorem qar (t:TypeId)(a b:ByteArray):binOp .gtr t (.string a) (.string b)=pure (.bool (Op.bytesLess b.toList a.toList)):=by
 simp only[binOp,Op.stringOp,less_not,Bool.not_not]
structure TI (w:World) (dv:Value) (xc:Array Value) (tb:Nat) (tr:Array Value) (va:Value) (al:List (ByteArray × ByteArray)) (W:World):Prop where
 below:Below w.heap.size w W
 dbx:W.heap[w.heap.size]?=some (.cells #[dv] 24 (0,0))
 xbx:W.heap[w.heap.size+1]?=some (.cells xc 43 (0,0))
 tbx:W.heap[tb]?=some (.cells tr 56 (0,0))
 lo:w.heap.size+2≤tb
 att:qC (fun b=>w.heap.size+2≤b∧b≠tb∧b<W.heap.size) W va al
theorem TI.later {w:World}{dv:Value}{xc:Array Value}{tb:Nat}{tr:Array Value}{va:Value}{al:List (ByteArray × ByteArray)}{W W':World}(h:TI w dv xc tb tr va al W)(hb:Below W.heap.size W W'):TI w dv xc tb tr va al W' :=
 ⟨h.below.trans (hb.mono h.below.size),(hb.block _ (qA h.dbx)).trans h.dbx,(hb.block _ (qA h.xbx)).trans h.xbx,(hb.block _ (qA h.tbx)).trans h.tbx,h.lo,h.att.carry fun b hb'=>⟨⟨hb'.1,hb'.2.1,Nat.lt_of_lt_of_le hb'.2.2 hb.size⟩,hb.block b hb'.2.2⟩⟩
theorem TI.put {w:World}{dv:Value}{xc:Array Value}{tb:Nat}{tr:Array Value}{va:Value}{al:List (ByteArray × ByteArray)}{W:World}(h:TI w dv xc tb tr va al W)(i:Nat)(v:Value):TI w dv xc tb (tr.setIfInBounds i v) va al (W.setCell ⟨tb,i,none⟩ v):=by
 have hlo:=h.lo;refine ⟨h.below.setCell (p:=⟨tb,i,none⟩) (by show w.heap.size≤tb;omega) v,?_,?_,?_,h.lo,h.att.carry fun b hb=>⟨⟨hb.1,hb.2.1,by simpa using hb.2.2⟩,qd hb.2.1⟩⟩
 · rw[qd (by omega)];exact h.dbx
 · rw[qd (by omega)];exact h.xbx
 · simp[World.setCell,Array.getElem?_modify,h.tbx]
theorem TI.other {w:World}{dv:Value}{xc:Array Value}{tb:Nat}{tr:Array Value}{va vb:Value}{al bs:List (ByteArray × ByteArray)}{W:World}(h:TI w dv xc tb tr va al W)(hA:qC (fun b=>w.heap.size+2≤b∧b≠tb∧b<W.heap.size) W vb bs):TI w dv xc tb tr vb bs W :=
 ⟨h.below,h.dbx,h.xbx,h.tbx,h.lo,hA⟩
def VB (w:World)(tb vb:Nat)(s7:ByteArray)(W:World):Prop:=w.heap.size+2≤vb∧vb≠tb∧∃ (k' t':Int)(ca:Option Addr)(cl cc:Nat)(nm:ByteArray),W.heap[vb]?=some (.cells #[.int .i64 k',.int .i64 t',.slice ca cl cc,.string nm,.string s7] 30 (0,0))
theorem VB.later {w:World}{tb vb:Nat}{s7:ByteArray}{W W':World}(h:VB w tb vb s7 W)(hb:Below W.heap.size W W'):VB w tb vb s7 W':=by
 obtain ⟨h1,h2,k',t',ca,cl,cc,nm,h3⟩:=h;exact ⟨h1,h2,k',t',ca,cl,cc,nm,(hb.block _ (qA h3)).trans h3⟩
theorem VB.put {w:World}{tb vb:Nat}{s7:ByteArray}{W:World}(h:VB w tb vb s7 W)(i:Nat)(v:Value):VB w tb vb s7 (W.setCell ⟨tb,i,none⟩ v):=by
 obtain ⟨h1,h2,k',t',ca,cl,cc,nm,h3⟩:=h;exact ⟨h1,h2,k',t',ca,cl,cc,nm,by rw[qd h2];exact h3⟩
theorem VB.cell {w:World}{tb vb:Nat}{s7:ByteArray}{W:World}(h:VB w tb vb s7 W):W.cell? ⟨vb,4,none⟩=some (.string s7):=by
 obtain ⟨_,_,_,_,_,_,_,_,h3⟩:=h;rw[cH9 h3];rfl
theorem TGr.more {B n n':Nat}{w:World}{v:Value}{us:List Tr}(h:TGr B n w v us)(hn:n≤n'):TGr B n' w v us:=by
 obtain ⟨qs,h⟩:=h;refine ⟨qs,h.len,h.own,fun i q t hq ht=>?_⟩
 obtain ⟨a,b,c,d⟩:=h.each i q t hq ht;refine ⟨a,b,c,?_⟩;obtain ⟨k,rfl⟩:=Nat.exists_eq_add_of_le hn;clear hn
 induction k with
 | zero=>exact d
 | succ k ih=>exact qw.deeper (n+k) ih
theorem J6 {l:List Opn}(hC:∀ kd tg,(qJ l kd tg).length≤1600)(f:Nat)(ns:List Nd)(n:Nat):(turnF f ns l n).length≤4801:=by
 cases f with
 | zero=>simp[turnF]
 | succ f =>
   rw[turnF]
   split
   · simp
   · rw[List.length_append, List.length_append];have h3:=hC 3 n;have h4:=hC 4 n;have h6:=hC 6 n
     split
     · split
       · simp;omega
       · simp;omega
     · omega
theorem VP {l:List Opn}(hC:∀ kd tg,(qJ l kd tg).length≤1600)(f:Nat)(ns:List Nd):∀ ks:List Int,(ks.flatMap (fun k=>turnF f ns l k.toNat)).length≤ks.length*4801:=by
 intro ks
 induction ks with
 | nil=>simp
 | cons k ks ih =>
   rw[List.flatMap_cons,List.length_append,List.length_cons];have:=J6 hC f ns k.toNat;omega
theorem Xe {B:Nat}{w:World}{v:Value}{l:List (ByteArray × ByteArray)}(h:w.ownsRow B 79 2 v l.length (attrCells l)):qC (fun b=>B≤b∧b<w.heap.size) w v l:=by
 have hrow:=h
 rcases h.2 with ⟨hv,h0⟩|⟨g,cap,cur,hv,hB,hh,hc,hm,_⟩
 · have : l = [] := List.eq_nil_of_length_eq_zero h0;subst this;exact ⟨none,0,hv,nR9 _,nZ9 _,fun hne=>absurd rfl hne⟩
 · subst hv;refine ⟨_,cap,rfl,hc,hm,fun _=>⟨g,0,rfl,⟨hB,qA hh⟩,fun i x hx=>?_⟩⟩
   have hi:=qy hx;obtain ⟨g0,g1⟩:=yD l i x hx;exact ⟨by rw[Nat.zero_add,World.ownsRow.cellAt hrow (i*2) (by omega),g0],by rw[Nat.zero_add,World.ownsRow.cellAt hrow (i*2+1) (by omega),g1]⟩
theorem jB (l:List (ByteArray × ByteArray))(a:ByteArray × ByteArray):attrCells (l++[a])=attrCells l++[.string a.1,.string a.2]:=by
 induction l with
 | nil=>rfl
 | cons b l ih=>simp[attrCells,ih]
theorem qaw {p q:ByteArray × ByteArray→Bool}(h:∀ a,¬ (p a=true∧q a=true)):∀ l:List (ByteArray × ByteArray),(l.filter p).length+(l.filter q).length≤l.length:=by
 intro l
 induction l with
 | nil=>simp
 | cons a l ih =>
   rw[List.filter_cons,List.filter_cons];have:=h a;cases hp:p a<;>cases hq:q a<;>simp_all<;>omega
theorem Yw (n:Int)(al:List (ByteArray × ByteArray))(o:Opn):(qP n al o).length≤al.length+1:=by
 have:=qaw (p:=fun a=>Op.bytesLess a.1.toList o.name.toList) (q:=fun a=>Op.bytesLess o.name.toList a.1.toList) (fun a h=>Zq h) al
 unfold qP
 split
 · omega
 · split
   · unfold zJ;rw[List.length_append,List.length_cons];omega
   · unfold zP;rw[List.length_append];omega
theorem Yv (n:Int):∀ (l:List Opn)(al:List (ByteArray × ByteArray)),(l.foldl (qP n) al).length≤al.length+l.length:=by
 intro l
 induction l with
 | nil=>intro al;simp
 | cons o l ih =>
   intro al;rw[List.foldl_cons,List.length_cons];have h1:=ih (qP n al o);have h2:=Yw n al o;omega
theorem ZI {l:List Opn}{k:Nat}{y:Opn}(h:l[k]?=some y)(n:Int)(al:List (ByteArray × ByteArray)):(l.take (k+1)).foldl (qP n) al=qP n ((l.take k).foldl (qP n) al) y:=by
 have hk:=qy h;have e:l[k]=y:=by simpa[hk] using h
 rw[List.take_succ_eq_append_getElem hk,e,List.foldl_append];rfl
theorem Z9 {p:ByteArray × ByteArray→Bool}{al:List (ByteArray × ByteArray)}{j:Nat}{a:ByteArray × ByteArray}(h:al[j]?=some a):(al.take (j+1)).filter p=(al.take j).filter p++(if p a then [a] else []):=by
 have hj:=qy h;have e:al[j]=a:=by simpa[hj] using h
 rw[List.take_succ_eq_append_getElem hj,e,List.filter_append]
 congr 1
 cases hp:p a<;>simp[hp]
theorem qC.at {S:Nat→Prop}{w:World}{a:Option Addr}{n c:Nat}{l:List (ByteArray × ByteArray)}(h:qC S w (.slice a n c) l){i:Nat}{x:ByteArray × ByteArray}(hx:l[i]?=some x):∃ b o,a=some ⟨b,o,none⟩∧S b∧b<w.heap.size∧w.cell? ⟨b,o+i*2,none⟩=some (.string x.1)∧w.cell? ⟨b,o+i*2+1,none⟩=some (.string x.2):=by
 obtain ⟨a',c',hv,_,_,h4⟩:=h
 injection hv with h1 _ _
 subst h1;obtain ⟨b,o,ha,hs,hc⟩:=h4 (by intro e;subst e;simp at hx)
 obtain ⟨c0,c1⟩:=hc i x hx;exact ⟨b,o,ha,hs,World.block_lt_of_cell? w _ c0,c0,c1⟩
structure PH (w W0:World) (tb:Nat) (tr:Array Value) (W:World):Prop where
 below:Below w.heap.size w W
 fr:∀ b,b<W0.heap.size→b≠tb→W.heap[b]?=W0.heap[b]?
 tbx:W.heap[tb]?=some (.cells tr 56 (0,0))
 size:W0.heap.size≤W.heap.size
theorem PH.start {w:World}{dv:Value}{xc:Array Value}{tb:Nat}{tr:Array Value}{va:Value}{al:List (ByteArray × ByteArray)}{W:World}(h:TI w dv xc tb tr va al W):PH w W tb tr W:=⟨h.below,fun _ _ _=>rfl,h.tbx,nR9 _⟩
theorem PH.later {w W0:World}{tb:Nat}{tr:Array Value}{W W':World}(h:PH w W0 tb tr W)(hb:Below W.heap.size W W'):PH w W0 tb tr W' :=
 ⟨h.below.trans (hb.mono h.below.size),fun b h1 h2=>(hb.block b (Nat.lt_of_lt_of_le h1 h.size)).trans (h.fr b h1 h2),(hb.block _ (qA h.tbx)).trans h.tbx,Nat.le_trans h.size hb.size⟩
theorem PH.grown {w W0:World}{tb:Nat}{tr:Array Value}{W W':World}{row:Option Nat}(h:PH w W0 tb tr W)(hg:W.grownBy W' row)(hw:w.heap.size≤W0.heap.size)(ht:tb<W0.heap.size)(hr:∀ g,row=some g→W0.heap.size≤g):PH w W0 tb tr W':=by
 have hsz:=h.size;refine ⟨h.below.grown hg (by omega) (fun g hg'=>by have:=hr g hg';omega),fun b h1 h2=>(hg.block b (by omega) (fun e=>by have:=hr b e.symm;omega)).trans (h.fr b h1 h2),(hg.block tb (by omega) (fun e=>by have:=hr tb e.symm;omega)).trans h.tbx,Nat.le_trans hsz hg.size⟩
theorem PH.put {w W0:World}{tb:Nat}{tr:Array Value}{W:World}(h:PH w W0 tb tr W)(hw:w.heap.size≤tb)(i:Nat)(v:Value):PH w W0 tb (tr.setIfInBounds i v) (W.setCell ⟨tb,i,none⟩ v) :=
 ⟨h.below.setCell (p:=⟨tb,i,none⟩) hw v,fun b h1 h2=>by rw[qd h2];exact h.fr b h1 h2,by simp[World.setCell,Array.getElem?_modify,h.tbx],by simpa using h.size⟩
theorem PH.ti {w:World}{dv:Value}{xc:Array Value}{tb:Nat}{tr tr':Array Value}{va:Value}{al:List (ByteArray × ByteArray)}{W0 W:World}(h0:TI w dv xc tb tr va al W0)(h:PH w W0 tb tr' W):TI w dv xc tb tr' va al W:=by
 have hlo:=h0.lo;exact ⟨h.below,(h.fr _ (qA h0.dbx) (by omega)).trans h0.dbx,(h.fr _ (qA h0.xbx) (by omega)).trans h0.xbx,h.tbx,h0.lo,h0.att.carry fun b hb=>⟨⟨hb.1,hb.2.1,Nat.lt_of_lt_of_le hb.2.2 h.size⟩,h.fr b hb.2.2 hb.2.1⟩⟩
theorem PH.vb {w:World}{tb vb:Nat}{s7:ByteArray}{tr:Array Value}{W0 W:World}(h0:VB w tb vb s7 W0)(h:PH w W0 tb tr W):VB w tb vb s7 W:=by
 obtain ⟨h1,h2,k',t',ca,cl,cc,nm,h3⟩:=h0;exact ⟨h1,h2,k',t',ca,cl,cc,nm,(h.fr vb (qA h3) h2).trans h3⟩
theorem qaq {ops:Array Oper}{o:Oper}{a:Act}{w:World}{K:Act→World→Prop}{Q:Exit→Act→World→Prop}{E:Prop}
 (hg:o.guard=none) (s x:Operand) (hop:o.op=.call { callee:=.builtin .append,args:=#[s,x],argTypes:=#[28,28] })
 (B n:Nat) (v vx:Value) (us ts:List Tr) (T:Nat→Prop) (hs:a.eval s=v) (hx:a.eval x=vx) (h:TGr B n w v us) (hX:qw T w (n+1) vx ts) (hT:∀ b,T b→B≤b∧b<w.heap.size∧v.ownBlock≠some b) (hl:us.length+ts.length≤1048576) (hB:B≤w.heap.size)
 (hK:∀ v' w',TGr B n w' v' (us++ts)→w.grownBy w' v.ownBlock→(v'.ownBlock=v.ownBlock∨v'.ownBlock=some w.heap.size)→K (a.put o.dst v') w') :
 if Region.wanted o (yielded ops a.tmps)=true then Oper.wp Tryz.prog o a w K Q else E:=by
 have hw:Region.wanted o (yielded ops a.tmps)=true:=by simp[Region.wanted,hg]
 rw[if_pos hw];obtain ⟨v',w',hr,h1,h2,h3⟩:=j3 w o.type h hX hT hl hB;unfold Oper.wp execOp;simp only[hop,resolve,invoke,builtin,Sem.run_bind,Sem.run_pure,Result.andThen_ok,List.map_toArray,List.map_cons,List.map_nil,hs,hx,hr];exact hK _ _ h1 h2 h3
theorem J5 {S:Nat→Prop}{W:World}{n blk:Nat}{tx:Bool}{s:ByteArray}{va vk:Value}{al:List (ByteArray × ByteArray)}{kl:List Tr}(h:W.heap[blk]?=some (.cells #[.bool tx,.string s,va,vk] 56 (0,0)))(hA:qC S W va al)(hK:qw S W n vk kl):qw (fun b=>S b∨b=blk) W (n+1) (.slice (some ⟨blk,0,none⟩) 1 1) [⟨tx,s,al,kl⟩]:=by
 refine ⟨_,1,rfl,nR9 _,by unfold maxLen;omega,fun _=>⟨blk,0,rfl,Or.inr rfl,fun i t ht=>?_⟩⟩
 cases i with
 | zero =>
   simp at ht
   subst ht;refine ⟨va,vk,?_,?_,?_,?_,hA.carry fun b hb=>⟨Or.inl hb,rfl⟩,qw.carry (fun b hb=>⟨Or.inl hb,rfl⟩) n hK⟩
   · rw[cH9 h];rfl
   · rw[cH9 h];rfl
   · rw[cH9 h];rfl
   · rw[cH9 h];rfl
 | succ i=>simp at ht
theorem qbI {w W2 w3:World}{dv:Value}{xc:Array Value}{x:Nd}{a3:Option Addr}{c3':Nat}(hb2:Below w.heap.size w W2)(hbB:Below W2.drew.heap.size W2.drew w3)(HZ2:W2.heap.size=w.heap.size+2)(HD3:W2.heap[w.heap.size]?=some (.cells #[dv] 24 (0,0)))(HX3:W2.heap[w.heap.size+1]?=some (.cells xc 43 (0,0)))(hA3:qC (qS W2.drew.heap.size 79 w3) w3 (.slice a3 x.attrs.length c3') x.attrs) :
 TI w dv xc w3.heap.size #[.bool x.text,.string x.s,.slice a3 x.attrs.length c3',.slice none 0 0] (.slice a3 x.attrs.length c3') x.attrs (w3.alloc (.cells #[.bool x.text,.string x.s,.slice a3 x.attrs.length c3',.slice none 0 0] 56)):=by
 have hB3:Below w.heap.size w w3:=hb2.drew.trans (hbB.mono (by have:=HZ2;show w.heap.size≤W2.heap.size;omega))
 have hs3:W2.heap.size≤w3.heap.size:=hbB.size;have hz:=HZ2;refine ⟨hB3.alloc hB3.size _,?_,?_,heap_alloc_new _ _,by omega,?_⟩
 · rw[Lib.alloc_old _ _ _ (by omega)];exact (hbB.block _ (by show w.heap.size<W2.heap.size;omega)).trans HD3
 · rw[Lib.alloc_old _ _ _ (by omega)];exact (hbB.block _ (by show w.heap.size+1<W2.heap.size;omega)).trans HX3
 · exact (hA3.later (Below.alloc1 w3 _)).bounded.carry fun b hb=>⟨⟨by have h1:W2.heap.size≤b:=hb.1.1;omega,by have:=hb.1.lt;omega,hb.2⟩,rfl⟩
theorem qbJ {w W2 w3:World}{dv:Value}{xc:Array Value}{x:Nd}{a3:Option Addr}{c3':Nat}(HB4:Below w.heap.size w (W2.alloc (.cells #[.bool false,.string ⟨#[]⟩,.slice none 0 0,.slice none 0 0] 56)).drew)(hbA:Below (W2.alloc (.cells #[.bool false,.string ⟨#[]⟩,.slice none 0 0,.slice none 0 0] 56)).drew.heap.size (W2.alloc (.cells #[.bool false,.string ⟨#[]⟩,.slice none 0 0,.slice none 0 0] 56)).drew w3)(HZ2:W2.heap.size=w.heap.size+2)(HD3:W2.heap[w.heap.size]?=some (.cells #[dv] 24 (0,0)))(HX3:W2.heap[w.heap.size+1]?=some (.cells xc 43 (0,0)))(HZ4:w.heap.size+1<(W2.alloc (.cells #[.bool false,.string ⟨#[]⟩,.slice none 0 0,.slice none 0 0] 56)).drew.heap.size)(HZ5:W2.heap.size<(W2.alloc (.cells #[.bool false,.string ⟨#[]⟩,.slice none 0 0,.slice none 0 0] 56)).drew.heap.size)(hV3:w3.heap[W2.heap.size]?=some (.cells #[.bool false,.string ⟨#[]⟩,.slice none 0 0,.slice none 0 0] 56 (0,0)))(hA3:qC (qS (W2.alloc (.cells #[.bool false,.string ⟨#[]⟩,.slice none 0 0,.slice none 0 0] 56)).drew.heap.size 79 w3) w3 (.slice a3 x.attrs.length c3') x.attrs) :
 TI w dv xc W2.heap.size #[.bool x.text,.string x.s,.slice a3 x.attrs.length c3',.slice none 0 0] (.slice a3 x.attrs.length c3') x.attrs ((((w3.setCell ⟨W2.heap.size,0,none⟩ (.bool x.text)).setCell ⟨W2.heap.size,1,none⟩ (.string x.s)).setCell ⟨W2.heap.size,2,none⟩ (.slice a3 x.attrs.length c3')).setCell ⟨W2.heap.size,3,none⟩ (.slice none 0 0)):=by
 have hB3:Below w.heap.size w w3:=HB4.trans (hbA.mono HB4.size);have hz:=HZ2;have hle:w.heap.size≤W2.heap.size:=by omega
 refine ⟨(((hB3.setCell (p:=⟨W2.heap.size,0,none⟩) hle _).setCell (p:=⟨W2.heap.size,1,none⟩) hle _).setCell (p:=⟨W2.heap.size,2,none⟩) hle _).setCell (p:=⟨W2.heap.size,3,none⟩) hle _,?_,?_,?_,by omega,?_⟩
 · rw[qd (by omega), qd (by omega), qd (by omega), qd (by omega)]
   exact (hbA.block _ (by have:=HZ4;omega)).trans ((Lib.alloc_old _ _ _ (by omega)).trans HD3)
 · rw[qd (by omega), qd (by omega), qd (by omega), qd (by omega)]
   exact (hbA.block _ (by have:=HZ4;omega)).trans ((Lib.alloc_old _ _ _ (by omega)).trans HX3)
 · simp[World.setCell,Array.getElem?_modify,hV3]
 · refine hA3.bounded.carry fun b hb => ⟨⟨by have h1 : (W2.alloc (.cells #[.bool false, .string ⟨#[]⟩, .slice none 0 0, .slice none 0 0] 56)).drew.heap.size ≤ b := hb.1.1;have := HZ5;omega, by have h1 : (W2.alloc (.cells #[.bool false, .string ⟨#[]⟩, .slice none 0 0, .slice none 0 0] 56)).drew.heap.size ≤ b := hb.1.1;have := HZ5;omega, by have := hb.2;simpa using this⟩, ?_⟩
   have h1:(W2.alloc (.cells #[.bool false,.string ⟨#[]⟩,.slice none 0 0,.slice none 0 0] 56)).drew.heap.size≤b:=hb.1.1;have h2:=HZ5;rw[qd (by omega),qd (by omega),qd (by omega),qd (by omega)]
section
attribute [local go_sem] qD qas qar
def Yq (m:Nat)(ns:List Nd)(l:List Opn)(f:Nat):Prop:=∀ (S T:Nat→Prop)(n:Nat)(vd vl:Value)(w:World),n<ns.length→ns.length≤n+f→qK S w vd ns→Ops T w (m+1) vl l →
 Calls Tryz.prog 38 #[.agg #[vd],vl,.int .i64 (n:Int)] w fun e w'=>∃ r,e=.returned r∧(TGr w.heap.size (m+f) w' r (turnF f ns l n)∧Below w.heap.size w w')
set_option linter.unusedSimpArgs false in
set_option maxHeartbeats 8000000 in
theorem J7 (m f:Nat)(ns:List Nd)(l:List Opn)(hg:qM ns=true)(hfew:∀ x∈ns,x.attrs.length≤4398046511104)(hC:∀ kd tg,(qJ l kd tg).length≤1600)(hsm:∀ x∈l,Small (m+1) x.content)(hl20:l.length≤20)(ih:Yq m ns l f):Yq m ns l (f+1):=by
 intro S T n vd vl w hn hf hN hO;obtain ⟨x,hx⟩:∃ x,ns[n]?=some x:=⟨ns[n],by simp[hn]⟩
 have HT:Hid (turnF (f+1) ns l n=qJ l 3 n++((if (yf l 6 n).isEmpty then (if (yf l 5 n).isEmpty then [⟨x.text,if x.text then ((yf l 7 n).getLast?.map (·.s)).getD (((yf l 8 n).getLast?.map (·.name)).getD x.s) else ((yf l 8 n).getLast?.map (·.name)).getD x.s,l.foldl (qP n) x.attrs,
  if x.text then [] else match (yf l 7 n).getLast? with
   | some o=>[valT o.s]
   | none=>qJ l 1 n++(x.kids.flatMap (fun k=>turnF f ns l k.toNat)++qJ l 2 n)⟩] else []) else qJ l 6 n)++qJ l 4 n)):=by show _=_;rw[turnF,hx];rfl
 have hal:=hfew x (List.mem_of_getElem? hx);have ha80:x.attrs.length≤80:=((jW hg).2 x (List.mem_of_getElem? hx)).2;have hk80:x.kids.length≤80:=((jW hg).2 x (List.mem_of_getElem? hx)).1;have HKI:Hid (∀ u∈x.kids,∃ k:Nat,u=(k:Int)∧n<k∧k<ns.length):=fun u hu=>by obtain ⟨k,_,e1,e2,e3,_⟩:=(zo hg hx).kids u hu;exact ⟨k,e1,e2,e3⟩
 obtain ⟨b,o,cap,va,vk,rfl,hlc,hcm,hSb,hbw,c0,c1,c2,c3,c4,hAt,hKi⟩:=hN.at hx
 obtain ⟨aa,ac,rfl⟩:=hAt.shape;obtain ⟨ka,kc,rfl,hkl2,hkm⟩:=hKi.shape;obtain ⟨la,lc,rfl,hll,hlm⟩:=hO.shape;unfold maxLen at hcm hkm hlm
 have HOF:Hid (∀ (kd:Int) W,Below w.heap.size w W→Calls Tryz.prog 76 #[.slice la l.length lc,.int .i64 kd,.int .i64 (n:Int)] W fun e w'=>Vw W m l kd n e w'):=fun kd W hW=>qbC T m _ l kd n W (hO.later hW) hsm (Nat.le_trans (hC kd n) (by omega))
 have HIH:Hid (Yq m ns l f):=ih;have HNN:Hid (qK S w (.slice (some ⟨b,o,none⟩) ns.length cap) ns):=hN;have HOO:Hid (Ops T w (m+1) (.slice la l.length lc) l):=hO;have HCC:Hid _:=hC;have HKX:Hid (zM S w (.slice ka x.kids.length kc) x.kids):=hKi;have hni:(n:Int)<(ns.length:Int):=by omega
 have hb2:Below w.heap.size w ((w.alloc (.cells #[.slice (some ⟨b,o,none⟩) ns.length cap] 24)).alloc (.cells #[.bool x.text,.string x.s,.slice aa x.attrs.length ac,.int .i64 x.parent,.slice ka x.kids.length kc] 43)):=(Below.alloc1 w _).alloc (by simp) _
 have HD3:Hid (((w.alloc (.cells #[.slice (some ⟨b,o,none⟩) ns.length cap] 24)).alloc (.cells #[.bool x.text,.string x.s,.slice aa x.attrs.length ac,.int .i64 x.parent,.slice ka x.kids.length kc] 43)).heap[w.heap.size]?=some (.cells #[.slice (some ⟨b,o,none⟩) ns.length cap] 24 (0,0))):=by
  show _=_
  rw[Lib.alloc_old _ _ _ (by simp)];exact heap_alloc_new _ _
 have HX3:Hid (((w.alloc (.cells #[.slice (some ⟨b,o,none⟩) ns.length cap] 24)).alloc (.cells #[.bool x.text,.string x.s,.slice aa x.attrs.length ac,.int .i64 x.parent,.slice ka x.kids.length kc] 43)).heap[w.heap.size+1]?=some (.cells #[.bool x.text,.string x.s,.slice aa x.attrs.length ac,.int .i64 x.parent,.slice ka x.kids.length kc] 43 (0,0))):=by
  have e:=heap_alloc_new (w.alloc (.cells #[.slice (some ⟨b,o,none⟩) ns.length cap] 24)) (.cells #[.bool x.text,.string x.s,.slice aa x.attrs.length ac,.int .i64 x.parent,.slice ka x.kids.length kc] 43);rw[World.size_alloc]at e
  exact e
 have HZ2:Hid (((w.alloc (.cells #[.slice (some ⟨b,o,none⟩) ns.length cap] 24)).alloc (.cells #[.bool x.text,.string x.s,.slice aa x.attrs.length ac,.int .i64 x.parent,.slice ka x.kids.length kc] 43)).heap.size=w.heap.size+2):=by show _=_;simp
 have HAT:Hid (∀ W,Below w.heap.size w W→qC S W (.slice aa x.attrs.length ac) x.attrs):=fun W hW=>hAt.later hW
 clear ih hg hC hsm hN hO hKi hAt hfew
 go_enter Tryz.func38,Tryz.ntmps38
 go_upto_region 2 with fail
 generalize ((w.alloc (.cells #[.slice (some ⟨b,o,none⟩) ns.length cap] 24)).alloc (.cells #[.bool x.text,.string x.s,.slice aa x.attrs.length ac,.int .i64 x.parent,.slice ka x.kids.length kc] 43))=W2 at *
 have hZ3:w.heap.size+1<W2.heap.size:=by have:=HZ2.out;omega
 have HWW:Hid (∀ W':World,W'.heap[w.heap.size+1]?=W2.heap[w.heap.size+1]?→W'.cell? ⟨w.heap.size+1,0,none⟩=some (.bool x.text)∧W'.cell? ⟨w.heap.size+1,1,none⟩=some (.string x.s)∧W'.cell? ⟨w.heap.size+1,2,none⟩=some (.slice aa x.attrs.length ac)):=by
  intro W' h2;rw[HX3.out]at h2
  exact ⟨by rw[cH9 h2];rfl,by rw[cH9 h2];rfl,by rw[cH9 h2];rfl⟩
 obtain ⟨y0,y1,y2⟩:=HWW.out W2 rfl;have HB4:Hid (Below w.heap.size w (W2.alloc (.cells #[.bool false,.string ⟨#[]⟩,.slice none 0 0,.slice none 0 0] 56)).drew):=(hb2.alloc hb2.size _).drew;have HZ4:Hid (w.heap.size+1<(W2.alloc (.cells #[.bool false,.string ⟨#[]⟩,.slice none 0 0,.slice none 0 0] 56)).drew.heap.size):=by show w.heap.size+1<(W2.alloc (.cells #[.bool false,.string ⟨#[]⟩,.slice none 0 0,.slice none 0 0] 56)).heap.size;rw[World.size_alloc];omega
 have HZ5:Hid (W2.heap.size<(W2.alloc (.cells #[.bool false,.string ⟨#[]⟩,.slice none 0 0,.slice none 0 0] 56)).drew.heap.size):=by show W2.heap.size<(W2.alloc (.cells #[.bool false,.string ⟨#[]⟩,.slice none 0 0,.slice none 0 0] 56)).heap.size;rw[World.size_alloc];omega
 clear c0 c1 c2 c3 c4 hx
 go_cut [8] from 48 to 55 (fun p wz=>∃ (tb:Nat) (a3:Option Addr) (c3:Nat),p=.pointer (some ⟨tb,0,none⟩)∧TI w (.slice (some ⟨b,o,none⟩) ns.length cap) #[.bool x.text,.string x.s,.slice aa x.attrs.length ac,.int .i64 x.parent,.slice ka x.kids.length kc] tb #[.bool x.text,.string x.s,.slice a3 x.attrs.length c3,.slice none 0 0] (.slice a3 x.attrs.length c3) x.attrs wz)
 case first =>
  go_region_held3 (fun W':World=>W'.cell? ⟨w.heap.size+1,0,none⟩=some (.bool x.text)∧W'.cell? ⟨w.heap.size+1,1,none⟩=some (.string x.s)∧W'.cell? ⟨w.heap.size+1,2,none⟩=some (.slice aa x.attrs.length ac))
   (first
    | exact HWW.out w3 (hbB.block _ hZ3)
    | exact HWW.out (w3.alloc (.cells #[.bool false,.string ⟨#[]⟩,.slice none 0 0,.slice none 0 0] 56)) ((Lib.alloc_old _ _ _ (Nat.lt_of_lt_of_le hZ3 hbB.size)).trans (hbB.block _ hZ3))
    | exact HWW.out (w3.alloc (.cells #[.bool x.text,.string x.s,.slice a3 x.attrs.length c3',.slice none 0 0] 56)) ((Lib.alloc_old _ _ _ (Nat.lt_of_lt_of_le hZ3 hbB.size)).trans (hbB.block _ hZ3))
    | exact HWW.out w3 ((hbA.block _ HZ4.out).trans (Lib.alloc_old _ _ _ hZ3))
    | exact HWW.out _ (by rw[qd (Nat.ne_of_lt hZ3),qd (Nat.ne_of_lt hZ3),qd (Nat.ne_of_lt hZ3),qd (Nat.ne_of_lt hZ3)];exact (hbA.block _ HZ4.out).trans (Lib.alloc_old _ _ _ hZ3))
    | exact HWW.out W2.drew rfl
    | exact HWW.out (W2.alloc (.cells #[.bool false,.string ⟨#[]⟩,.slice none 0 0,.slice none 0 0] 56)).drew (Lib.alloc_old _ _ _ hZ3))
   (first
    | (refine yy (by rfl) (.tmp 53) (by rfl) S (.slice aa x.attrs.length ac) x.attrs (by simp[Act.eval]) (HAT.out (W2.alloc (.cells #[.bool false,.string ⟨#[]⟩,.slice none 0 0,.slice none 0 0] 56)).drew HB4.out) hal ?_;intro va3 w3 hA3 hbA;obtain ⟨a3,c3',rfl⟩:=hA3.shape;have hV3:w3.heap[W2.heap.size]?=some (.cells #[.bool false,.string ⟨#[]⟩,.slice none 0 0,.slice none 0 0] 56 (0,0)):=(hbA.block _ HZ5.out).trans (heap_alloc_new _ _);have g0:=cH9 hV3 0;have g1:=cH9 hV3 1;have g2:=cH9 hV3 2;have g3:=cH9 hV3 3;have k0:=fH9 hV3 0;have k1:=fH9 hV3 1;have k2:=fH9 hV3 2;have k3:=fH9 hV3 3;simp at g0 g1 g2 g3)
    | (refine yy (by rfl) (.tmp 53) (by rfl) S (.slice aa x.attrs.length ac) x.attrs (by simp[Act.eval]) (HAT.out W2.drew hb2.drew) hal ?_;intro va3 w3 hA3 hbB;obtain ⟨a3,c3',rfl⟩:=hA3.shape))
  all_goals
   first
    | (have HGS:Hid _:=qbI (dv:=.slice (some ⟨b,o,none⟩) ns.length cap) (xc:=#[.bool x.text,.string x.s,.slice aa x.attrs.length ac,.int .i64 x.parent,.slice ka x.kids.length kc]) (x:=x) hb2 hbB HZ2.out HD3.out HX3.out hA3;clear hbB hA3;go_wp2_with fail;go_meet;case rel=>exact ⟨_,_,_,rfl,HGS.out⟩)
    | (have HGS:Hid _:=qbJ (dv:=.slice (some ⟨b,o,none⟩) ns.length cap) (xc:=#[.bool x.text,.string x.s,.slice aa x.attrs.length ac,.int .i64 x.parent,.slice ka x.kids.length kc]) (x:=x) HB4.out hbA HZ2.out HD3.out HX3.out HZ4.out HZ5.out hV3 hA3;clear hbA hA3;go_wp2_with fail;go_meet;case rel=>exact ⟨_,_,_,rfl,HGS.out⟩)
 case rest =>
  obtain ⟨tb,a3,c3,rfl,hTI⟩:=hcut;have HTI:Hid (TI w (.slice (some ⟨b,o,none⟩) ns.length cap) #[.bool x.text,.string x.s,.slice aa x.attrs.length ac,.int .i64 x.parent,.slice ka x.kids.length kc] tb #[.bool x.text,.string x.s,.slice a3 x.attrs.length c3,.slice none 0 0] (.slice a3 x.attrs.length c3) x.attrs wc):=hTI;clear hTI HD3 HX3 HZ2 hZ3 HWW y0 y1 y2 HB4 HZ4 HZ5 hb2 HAT;go_wp2_with fail;refine Calls.mono (HOF.out 7 wc HTI.out.below) ?_;rintro e w4 ⟨v7,k7,t7,ca7,cl7,cc7,nm7,s7,rfl,_,hs7,hb4⟩;have hb5:=Below.alloc1 w4 (.cells #[.int .i64 k7,.int .i64 t7,.slice ca7 cl7 cc7,.string nm7,.string s7] 30);have hb45:=hb4.trans (hb5.mono hb4.size);have HTI5:Hid _:=HTI.out.later hb45;have HVB5:Hid (VB w tb w4.heap.size s7 (w4.alloc (.cells #[.int .i64 k7,.int .i64 t7,.slice ca7 cl7 cc7,.string nm7,.string s7] 30))):=⟨by have:=qA HTI.out.tbx;have:=hb4.size;have:=HTI.out.lo;omega,by have:=qA HTI.out.tbx;have:=hb4.size;omega,k7,t7,ca7,cl7,cc7,nm7,heap_alloc_new _ _⟩
  have HS7:Hid _:=hs7;clear HTI hs7 hb4 hb5 hb45;go_wp2_with fail
  generalize w4.alloc (.cells #[.int .i64 k7,.int .i64 t7,.slice ca7 cl7 cc7,.string nm7,.string s7] 30)=W5 at *
  generalize w4.heap.size=vb at *
  generalize he7:(yf l 7 n).isEmpty=e7 at *
  have HE7:Hid _:=he7;clear he7;refine Calls.mono (HOF.out 8 W5 HTI5.out.below) ?_;rintro e w6 ⟨v8,k8,t8,ca8,cl8,cc8,nm8,s8,rfl,_,hs8,hb6⟩;have hb7:=Below.alloc1 w6 (.cells #[.int .i64 k8,.int .i64 t8,.slice ca8 cl8 cc8,.string nm8,.string s8] 30);have hb67:=hb6.trans (hb7.mono hb6.size);have HTI7:Hid (TI w (.slice (some ⟨b,o,none⟩) ns.length cap) #[.bool x.text,.string x.s,.slice aa x.attrs.length ac,.int .i64 x.parent,.slice ka x.kids.length kc] tb #[.bool x.text,.string x.s,.slice a3 x.attrs.length c3,.slice none 0 0] (.slice a3 x.attrs.length c3) x.attrs (w6.alloc (.cells #[.int .i64 k8,.int .i64 t8,.slice ca8 cl8 cc8,.string nm8,.string s8] 30))):=HTI5.out.later hb67;have HVB7:Hid (VB w tb vb s7 (w6.alloc (.cells #[.int .i64 k8,.int .i64 t8,.slice ca8 cl8 cc8,.string nm8,.string s8] 30))):=HVB5.out.later hb67;have HNB:Hid _:=heap_alloc_new w6 (.cells #[.int .i64 k8,.int .i64 t8,.slice ca8 cl8 cc8,.string nm8,.string s8] 30);have HS8:Hid _:=hs8;clear HTI5 HVB5 hs8 hb6 hb7 hb67
  generalize hs1:((yf l 8 n).getLast?.map (·.name)).getD x.s=s1 at *
  have HS1:Hid _:=hs1;clear hs1
  generalize he8:(yf l 8 n).isEmpty=e8 at *
  have HE8:Hid _:=he8;clear he8
  go_upto_if 70 with fail
  generalize w6.alloc (.cells #[.int .i64 k8,.int .i64 t8,.slice ca8 cl8 cc8,.string nm8,.string s8] 30)=W7 at *
  generalize w6.heap.size=nb at *
  go_cut [] from 71 to 73 (fun wz=>TI w (.slice (some ⟨b,o,none⟩) ns.length cap) #[.bool x.text,.string x.s,.slice aa x.attrs.length ac,.int .i64 x.parent,.slice ka x.kids.length kc] tb #[.bool x.text,.string s1,.slice a3 x.attrs.length c3,.slice none 0 0] (.slice a3 x.attrs.length c3) x.attrs wz∧VB w tb vb s7 wz)
  case first =>
   cases e8 with
   | true =>
     obtain rfl:x.s=s1:=by
      rw[←HS1.out,List.isEmpty_iff.1 HE8.out];rfl
     clear HS1 HNB HS8 HE8;go_wp2_with fail
     go_meet
     case rel => exact ⟨HTI7.out,HVB7.out⟩
   | false =>
     obtain rfl:nm8=s1:=by
      cases hL:(yf l 8 n).getLast? with
      | none=>have h1:=HE8.out;rw[List.getLast?_eq_none_iff.1 hL]at h1;cases h1
      | some o8=>rw[←HS1.out,hL];exact (HS8.out o8 hL).1
     have q3:W7.cell? ⟨nb,3,none⟩=some (.string nm8):=by rw[cH9 HNB.out];rfl
     have t1:W7.cell? ⟨tb,1,none⟩=some (.string x.s):=by rw[cH9 HTI7.out.tbx];rfl
     have tf:W7.frozen? ⟨tb,1,none⟩=false:=fH9 HTI7.out.tbx _;have HT8:Hid _:=HTI7.out.put 1 (.string nm8);have HV8:Hid _:=HVB7.out.put 1 (.string nm8);clear HS1 HNB HS8 HE8;go_wp2_with fail
     go_meet
     case rel => exact ⟨HT8.out,HV8.out⟩
  case rest =>
   obtain ⟨hT8,hV8⟩:=hcut;have HT8:Hid (TI w (.slice (some ⟨b,o,none⟩) ns.length cap) #[.bool x.text,.string x.s,.slice aa x.attrs.length ac,.int .i64 x.parent,.slice ka x.kids.length kc] tb #[.bool x.text,.string s1,.slice a3 x.attrs.length c3,.slice none 0 0] (.slice a3 x.attrs.length c3) x.attrs wc):=hT8;have HV8:Hid (VB w tb vb s7 wc):=hV8;clear hT8 hV8 HTI7 HVB7 HNB HS8 HS1 HE8;go_wp2_with fail;obtain ⟨i0,hi,hz0,hz1,hz2⟩:=info_parts attrInfo
   go_loopg [76] l.length (fun g i wr=>∃ (k:Nat) (aa4:Option Addr) (ac4:Nat),k+g=l.length∧i=.int .i64 (k:Int)∧TI w (.slice (some ⟨b,o,none⟩) ns.length cap) #[.bool x.text,.string x.s,.slice aa x.attrs.length ac,.int .i64 x.parent,.slice ka x.kids.length kc] tb #[.bool x.text,.string s1,.slice aa4 ((l.take k).foldl (qP n) x.attrs).length ac4,.slice none 0 0] (.slice aa4 ((l.take k).foldl (qP n) x.attrs).length ac4) ((l.take k).foldl (qP n) x.attrs) wr∧VB w tb vb s7 wr)
   case atStart => exact ⟨0,a3,c3,by omega,rfl,HT8.out,HV8.out⟩
   case round =>
    clear HT8 HV8;obtain ⟨k,aa4,ac4,hk,rfl,hTk,hVk⟩:=hrel;have hallen:=Yv n (l.take k) x.attrs;rw[List.length_take]at hallen
    by_cases hkl:k<l.length
    · have hkli : (k : Int) < (l.length : Int) := by omega
      obtain ⟨y,hy⟩:∃ y,l[k]?=some y:=⟨l[k],by simp[hkl]⟩
      have HFO:Hid _:=ZI hy n x.attrs
      generalize (l.take k).foldl (qP n) x.attrs=al at *
      have HTK:Hid (TI w (.slice (some ⟨b,o,none⟩) ns.length cap) #[.bool x.text,.string x.s,.slice aa x.attrs.length ac,.int .i64 x.parent,.slice ka x.kids.length kc] tb #[.bool x.text,.string s1,.slice aa4 al.length ac4,.slice none 0 0] (.slice aa4 al.length ac4) (al) wr):=hTk;have HVK:Hid (VB w tb vb s7 wr):=hVk;obtain ⟨lb,lo,lcap,ca,cc,hv,_,_,c0,c1,c2,c3',c4,_⟩:=(HOO.out.later HTK.out.below).at hy
      injection hv with hv1 hv2 hv3
      subst hv1 hv3
      generalize hyt:y.target=yt at *
      have HYT:Hid _:=hyt;clear hyt;have hb9:=Below.alloc1 wr (.cells #[.int .i64 y.kind,.int .i64 yt,.slice ca y.content.length cc,.string y.name,.string y.s] 30);have HOB:Hid _:=heap_alloc_new wr (.cells #[.int .i64 y.kind,.int .i64 yt,.slice ca y.content.length cc,.string y.name,.string y.s] 30);have HT9:Hid (TI w (.slice (some ⟨b,o,none⟩) ns.length cap) #[.bool x.text,.string x.s,.slice aa x.attrs.length ac,.int .i64 x.parent,.slice ka x.kids.length kc] tb #[.bool x.text,.string s1,.slice aa4 al.length ac4,.slice none 0 0] (.slice aa4 al.length ac4) (al) (wr.alloc (.cells #[.int .i64 y.kind,.int .i64 yt,.slice ca y.content.length cc,.string y.name,.string y.s] 30))):=HTK.out.later hb9;have HV9:Hid (VB w tb vb s7 (wr.alloc (.cells #[.int .i64 y.kind,.int .i64 yt,.slice ca y.content.length cc,.string y.name,.string y.s] 30))):=HVK.out.later hb9;clear hTk hVk hv2 hy HTK HVK hb9
      by_cases htg:yt=(n:Int)
      · subst htg
        by_cases hk9:y.kind<9
        · have hkb : decide (y.kind < 9) = true := by simpa using hk9
          have HFE:Hid ((l.take (k+1)).foldl (qP n) x.attrs=al):=by show _=_;rw[HFO.out];unfold qP;rw[if_pos (Or.inr hk9)]
          clear HFO HOB HYT;go_wp2_with fail
          go_roundg (l.length-(k+1))
          case measure => omega
          case rel => exact ⟨k+1,aa4,ac4,by omega,by go_num,by rw[HFE.out];exact HT9.out,HV9.out⟩
        · have hkb : decide (y.kind < 9) = false := by simpa using hk9
          have HTG:Hid (y.target=(n:Int)):=HYT.out;have HK9:Hid (¬ y.kind<9):=hk9;clear hk9 HYT;have HALL:Hid (al.length≤200):=by show _≤_;omega
          have hall:=HALL.out
          have HCO:Hid (∀ W,Below (wr.alloc (.cells #[.int .i64 y.kind,.int .i64 (n:Int),.slice ca y.content.length cc,.string y.name,.string y.s] 30)).heap.size (wr.alloc (.cells #[.int .i64 y.kind,.int .i64 (n:Int),.slice ca y.content.length cc,.string y.name,.string y.s] 30)) W→W.cell? ⟨wr.heap.size,0,none⟩=some (.int .i64 y.kind)∧W.cell? ⟨wr.heap.size,3,none⟩=some (.string y.name)∧W.cell? ⟨wr.heap.size,4,none⟩=some (.string y.s)):=by
           intro W hW;have e1:=(hW.block _ (qA HOB.out)).trans HOB.out;exact ⟨by rw[cH9 e1];rfl,by rw[cH9 e1];rfl,by rw[cH9 e1];rfl⟩
          have HAL:Hid _:=HT9.out.att;have t2:(wr.alloc (.cells #[.int .i64 y.kind,.int .i64 (n:Int),.slice ca y.content.length cc,.string y.name,.string y.s] 30)).cell? ⟨tb,2,none⟩=some (.slice aa4 al.length ac4):=by rw[cH9 HT9.out.tbx];rfl
          clear hallen HOB;go_wp2_with fail
          generalize wr.alloc (.cells #[.int .i64 y.kind,.int .i64 (n:Int),.slice ca y.content.length cc,.string y.name,.string y.s] 30)=W9 at *
          generalize wr.heap.size=ob at *
          have HN0:Hid (∀ W,Below W9.heap.size W9 W→W.cell? ⟨ob,0,none⟩=some (.int .i64 y.kind)):=fun W hW=>(HCO.out W hW).1
          have HN3:Hid (∀ W,Below W9.heap.size W9 W→W.cell? ⟨ob,3,none⟩=some (.string y.name)):=fun W hW=>(HCO.out W hW).2.1
          have HN4:Hid (∀ W,Below W9.heap.size W9 W→W.cell? ⟨ob,4,none⟩=some (.string y.s)):=fun W hW=>(HCO.out W hW).2.2
          clear c0 c1 c2 c3' c4 t2 HCO
          go_loopg [92,17] al.length (fun g i u wr=>∃ (j:Nat) (v:Value),j+g=al.length∧i=.int .i64 (j:Int)∧v=u∧wr.ownsRow W9.heap.size 79 2 v ((al.take j).filter (fun a=>Op.bytesLess a.1.toList y.name.toList)).length (attrCells ((al.take j).filter (fun a=>Op.bytesLess a.1.toList y.name.toList)))∧Below W9.heap.size W9 wr)
          case atStart => exact ⟨0,_,by omega,rfl,rfl,by rw[List.take_zero];exact World.ownsRow_nil _ _ _ _,Below.refl _ _⟩
          case round =>
           obtain ⟨j,v,hj,rfl,hvu,hrow,hB⟩:=hrel;subst hvu;have HRW:Hid _:=hrow;have HBW:Hid (Below W9.heap.size W9 wr):=hB;clear hrow hB
           by_cases hjl:j<al.length
           · have hjli : (j : Int) < (al.length : Int) := by omega
             obtain ⟨a,ha⟩:∃ a,al[j]?=some a:=⟨al[j],by simp[hjl]⟩
             obtain ⟨ab,ao,haa,_,hab,c0,c1⟩:=(qC.later HAL.out HBW.out).at ha
             subst haa;have HFT:Hid _:=Z9 (p:=fun a=>Op.bytesLess a.1.toList y.name.toList) ha
             have hbx1:=Below.alloc1 wr (.cells #[.string a.1,.string a.2] 79);have HBX1:Hid _:=hbx1;have n3:(wr.alloc (.cells #[.string a.1,.string a.2] 79)).cell? ⟨ob,3,none⟩=some (.string y.name):=HN3.out _ (HBW.out.trans (hbx1.mono HBW.out.size))
             have hlen:((al.take j).filter (fun a=>Op.bytesLess a.1.toList y.name.toList)).length≤4096:=by
              have h1:=List.length_filter_le (fun a=>Op.bytesLess a.1.toList y.name.toList) (al.take j)
              have h2:(al.take j).length≤al.length:=by rw[List.length_take];omega
              omega
             clear ha hbx1;cases ht:Op.bytesLess a.1.toList y.name.toList with
             | true =>
               rw[ht,if_pos rfl]at HFT
               go_wp2_with (at_builtin;refine wpList_append_own_at _ rfl _ _ 40 rfl W9.heap.size 79 i0 _ 2 32 Tryz.underlying40 hi hz0 hz1 hz2 rfl (by decide) v ((al.take j).filter (fun a=>Op.bytesLess a.1.toList y.name.toList)).length (attrCells ((al.take j).filter (fun a=>Op.bytesLess a.1.toList y.name.toList))) rfl ?qc0 ⟨wr.heap.size+1,0,none⟩ 1 1 [.string a.1,.string a.2] rfl ?qc1 ?qc2 ?qc3 ?qc4 ?qc5 ?qc6 ?_)
               case qc0 => exact World.ownsRow.alloc (World.ownsRow.alloc HRW.out _) _
               case qc1 => rfl
               case qc2 =>
                intro q u hq;have hnew:=heap_alloc_new (wr.alloc (.cells #[.string a.1,.string a.2] 79)) (.cells #[.string a.1,.string a.2] 79);rw[World.size_alloc]at hnew
                rw[Addr.add_lit,Nat.zero_add,cH9 hnew]
                simpa using hq
               case qc3 =>
                intro u hu;simp only[List.mem_cons,List.not_mem_nil,or_false]at hu
                rcases hu with rfl|rfl<;>rfl
               case qc4 => unfold maxLen;omega
               case qc5 => omega
               case qc6 => have:=HBW.out.size;simp;omega
               intro v2 W2 hown hgr _ _;have hb2:Below wr.heap.size wr ((wr.alloc (.cells #[.string a.1,.string a.2] 79)).alloc (.cells #[.string a.1,.string a.2] 79)):=HBX1.out.alloc (by simp) _
               have HB2:Hid (Below W9.heap.size W9 W2):=(HBW.out.trans (hb2.mono HBW.out.size)).grown hgr (by have:=HBW.out.size;simp;omega) (fun q hq=>(World.ownsRow.lt HRW.out q hq).1)
               have HR2:Hid (W2.ownsRow W9.heap.size 79 2 v2 ((al.take (j+1)).filter (fun a=>Op.bytesLess a.1.toList y.name.toList)).length (attrCells ((al.take (j+1)).filter (fun a=>Op.bytesLess a.1.toList y.name.toList)))):=by
                show World.ownsRow _ _ _ _ _ _ _
                rw[HFT.out];rw[jB,List.length_append];exact hown
               clear hown hgr hb2 HFT;go_wp2_with fail
               go_roundg (al.length-(j+1))
               case measure => omega
               case rel => exact ⟨j+1,v2,by omega,by go_num,rfl,HR2.out,HB2.out⟩
             | false =>
               rw[ht,if_neg (by simp),List.append_nil]at HFT
               have HB2:Hid (Below W9.heap.size W9 (wr.alloc (.cells #[.string a.1,.string a.2] 79))):=HBW.out.trans (HBX1.out.mono HBW.out.size)
               have HR2:Hid ((wr.alloc (.cells #[.string a.1,.string a.2] 79)).ownsRow W9.heap.size 79 2 v ((al.take (j+1)).filter (fun a=>Op.bytesLess a.1.toList y.name.toList)).length (attrCells ((al.take (j+1)).filter (fun a=>Op.bytesLess a.1.toList y.name.toList)))):=by
                show World.ownsRow _ _ _ _ _ _ _
                rw[HFT.out];exact World.ownsRow.alloc HRW.out _
               clear HFT;go_wp2_with fail
               go_roundg (al.length-(j+1))
               case measure => omega
               case rel => exact ⟨j+1,v,by omega,by go_num,rfl,HR2.out,HB2.out⟩
           · have hjli : ¬ ((j : Int) < (al.length : Int)) := by omega
             have hjj:j=al.length:=by omega
             subst hjj;rw[List.take_length]at HRW
             have k0:wr.cell? ⟨ob,0,none⟩=some (.int .i64 y.kind):=HN0.out _ HBW.out;have k3:wr.cell? ⟨ob,3,none⟩=some (.string y.name):=HN3.out _ HBW.out;have k4:wr.cell? ⟨ob,4,none⟩=some (.string y.s):=HN4.out _ HBW.out
             have hlen1:(al.filter (fun a=>Op.bytesLess a.1.toList y.name.toList)).length≤2048:=by
              have h1:=List.length_filter_le (fun a=>Op.bytesLess a.1.toList y.name.toList) al
              omega
             go_upto_if 108 with fail
             go_cut [17] from 108 to 116 (fun u wz=>∃ v1,v1=u∧wz.ownsRow W9.heap.size 79 2 v1 (al.filter (fun a=>Op.bytesLess a.1.toList y.name.toList)++(if y.kind=9 then [(y.name,y.s)] else [])).length (attrCells (al.filter (fun a=>Op.bytesLess a.1.toList y.name.toList)++(if y.kind=9 then [(y.name,y.s)] else [])))∧Below W9.heap.size W9 wz)
             case first =>
              by_cases h9:y.kind=9
              · have h9b : (y.kind == 9) = true := by simpa using h9
                have H9:Hid (y.kind=9):=h9;clear h9;go_wp2_with (at_builtin;refine wpList_append_own_at _ rfl _ _ 40 rfl W9.heap.size 79 i0 _ 2 32 Tryz.underlying40 hi hz0 hz1 hz2 rfl (by decide) v (al.filter (fun a=>Op.bytesLess a.1.toList y.name.toList)).length (attrCells (al.filter (fun a=>Op.bytesLess a.1.toList y.name.toList))) rfl ?qb0 ⟨wr.heap.size,0,none⟩ 1 1 [.string y.name,.string y.s] rfl ?qb1 ?qb2 ?qb3 ?qb4 ?qb5 ?qb6 ?_)
                case qb0 => exact World.ownsRow.alloc HRW.out _
                try (case qb1=>rfl)
                try (case qb2=>exact fun q u hq=>by rw[Addr.add_lit,Nat.zero_add,cH9 (heap_alloc_new wr (.cells #[.string y.name,.string y.s] 79))];simpa using hq)
                try (case qb3=>first|exact ⟨rfl,rfl⟩|exact fun u hu=>by simp only[List.mem_cons,List.not_mem_nil,or_false]at hu;rcases hu with rfl|rfl<;>rfl)
                try (case qb4=>unfold maxLen;omega)
                try (case qb5=>omega)
                try (case qb6=>have:=HBW.out.size;simp;omega)
                intro v2 W2 hown hgr _ _;have hb2:=Below.alloc1 wr (.cells #[.string y.name,.string y.s] 79);have HB2:Hid (Below W9.heap.size W9 W2):=(HBW.out.trans (hb2.mono HBW.out.size)).grown hgr (by have:=HBW.out.size;simp;omega) (fun q hq=>(World.ownsRow.lt HRW.out q hq).1)
                have HR2:Hid (W2.ownsRow W9.heap.size 79 2 v2 (al.filter (fun a=>Op.bytesLess a.1.toList y.name.toList)++[(y.name,y.s)]).length (attrCells (al.filter (fun a=>Op.bytesLess a.1.toList y.name.toList)++[(y.name,y.s)]))):=by
                 show World.ownsRow _ _ _ _ _ _ _
                 rw[jB,List.length_append];exact hown
                clear hown hgr hb2;go_wp2_with fail
                go_meet
                case rel => exact ⟨v2,rfl,by rw[if_pos H9.out];exact HR2.out,HB2.out⟩
              · have h9b : (y.kind == 9) = false := by simpa using h9
                have H9:Hid (¬ y.kind=9):=h9;go_wp2_with fail
                go_meet
                case rel => exact ⟨v,rfl,by rw[if_neg H9.out,List.append_nil];exact HRW.out,HBW.out⟩
             case rest =>
              obtain ⟨v1,hvu,hr1,hB1⟩:=hcut;subst hvu
              have HST:Hid ((al.filter (fun a=>Op.bytesLess a.1.toList y.name.toList)++(if y.kind=9 then [(y.name,y.s)] else []))++al.filter (fun a=>Op.bytesLess y.name.toList a.1.toList)=qP n al y):=by
               show _=_
               have hne:¬ (y.target≠(n:Int)∨y.kind<9):=fun h=>h.elim (fun h1=>h1 HTG.out) (fun h1=>by have:=HK9.out;omega)
               by_cases h9:y.kind=9
               · have e1 : qP n al y = zJ al y.name y.s := by unfold qP;rw[if_neg hne, if_pos h9]
                 rw[e1,if_pos h9,List.append_assoc];rfl
               · have e1 : qP n al y = zP al y.name := by unfold qP;rw[if_neg hne, if_neg h9]
                 rw[e1,if_neg h9,List.append_nil];rfl
              have hL1:(al.filter (fun a=>Op.bytesLess a.1.toList y.name.toList)++(if y.kind=9 then [(y.name,y.s)] else [])).length≤2049:=by
               rw[List.length_append]
               split
               · simp;omega
               · simp;omega
              generalize al.filter (fun a=>Op.bytesLess a.1.toList y.name.toList)++(if y.kind=9 then [(y.name,y.s)] else [])=L1 at *
              have HR1:Hid _:=hr1;have HB1:Hid (Below W9.heap.size W9 wc):=hB1;have t2c:wc.cell? ⟨tb,2,none⟩=some (.slice aa4 al.length ac4):=by rw[cH9 (HT9.out.later hB1).tbx];rfl
              clear hr1 hB1 k0 k3 k4 HRW HBW;go_wp2_with fail
              go_loopg [120,17] al.length (fun g i u wr=>∃ (j:Nat) (v:Value),j+g=al.length∧i=.int .i64 (j:Int)∧v=u∧wr.ownsRow W9.heap.size 79 2 v (L1++(al.take j).filter (fun a=>Op.bytesLess y.name.toList a.1.toList)).length (attrCells (L1++(al.take j).filter (fun a=>Op.bytesLess y.name.toList a.1.toList)))∧Below W9.heap.size W9 wr)
              case atStart => exact ⟨0,v1,by omega,rfl,rfl,by rw[List.take_zero,List.filter_nil,List.append_nil];exact HR1.out,HB1.out⟩
              case round =>
               obtain ⟨j,v,hj,rfl,hvu,hrow,hB⟩:=hrel;subst hvu;have HRW:Hid _:=hrow;have HBW:Hid (Below W9.heap.size W9 wr):=hB;clear hrow hB
               by_cases hjl:j<al.length
               · have hjli : (j : Int) < (al.length : Int) := by omega
                 obtain ⟨a,ha⟩:∃ a,al[j]?=some a:=⟨al[j],by simp[hjl]⟩
                 obtain ⟨ab,ao,haa,_,hab,c0,c1⟩:=(qC.later HAL.out HBW.out).at ha
                 subst haa;have HFT:Hid _:=Z9 (p:=fun a=>Op.bytesLess y.name.toList a.1.toList) ha
                 have hbx1:=Below.alloc1 wr (.cells #[.string a.1,.string a.2] 79);have HBX1:Hid _:=hbx1;have n3:(wr.alloc (.cells #[.string a.1,.string a.2] 79)).cell? ⟨ob,3,none⟩=some (.string y.name):=HN3.out _ (HBW.out.trans (hbx1.mono HBW.out.size))
                 have hlen:(L1++(al.take j).filter (fun a=>Op.bytesLess y.name.toList a.1.toList)).length≤4096:=by
                  have h1:=List.length_filter_le (fun a=>Op.bytesLess y.name.toList a.1.toList) (al.take j)
                  have h2:(al.take j).length≤al.length:=by rw[List.length_take];omega
                  rw[List.length_append];omega
                 clear ha hbx1;cases ht:Op.bytesLess y.name.toList a.1.toList with
                 | true =>
                   rw[ht,if_pos rfl]at HFT
                   go_wp2_with (at_builtin;refine wpList_append_own_at _ rfl _ _ 40 rfl W9.heap.size 79 i0 _ 2 32 Tryz.underlying40 hi hz0 hz1 hz2 rfl (by decide) v (L1++(al.take j).filter (fun a=>Op.bytesLess y.name.toList a.1.toList)).length (attrCells (L1++(al.take j).filter (fun a=>Op.bytesLess y.name.toList a.1.toList))) rfl ?qd0 ⟨wr.heap.size+1,0,none⟩ 1 1 [.string a.1,.string a.2] rfl ?qd1 ?qd2 ?qd3 ?qd4 ?qd5 ?qd6 ?_)
                   case qd0 => exact World.ownsRow.alloc (World.ownsRow.alloc HRW.out _) _
                   case qd1 => rfl
                   case qd2 =>
                    intro q u hq;have hnew:=heap_alloc_new (wr.alloc (.cells #[.string a.1,.string a.2] 79)) (.cells #[.string a.1,.string a.2] 79);rw[World.size_alloc]at hnew
                    rw[Addr.add_lit,Nat.zero_add,cH9 hnew]
                    simpa using hq
                   case qd3 =>
                    intro u hu;simp only[List.mem_cons,List.not_mem_nil,or_false]at hu
                    rcases hu with rfl|rfl<;>rfl
                   case qd4 => unfold maxLen;omega
                   case qd5 => omega
                   case qd6 => have:=HBW.out.size;simp;omega
                   intro v2 W2 hown hgr _ _;have hb2:Below wr.heap.size wr ((wr.alloc (.cells #[.string a.1,.string a.2] 79)).alloc (.cells #[.string a.1,.string a.2] 79)):=HBX1.out.alloc (by simp) _
                   have HB2:Hid (Below W9.heap.size W9 W2):=(HBW.out.trans (hb2.mono HBW.out.size)).grown hgr (by have:=HBW.out.size;simp;omega) (fun q hq=>(World.ownsRow.lt HRW.out q hq).1)
                   have HR2:Hid (W2.ownsRow W9.heap.size 79 2 v2 (L1++(al.take (j+1)).filter (fun a=>Op.bytesLess y.name.toList a.1.toList)).length (attrCells (L1++(al.take (j+1)).filter (fun a=>Op.bytesLess y.name.toList a.1.toList)))):=by
                    show World.ownsRow _ _ _ _ _ _ _
                    rw[HFT.out];rw[←List.append_assoc];rw[jB,List.length_append,List.length_append];exact hown
                   clear hown hgr hb2 HFT;go_wp2_with fail
                   go_roundg (al.length-(j+1))
                   case measure => omega
                   case rel => exact ⟨j+1,v2,by omega,by go_num,rfl,HR2.out,HB2.out⟩
                 | false =>
                   rw[ht,if_neg (by simp),List.append_nil]at HFT
                   have HB2:Hid (Below W9.heap.size W9 (wr.alloc (.cells #[.string a.1,.string a.2] 79))):=HBW.out.trans (HBX1.out.mono HBW.out.size)
                   have HR2:Hid ((wr.alloc (.cells #[.string a.1,.string a.2] 79)).ownsRow W9.heap.size 79 2 v (L1++(al.take (j+1)).filter (fun a=>Op.bytesLess y.name.toList a.1.toList)).length (attrCells (L1++(al.take (j+1)).filter (fun a=>Op.bytesLess y.name.toList a.1.toList)))):=by
                    show World.ownsRow _ _ _ _ _ _ _
                    rw[HFT.out];exact World.ownsRow.alloc HRW.out _
                   clear HFT;go_wp2_with fail
                   go_roundg (al.length-(j+1))
                   case measure => omega
                   case rel => exact ⟨j+1,v,by omega,by go_num,rfl,HR2.out,HB2.out⟩
               · have hjli : ¬ ((j : Int) < (al.length : Int)) := by omega
                 have hjj:j=al.length:=by omega
                 subst hjj;rw[List.take_length]at HRW
                 have HT9w:Hid (TI w (.slice (some ⟨b,o,none⟩) ns.length cap) #[.bool x.text,.string x.s,.slice aa x.attrs.length ac,.int .i64 x.parent,.slice ka x.kids.length kc] tb #[.bool x.text,.string s1,.slice aa4 al.length ac4,.slice none 0 0] (.slice aa4 al.length ac4) (al) wr):=HT9.out.later HBW.out;have HV9w:Hid (VB w tb vb s7 wr):=HV9.out.later HBW.out;have hAN:=Xe HRW.out;obtain ⟨an,cn,hvs⟩:=hAN.shape;rw[HST.out]at hvs hAN
                 have t2:wr.cell? ⟨tb,2,none⟩=some (.slice aa4 al.length ac4):=by rw[cH9 HT9w.out.tbx];rfl
                 have tf:wr.frozen? ⟨tb,2,none⟩=false:=fH9 HT9w.out.tbx _;subst hvs;have HTN:Hid _:=(HT9w.out.other (hAN.carry fun b hb=>⟨⟨by have:=HT9.out.lo;have:=qA HT9.out.tbx;omega,by have:=qA HT9.out.tbx;omega,hb.2⟩,rfl⟩)).put 2 (.slice an (qP n al y).length cn)
                 have HVN:Hid _:=HV9w.out.put 2 (.slice an (qP n al y).length cn);clear hAN HRW HT9w HV9w;go_wp2_with fail
                 go_roundg (l.length-(k+1))
                 case measure => omega
                 case rel => exact ⟨k+1,an,cn,by omega,by go_num,by rw[HFO.out];exact HTN.out,HVN.out⟩
      · have htb : (yt == (n : Int)) = false := by simpa using htg
        have HFE:Hid ((l.take (k+1)).foldl (qP n) x.attrs=al):=by show _=_;rw[HFO.out];unfold qP;rw[if_pos (Or.inl (by rw[HYT.out];exact htg))]
        clear HFO HOB HYT;go_wp2_with fail
        go_roundg (l.length-(k+1))
        case measure => omega
        case rel => exact ⟨k+1,aa4,ac4,by omega,by go_num,by rw[HFE.out];exact HT9.out,HV9.out⟩
    · have hkli : ¬ ((k : Int) < (l.length : Int)) := by omega
      have hkk:k=l.length:=by omega
      subst hkk;rw[List.take_length]at hTk
      clear hallen
      generalize hAL:l.foldl (qP n) x.attrs=AL at *
      have HTA:Hid (TI w (.slice (some ⟨b,o,none⟩) ns.length cap) #[.bool x.text,.string x.s,.slice aa x.attrs.length ac,.int .i64 x.parent,.slice ka x.kids.length kc] tb #[.bool x.text,.string s1,.slice aa4 AL.length ac4,.slice none 0 0] (.slice aa4 AL.length ac4) AL wr):=hTk;have HVA:Hid (VB w tb vb s7 wr):=hVk;clear hTk hVk hAL
      generalize x.text=tx at *
      generalize hs2:(if tx then ((yf l 7 n).getLast?.map (·.s)).getD s1 else s1)=s2 at *
      have HS2:Hid _:=hs2;clear hs2;have x0:wr.cell? ⟨w.heap.size+1,0,none⟩=some (.bool tx):=by rw[cH9 HTA.out.xbx];rfl
      go_upto_region 28 with fail
      go_cut [141] from 137 to 140 (fun c wz=>c=.bool (tx&&!e7)∧wz=wr)
      case first =>
       cases tx with
       | false =>
         go_wp2_with fail
         go_meet
         case rel => exact ⟨rfl,rfl⟩
       | true =>
         go_wp2_with fail
         go_meet
         case rel => exact ⟨by simp,rfl⟩
      case rest =>
      obtain ⟨rfl,hwz⟩:=hcut;rw[hwz];clear hwz
      generalize hcb:(tx&&!e7)=cb at *
      have HCB:Hid _:=hcb;clear hcb
      go_upto_if 141 with fail
      go_cut [] from 141 to 144 (fun wz=>TI w (.slice (some ⟨b,o,none⟩) ns.length cap) #[.bool tx,.string x.s,.slice aa x.attrs.length ac,.int .i64 x.parent,.slice ka x.kids.length kc] tb #[.bool tx,.string s2,.slice aa4 AL.length ac4,.slice none 0 0] (.slice aa4 AL.length ac4) (AL) wz∧VB w tb vb s7 wz)
      case first =>
       cases cb with
       | false =>
         obtain rfl:s1=s2:=by
          rw[←HS2.out];have h1:=HCB.out;cases tx with
          | false=>rfl
          | true =>
            cases e7 with
            | false=>cases h1
            | true=>rw[List.isEmpty_iff.1 HE7.out];rfl
         go_wp2_with fail
         go_meet
         case rel => exact ⟨HTA.out,HVA.out⟩
       | true =>
         obtain ⟨h1,h2⟩:tx=true∧e7=false:=by
          have h1:=HCB.out;cases tx<;>cases e7<;>simp at h1 ⊢
         obtain rfl:s7=s2:=by
          cases hL:(yf l 7 n).getLast? with
          | none=>have h3:=HE7.out;rw[List.getLast?_eq_none_iff.1 hL,h2]at h3;cases h3
          | some o7=>rw[←HS2.out,hL,h1];exact (HS7.out o7 hL).2
         clear h1 h2;have q4:=HVA.out.cell;have t1:wr.cell? ⟨tb,1,none⟩=some (.string s1):=by rw[cH9 HTA.out.tbx];rfl
         have tf:wr.frozen? ⟨tb,1,none⟩=false:=fH9 HTA.out.tbx _;have HT1:Hid _:=HTA.out.put 1 (.string s7);have HV1:Hid _:=HVA.out.put 1 (.string s7);go_wp2_with fail
         go_meet
         case rel => exact ⟨HT1.out,HV1.out⟩
      case rest =>
       obtain ⟨hTB,hVB⟩:=hcut;clear HTA HVA x0 HS2 HCB;have HTB:Hid (TI w (.slice (some ⟨b,o,none⟩) ns.length cap) #[.bool tx,.string x.s,.slice aa x.attrs.length ac,.int .i64 x.parent,.slice ka x.kids.length kc] tb #[.bool tx,.string s2,.slice aa4 AL.length ac4,.slice none 0 0] (.slice aa4 AL.length ac4) (AL) wc):=hTB;have HVB:Hid (VB w tb vb s7 wc):=hVB;clear hTB hVB
       generalize hKL:(if tx then [] else match (yf l 7 n).getLast? with
        | some o=>[valT o.s]
        | none=>qJ l 1 n++(x.kids.flatMap (fun k=>turnF f ns l k.toNat)++qJ l 2 n))=KL at *
       have HKL:Hid _:=hKL;clear hKL;have x0:wc.cell? ⟨w.heap.size+1,0,none⟩=some (.bool tx):=by rw[cH9 HTB.out.xbx];rfl
       go_upto_if 147 with fail
       go_cut [22,23,24,25,26,27,29] from 147 to 190 (fun _ _ _ _ _ _ _ wz=>∃ (ak:Option Addr) (nk ck:Nat),TI w (.slice (some ⟨b,o,none⟩) ns.length cap) #[.bool tx,.string x.s,.slice aa x.attrs.length ac,.int .i64 x.parent,.slice ka x.kids.length kc] tb #[.bool tx,.string s2,.slice aa4 AL.length ac4,.slice ak nk ck] (.slice aa4 AL.length ac4) (AL) wz∧qw (fun b=>w.heap.size+2≤b∧b≠tb∧b<wz.heap.size) wz (m+f+1) (.slice ak nk ck) KL)
       case first =>
        cases tx with
        | true =>
          obtain rfl:[]=KL:=HKL.out;have HTZ:Hid (qw (fun b=>w.heap.size+2≤b∧b≠tb∧b<wc.heap.size) wc (m+f+1) (.slice none 0 0) []):=qw.nil _ ⟨none,0,rfl,nZ9 _⟩
          clear HKL;go_wp2_with fail
          go_meet
          case rel => exact ⟨none,0,0,HTB.out,HTZ.out⟩
        | false =>
          go_wp2_with fail;refine Calls.mono (HOF.out 1 wc HTB.out.below) ?_;rintro e w11 ⟨v1,k1,t1,ca1,cl1,cc1,nm1,sx1,rfl,hG1,_,hb11⟩;have hb12:=Below.alloc1 w11 (.cells #[.int .i64 k1,.int .i64 t1,.slice ca1 cl1 cc1,.string nm1,.string sx1] 30);have hb112:=hb11.trans (hb12.mono hb11.size);have HP12:Hid _:=(PH.start HTB.out).later hb112;have HG12:Hid (TGr wc.heap.size m (w11.alloc (.cells #[.int .i64 k1,.int .i64 t1,.slice ca1 cl1 cc1,.string nm1,.string sx1] 30)) v1 (qJ l 1 n)):=hG1.later hb12;clear hG1 hb11 hb12 hb112;go_wp2_with fail
          generalize w11.alloc (.cells #[.int .i64 k1,.int .i64 t1,.slice ca1 cl1 cc1,.string nm1,.string sx1] 30)=W12 at *
          generalize w11.heap.size=bx1 at *
          refine Calls.mono (HOF.out 2 W12 HP12.out.below) ?_;rintro e w13 ⟨v2,k2,t2,ca2,cl2,cc2,nm2,sx2,rfl,hG2,_,hb13⟩;have hb14:=Below.alloc1 w13 (.cells #[.int .i64 k2,.int .i64 t2,.slice ca2 cl2 cc2,.string nm2,.string sx2] 30);have hb134:=hb13.trans (hb14.mono hb13.size);obtain ⟨av1,cv1,rfl,_,_⟩:=HG12.out.shape;obtain ⟨av2,cv2,rfl,_,_⟩:=hG2.shape;have HP14:Hid _:=HP12.out.later hb134;have HG14:Hid (TGr wc.heap.size (m+f) (w13.alloc (.cells #[.int .i64 k2,.int .i64 t2,.slice ca2 cl2 cc2,.string nm2,.string sx2] 30)) (.slice av1 (qJ l 1 n).length cv1) (qJ l 1 n)):=(HG12.out.later hb134).more (by omega)
          have HL14:Hid (qw (fun b=>W12.heap.size≤b∧b<w13.heap.size) (w13.alloc (.cells #[.int .i64 k2,.int .i64 t2,.slice ca2 cl2 cc2,.string nm2,.string sx2] 30)) (m+f+1) (.slice av2 (qJ l 2 n).length cv2) (qJ l 2 n)):=qw.carry (fun b hb=>⟨hb,hb14.block b hb.2⟩) (m+f+1) ((hG2.more (by omega:m≤m+f)).trees)
          have HO14:Hid (∀ g,(Value.slice av1 (qJ l 1 n).length cv1).ownBlock=some g→g<W12.heap.size):=fun g hg=>(HG12.out.block hg).2
          have hs1314:w13.heap.size<(w13.alloc (.cells #[.int .i64 k2,.int .i64 t2,.slice ca2 cl2 cc2,.string nm2,.string sx2] 30)).heap.size:=by simp
          have hs1213:=hb13.size;clear hG2 HG12 hb13 hb14 hb134;have t3:(w13.alloc (.cells #[.int .i64 k2,.int .i64 t2,.slice ca2 cl2 cc2,.string nm2,.string sx2] 30)).cell? ⟨tb,3,none⟩=some (.slice none 0 0):=by rw[cH9 HP14.out.tbx];rfl
          have tf3:(w13.alloc (.cells #[.int .i64 k2,.int .i64 t2,.slice ca2 cl2 cc2,.string nm2,.string sx2] 30)).frozen? ⟨tb,3,none⟩=false:=fH9 HP14.out.tbx _;have x4':(w13.alloc (.cells #[.int .i64 k2,.int .i64 t2,.slice ca2 cl2 cc2,.string nm2,.string sx2] 30)).cell? ⟨w.heap.size+1,4,none⟩=some (.slice ka x.kids.length kc):=by rw[cH9 (PH.ti HTB.out HP14.out).xbx];rfl
          have htw:w.heap.size+2≤tb:=HTB.out.lo;have htc:tb<wc.heap.size:=qA HTB.out.tbx;have hwc:w.heap.size≤wc.heap.size:=HTB.out.below.size;have hcW12:wc.heap.size≤W12.heap.size:=HP12.out.size;have HP15:Hid _:=HP14.out.put (by omega) 3 (.slice av1 (qJ l 1 n).length cv1)
          have HG15:Hid (TGr wc.heap.size (m+f) ((w13.alloc (.cells #[.int .i64 k2,.int .i64 t2,.slice ca2 cl2 cc2,.string nm2,.string sx2] 30)).setCell ⟨tb,3,none⟩ (.slice av1 (qJ l 1 n).length cv1)) (.slice av1 (qJ l 1 n).length cv1) (qJ l 1 n)):=HG14.out.keep (by simp) (fun b h1 _=>qd (by omega))
          have HL15:Hid (qw (fun b=>W12.heap.size≤b∧b<w13.heap.size) ((w13.alloc (.cells #[.int .i64 k2,.int .i64 t2,.slice ca2 cl2 cc2,.string nm2,.string sx2] 30)).setCell ⟨tb,3,none⟩ (.slice av1 (qJ l 1 n).length cv1)) (m+f+1) (.slice av2 (qJ l 2 n).length cv2) (qJ l 2 n)):=qw.carry (fun b hb=>⟨hb,qd (by omega)⟩) (m+f+1) HL14.out
          have x4s:((w13.alloc (.cells #[.int .i64 k2,.int .i64 t2,.slice ca2 cl2 cc2,.string nm2,.string sx2] 30)).setCell ⟨tb,3,none⟩ (.slice av1 (qJ l 1 n).length cv1)).cell? ⟨w.heap.size+1,4,none⟩=some (.slice ka x.kids.length kc):=by rw[cH9 (PH.ti HTB.out HP15.out).xbx];rfl
          have hsz15:w13.heap.size<((w13.alloc (.cells #[.int .i64 k2,.int .i64 t2,.slice ca2 cl2 cc2,.string nm2,.string sx2] 30)).setCell ⟨tb,3,none⟩ (.slice av1 (qJ l 1 n).length cv1)).heap.size:=by simp
          clear HG14 HL14 HP12;go_wp2_with fail
          generalize (w13.alloc (.cells #[.int .i64 k2,.int .i64 t2,.slice ca2 cl2 cc2,.string nm2,.string sx2] 30)).setCell ⟨tb,3,none⟩ (.slice av1 (qJ l 1 n).length cv1)=W15 at *
          clear t3 tf3 x4' HP14 hs1314
          go_loopg [167] x.kids.length (fun g i wr=>∃ (j:Nat) (ak:Option Addr) (ck:Nat),j+g=x.kids.length∧i=.int .i64 (j:Int)∧PH w wc tb #[.bool false,.string s2,.slice aa4 AL.length ac4,.slice ak (qJ l 1 n++(x.kids.take j).flatMap (fun k=>turnF f ns l k.toNat)).length ck] wr∧TGr wc.heap.size (m+f) wr (.slice ak (qJ l 1 n++(x.kids.take j).flatMap (fun k=>turnF f ns l k.toNat)).length ck) (qJ l 1 n++(x.kids.take j).flatMap (fun k=>turnF f ns l k.toNat))∧qw (fun b=>W12.heap.size≤b∧b<w13.heap.size) wr (m+f+1) (.slice av2 (qJ l 2 n).length cv2) (qJ l 2 n)∧(∀ g,(Value.slice ak (qJ l 1 n++(x.kids.take j).flatMap (fun k=>turnF f ns l k.toNat)).length ck).ownBlock=some g→g<W12.heap.size∨w13.heap.size≤g)∧w13.heap.size<wr.heap.size)
          case atStart =>
           refine ⟨0,av1,cv1,by omega,rfl,?_,?_,HL15.out,fun g hg=>Or.inl (HO14.out g (by simpa using hg)),hsz15⟩
           · rw[List.take_zero,List.flatMap_nil,List.append_nil];exact HP15.out
           · rw[List.take_zero,List.flatMap_nil,List.append_nil];exact HG15.out
          case round =>
           clear HP15 HG15 HL15 HO14 x4s hsz15;obtain ⟨j,ak,ck,hj,rfl,hP,hG,hL,hOw,hsr⟩:=hrel
           have hus:(qJ l 1 n++(x.kids.take j).flatMap (fun k=>turnF f ns l k.toNat)).length≤400000:=by
            have h1:=HCC.out 1 n;have h2:=VP HCC.out f ns (x.kids.take j);have h3:(x.kids.take j).length≤80:=by rw[List.length_take];omega
            rw[List.length_append];omega
           have HP:Hid _:=hP;have HG:Hid _:=hG;have HL:Hid _:=hL;have HW:Hid _:=hOw;clear hP hG hL hOw
           by_cases hjl:j<x.kids.length
           · have hjli : (j : Int) < (x.kids.length : Int) := by omega
             obtain ⟨u,hu⟩:∃ u,x.kids[j]?=some u:=⟨x.kids[j],by simp[hjl]⟩
             obtain ⟨kk,rfl,hk1,hk2⟩:=HKI.out u (List.mem_of_getElem? hu);have hPT:=PH.ti HTB.out HP.out;obtain ⟨kb,ko,kcap,hkv,_,hkbl,e1⟩:=(zM.later HKX.out hPT.below).at hu
             injection hkv with hkv1 hkv2 hkv3
             subst hkv1 hkv3
             have HSN:Hid (qJ l 1 n++(x.kids.take (j+1)).flatMap (fun k=>turnF f ns l k.toNat)=(qJ l 1 n++(x.kids.take j).flatMap (fun k=>turnF f ns l k.toNat))++turnF f ns l kk):=by
              show _=_
              have e:x.kids[j]=(kk:Int):=by simpa[hjl] using hu
              rw[List.take_succ_eq_append_getElem hjl,e,List.flatMap_append,List.append_assoc];simp
             have htl:=J6 HCC.out f ns kk
             generalize hUS:qJ l 1 n++(x.kids.take j).flatMap (fun k=>turnF f ns l k.toNat)=us at *
             generalize hLn:us.length=L at *
             have HLn:Hid _:=hLn;have d0:wr.cell? ⟨w.heap.size,0,none⟩=some (.slice (some ⟨b,o,none⟩) ns.length cap):=by rw[cH9 hPT.dbx];rfl
             have z3:wr.cell? ⟨tb,3,none⟩=some (.slice ak L ck):=by rw[cH9 HP.out.tbx];rfl
             have f3:wr.frozen? ⟨tb,3,none⟩=false:=fH9 HP.out.tbx 3
             have HCALL:Hid (Calls Tryz.prog 38 #[.agg #[.slice (some ⟨b,o,none⟩) ns.length cap],.slice la l.length lc,.int .i64 (kk:Int)] wr.drew fun e w'=>∃ r,e=.returned r∧(TGr wr.heap.size (m+f) w' r (turnF f ns l kk)∧Below wr.heap.size wr.drew w')):=by
              have hBd:=hPT.below.drew;exact HIH.out S T kk _ _ wr.drew hk2 (by omega) (HNN.out.later hBd) (HOO.out.later hBd)
             have HGD:Hid (TGr wc.heap.size (m+f) wr.drew (.slice ak L ck) us):=TGr.later HG.out (Below.refl _ wr).drew;have hbl:=HP.out.size;have htr:=qA HP.out.tbx;clear hu hPT hkv2 hUS hLn;go_wp2_with fail
             go_region_law (first
              | (refine zy (by rfl) 38 #[.agg #[.slice (some ⟨b,o,none⟩) ns.length cap],.slice la l.length lc,.int .i64 (kk:Int)] (by go_simp) _ HCALL.out ?_;intro r5 w5 hR5;obtain ⟨hG5,hb5⟩:=hR5;obtain ⟨a5,c5,rfl,_,_⟩:=hG5.shape;have z5:w5.cell? ⟨tb,3,none⟩=some (.slice ak L ck):=(hb5.cell (p:=⟨tb,3,none⟩) htr).trans z3)
              | (refine qaq (by rfl) (.tmp 172) (.tmp 176) (by rfl) wc.heap.size (m+f) (.slice ak L ck) (.slice a5 (turnF f ns l kk).length c5) us (turnF f ns l kk) (fun b=>wr.heap.size≤b∧b<w5.heap.size) (by simp[Act.eval]) (by simp[Act.eval]) (TGr.later HGD.out hb5) hG5.trees (fun b hb=>⟨by omega,hb.2,fun e=>by have:=(TGr.block HG.out e).2;omega⟩) (by have:=HLn.out;omega) (by have:=hb5.size;simp at this;omega) ?_;intro v6 w6 hG6 hgr6 hat6;obtain ⟨a6,c6,rfl,_,_⟩:=hG6.shape;have hP6:=(HP.out.later ((Below.refl _ wr).drew.trans (hb5.mono (nR9 _)))).grown hgr6 hwc htc (fun g hg=>(TGr.block HG.out hg).1);have z6:=cH9 hP6.tbx 3;have f6:=fH9 hP6.tbx 3;simp at z6))
             all_goals
              have e6:(us++turnF f ns l kk).length=us.length+(turnF f ns l kk).length:=List.length_append;have HP7:Hid (PH w wc tb #[.bool false,.string s2,.slice aa4 AL.length ac4,.slice a6 (us++turnF f ns l kk).length c6] (w6.setCell ⟨tb,3,none⟩ (.slice a6 (us++turnF f ns l kk).length c6))):=hP6.put (by omega) 3 _
              have HG7:Hid (TGr wc.heap.size (m+f) (w6.setCell ⟨tb,3,none⟩ (.slice a6 (us++turnF f ns l kk).length c6)) (.slice a6 (us++turnF f ns l kk).length c6) (us++turnF f ns l kk)):=hG6.keep (by simp) (fun b h1 _=>qd (by omega))
              have hs5:wr.heap.size≤w5.heap.size:=hb5.size;have HL7:Hid (qw (fun b=>W12.heap.size≤b∧b<w13.heap.size) (w6.setCell ⟨tb,3,none⟩ (.slice a6 (us++turnF f ns l kk).length c6)) (m+f+1) (.slice av2 (qJ l 2 n).length cv2) (qJ l 2 n)):=qw.carry (fun b hb=>⟨hb,by rw[qd (by omega),hgr6.block b (by omega) (fun e=>by rcases HW.out b e.symm with h|h<;>omega)];exact hb5.block b (by show b<wr.heap.size;omega)⟩) (m+f+1) HL.out
              have HW7:Hid (∀ g,(Value.slice a6 (us++turnF f ns l kk).length c6).ownBlock=some g→g<W12.heap.size∨w13.heap.size≤g):=by
               intro g hg
               rcases hat6 with h|h
               · exact HW.out g (h.symm.trans hg)
               · rw[h]at hg;cases hg;right;omega
              have hsz7:w13.heap.size<(w6.setCell ⟨tb,3,none⟩ (.slice a6 (us++turnF f ns l kk).length c6)).heap.size:=by have:=hgr6.size;simp;omega
              rw[e6]at HP7 HG7 HL7 HW7 hsz7
              clear e6 hG6 hgr6 hat6 hP6 z6 f6 hG5 hb5 z5;go_wp2_with fail
              go_roundg (x.kids.length-(j+1))
              case measure => omega
              case rel => exact ⟨j+1,a6,c6,by omega,by go_num,by rw[HSN.out,List.length_append];exact HP7.out,by rw[HSN.out,List.length_append];exact HG7.out,HL7.out,by rw[HSN.out,List.length_append];exact HW7.out,hsz7⟩
           · have hjli : ¬ ((j : Int) < (x.kids.length : Int)) := by omega
             have hjj:j=x.kids.length:=by omega
             subst hjj;rw[List.take_length]at HP HG HW hus
             have HKL2:Hid ((yf l 7 n).isEmpty=true→KL=(qJ l 1 n++x.kids.flatMap (fun k=>turnF f ns l k.toNat))++qJ l 2 n):=fun h=>by
              rw[←HKL.out,List.isEmpty_iff.1 h,List.append_assoc];rfl
             have HKL3:Hid ((yf l 7 n).isEmpty=false→KL=[valT s7]):=fun h=>by
              cases hL:(yf l 7 n).getLast? with
              | none=>rw[List.getLast?_eq_none_iff.1 hL]at h;cases h
              | some o7=>rw[←HKL.out,hL,(HS7.out o7 hL).2];rfl
             generalize hUS:qJ l 1 n++x.kids.flatMap (fun k=>turnF f ns l k.toNat)=us at *
             generalize hLn:us.length=L at *
             have HLn:Hid _:=hLn;have z3:wr.cell? ⟨tb,3,none⟩=some (.slice ak L ck):=by rw[cH9 HP.out.tbx];rfl
             have hbl:=HP.out.size;have HQE:Hid (∀ b,W12.heap.size≤b→b<w13.heap.size→wc.heap.size≤b∧b<wr.heap.size∧(Value.slice ak L ck).ownBlock≠some b):=fun b h1 h2=>⟨by omega,by omega,fun e=>by rcases HW.out b e with h|h<;>omega⟩
             clear hUS hLn HKL;go_wp2_with (at_builtin;refine zz rfl _ _ rfl wc.heap.size (m+f) (.slice ak L ck) (.slice av2 (qJ l 2 n).length cv2) us (qJ l 2 n) (fun b=>W12.heap.size≤b∧b<w13.heap.size) rfl rfl HG.out HL.out ?qe ?qf ?qg ?_)
             case qe => first|exact fun b hb=>HQE.out b hb.1 hb.2|exact fun b h1 h2=>HQE.out b h1 h2
             try (case qf=>have h1:=HLn.out;have h2:=HCC.out 2 n;omega)
             try (case qg=>omega)
             intro v6 w6 hG6 hgr6 hat6;obtain ⟨a6,c6,rfl,_,_⟩:=hG6.shape;have hP6:=HP.out.grown hgr6 hwc htc (fun g hg=>(TGr.block HG.out hg).1)
             have z6:w6.cell? ⟨tb,3,none⟩=some (.slice ak L ck):=by rw[cH9 hP6.tbx];rfl
             have f6:w6.frozen? ⟨tb,3,none⟩=false:=fH9 hP6.tbx 3;have HP7:Hid (PH w wc tb #[.bool false,.string s2,.slice aa4 AL.length ac4,.slice a6 (us++qJ l 2 n).length c6] (w6.setCell ⟨tb,3,none⟩ (.slice a6 (us++qJ l 2 n).length c6))):=hP6.put (by omega) 3 _
             have HG7:Hid (TGr wc.heap.size (m+f) (w6.setCell ⟨tb,3,none⟩ (.slice a6 (us++qJ l 2 n).length c6)) (.slice a6 (us++qJ l 2 n).length c6) (us++qJ l 2 n)):=hG6.keep (by simp) (fun b h1 _=>qd (by omega))
             have HE7':Hid _:=HE7.out;clear hG6 hgr6 hat6 hP6 z3 HW HL HG HP;cases e7 with
             | true =>
               obtain rfl:(us++qJ l 2 n)=KL:=(HKL2.out HE7'.out).symm;have HTF:Hid _:=PH.ti HTB.out HP7.out;have HTT:Hid (qw (fun b=>w.heap.size+2≤b∧b≠tb∧b<(w6.setCell ⟨tb,3,none⟩ (.slice a6 (us++qJ l 2 n).length c6)).heap.size) (w6.setCell ⟨tb,3,none⟩ (.slice a6 (us++qJ l 2 n).length c6)) (m+f+1) (.slice a6 (us++qJ l 2 n).length c6) (us++qJ l 2 n)):=qw.carry (fun b hb=>⟨⟨by omega,by omega,hb.2⟩,rfl⟩) (m+f+1) (TGr.trees HG7.out)
               have e6:(us++qJ l 2 n).length=us.length+(qJ l 2 n).length:=List.length_append;rw[e6]at HTF HTT
               clear e6 HP7 HG7 HKL2 HKL3;go_wp2_with fail
               go_meet
               case rel => exact ⟨a6,_,c6,HTF.out,HTT.out⟩
             | false =>
               obtain rfl:[valT s7]=KL:=(HKL3.out HE7'.out).symm;have e6:(us++qJ l 2 n).length=us.length+(qJ l 2 n).length:=List.length_append;rw[e6]at HP7
               have q4:=(PH.vb HVB.out HP7.out).cell;have hb8:=Below.alloc1 (w6.setCell ⟨tb,3,none⟩ (.slice a6 (us.length+(qJ l 2 n).length) c6)) (.cells #[.bool true,.string s7,.slice none 0 0,.slice none 0 0] 56);have HP8:Hid _:=HP7.out.later hb8;have hnew:=heap_alloc_new (w6.setCell ⟨tb,3,none⟩ (.slice a6 (us.length+(qJ l 2 n).length) c6)) (.cells #[.bool true,.string s7,.slice none 0 0,.slice none 0 0] 56);rw[World.size_setCell]at hnew
               have z8:((w6.setCell ⟨tb,3,none⟩ (.slice a6 (us.length+(qJ l 2 n).length) c6)).alloc (.cells #[.bool true,.string s7,.slice none 0 0,.slice none 0 0] 56)).cell? ⟨tb,3,none⟩=some (.slice a6 (us.length+(qJ l 2 n).length) c6):=by rw[cH9 HP8.out.tbx];rfl
               have f8:((w6.setCell ⟨tb,3,none⟩ (.slice a6 (us.length+(qJ l 2 n).length) c6)).alloc (.cells #[.bool true,.string s7,.slice none 0 0,.slice none 0 0] 56)).frozen? ⟨tb,3,none⟩=false:=fH9 HP8.out.tbx 3;have hw6:wc.heap.size≤w6.heap.size:=by have:=HP7.out.size;simpa using this
               have HTF:Hid _:=PH.ti HTB.out (HP8.out.put (by omega) 3 (.slice (some ⟨w6.heap.size,0,none⟩) 1 1))
               have HTT:Hid (qw (fun b=>w.heap.size+2≤b∧b≠tb∧b<(((w6.setCell ⟨tb,3,none⟩ (.slice a6 (us.length+(qJ l 2 n).length) c6)).alloc (.cells #[.bool true,.string s7,.slice none 0 0,.slice none 0 0] 56)).setCell ⟨tb,3,none⟩ (.slice (some ⟨w6.heap.size,0,none⟩) 1 1)).heap.size) (((w6.setCell ⟨tb,3,none⟩ (.slice a6 (us.length+(qJ l 2 n).length) c6)).alloc (.cells #[.bool true,.string s7,.slice none 0 0,.slice none 0 0] 56)).setCell ⟨tb,3,none⟩ (.slice (some ⟨w6.heap.size,0,none⟩) 1 1)) (m+f+1) (.slice (some ⟨w6.heap.size,0,none⟩) 1 1) [valT s7]):=by
                refine qw.carry (fun b hb=>?_) (m+f+1) (J5 (S:=fun _=>False) hnew qC.nil (qw.nil (m+f) ⟨none,0,rfl,nZ9 _⟩))
                rcases hb with hb|rfl
                · exact hb.elim
                · exact ⟨⟨by omega,by omega,by simp⟩,qd (by omega)⟩
               clear e6 HP7 HG7 HKL2 HKL3 HP8 hnew hb8;go_wp2_with fail
               go_meet
               case rel => exact ⟨some ⟨w6.heap.size,0,none⟩,1,1,HTF.out,HTT.out⟩
       case rest =>
        obtain ⟨ak,nk,ck,hTC,hKC⟩:=hcut;have HTC:Hid (TI w (.slice (some ⟨b,o,none⟩) ns.length cap) #[.bool tx,.string x.s,.slice aa x.attrs.length ac,.int .i64 x.parent,.slice ka x.kids.length kc] tb #[.bool tx,.string s2,.slice aa4 AL.length ac4,.slice ak nk ck] (.slice aa4 AL.length ac4) (AL) wc):=hTC;have HKC:Hid (qw (fun b=>w.heap.size+2≤b∧b≠tb∧b<wc.heap.size) wc (m+f+1) (.slice ak nk ck) KL):=hKC
        clear hTC hKC HTB HVB HKL x0;go_wp2_with fail;refine Calls.mono (HOF.out 3 wc HTC.out.below) ?_;rintro e w23 ⟨v3,k3,t3,ca3,cl3,cc3,nm3,sx3,rfl,hG3,_,hb23⟩;obtain ⟨a3,c3,rfl,_,_⟩:=hG3.shape;have hbA3:=Below.alloc1 w23 (.cells #[.int .i64 k3,.int .i64 t3,.slice ca3 cl3 cc3,.string nm3,.string sx3] 30);have hbB3:=hb23.trans (hbA3.mono hb23.size);have HBN3:Hid (Below wc.heap.size wc (w23.alloc (.cells #[.int .i64 k3,.int .i64 t3,.slice ca3 cl3 cc3,.string nm3,.string sx3] 30))):=hbB3;have HBW33:Hid (Below w.heap.size w (w23.alloc (.cells #[.int .i64 k3,.int .i64 t3,.slice ca3 cl3 cc3,.string nm3,.string sx3] 30))):=HTC.out.below.trans (hbB3.mono HTC.out.below.size);have HG3:Hid (TGr wc.heap.size m (w23.alloc (.cells #[.int .i64 k3,.int .i64 t3,.slice ca3 cl3 cc3,.string nm3,.string sx3] 30)) (.slice a3 (qJ l 3 n).length c3) (qJ l 3 n)):=hG3.later hbA3;have hsz3:wc.heap.size<(w23.alloc (.cells #[.int .i64 k3,.int .i64 t3,.slice ca3 cl3 cc3,.string nm3,.string sx3] 30)).heap.size:=by have:=hb23.size;simp;omega
        clear hG3 hb23 hbA3 hbB3;go_wp2_with fail
        generalize (w23.alloc (.cells #[.int .i64 k3,.int .i64 t3,.slice ca3 cl3 cc3,.string nm3,.string sx3] 30))=W33 at *
        generalize w23.heap.size=bq3 at *
        refine Calls.mono (HOF.out 4 W33 HBW33.out) ?_;rintro e w24 ⟨v4,k4,t4,ca4,cl4,cc4,nm4,sx4,rfl,hG4,_,hb24⟩;obtain ⟨a4,c4,rfl,_,_⟩:=hG4.shape;have hbA4:=Below.alloc1 w24 (.cells #[.int .i64 k4,.int .i64 t4,.slice ca4 cl4 cc4,.string nm4,.string sx4] 30);have hbB4:=hb24.trans (hbA4.mono hb24.size);have HBN4:Hid (Below W33.heap.size W33 (w24.alloc (.cells #[.int .i64 k4,.int .i64 t4,.slice ca4 cl4 cc4,.string nm4,.string sx4] 30))):=hbB4;have HBW34:Hid (Below w.heap.size w (w24.alloc (.cells #[.int .i64 k4,.int .i64 t4,.slice ca4 cl4 cc4,.string nm4,.string sx4] 30))):=HBW33.out.trans (hbB4.mono HBW33.out.size);have HG4:Hid (TGr W33.heap.size m (w24.alloc (.cells #[.int .i64 k4,.int .i64 t4,.slice ca4 cl4 cc4,.string nm4,.string sx4] 30)) (.slice a4 (qJ l 4 n).length c4) (qJ l 4 n)):=hG4.later hbA4;have hsz4:W33.heap.size<(w24.alloc (.cells #[.int .i64 k4,.int .i64 t4,.slice ca4 cl4 cc4,.string nm4,.string sx4] 30)).heap.size:=by have:=hb24.size;simp;omega
        clear hG4 hb24 hbA4 hbB4;go_wp2_with fail
        generalize (w24.alloc (.cells #[.int .i64 k4,.int .i64 t4,.slice ca4 cl4 cc4,.string nm4,.string sx4] 30))=W34 at *
        generalize w24.heap.size=bq4 at *
        refine Calls.mono (HOF.out 6 W34 HBW34.out) ?_;rintro e w26 ⟨v6,k6,t6,ca6,cl6,cc6,nm6,sx6,rfl,hG6,_,hb26⟩;obtain ⟨a6,c6,rfl,_,_⟩:=hG6.shape;have hbA6:=Below.alloc1 w26 (.cells #[.int .i64 k6,.int .i64 t6,.slice ca6 cl6 cc6,.string nm6,.string sx6] 30);have hbB6:=hb26.trans (hbA6.mono hb26.size);have HBN6:Hid (Below W34.heap.size W34 (w26.alloc (.cells #[.int .i64 k6,.int .i64 t6,.slice ca6 cl6 cc6,.string nm6,.string sx6] 30))):=hbB6;have HBW36:Hid (Below w.heap.size w (w26.alloc (.cells #[.int .i64 k6,.int .i64 t6,.slice ca6 cl6 cc6,.string nm6,.string sx6] 30))):=HBW34.out.trans (hbB6.mono HBW34.out.size);have HG6:Hid (TGr W34.heap.size m (w26.alloc (.cells #[.int .i64 k6,.int .i64 t6,.slice ca6 cl6 cc6,.string nm6,.string sx6] 30)) (.slice a6 (qJ l 6 n).length c6) (qJ l 6 n)):=hG6.later hbA6;have hsz6:W34.heap.size<(w26.alloc (.cells #[.int .i64 k6,.int .i64 t6,.slice ca6 cl6 cc6,.string nm6,.string sx6] 30)).heap.size:=by have:=hb26.size;simp;omega
        clear hG6 hb26 hbA6 hbB6;go_wp2_with fail
        generalize (w26.alloc (.cells #[.int .i64 k6,.int .i64 t6,.slice ca6 cl6 cc6,.string nm6,.string sx6] 30))=W36 at *
        generalize w26.heap.size=bq6 at *
        refine Calls.mono (HOF.out 5 W36 HBW36.out) ?_;rintro e w25 ⟨v5,k5,t5,ca5,cl5,cc5,nm5,sx5,rfl,hG5,_,hb25⟩;obtain ⟨a5,c5,rfl,_,_⟩:=hG5.shape;have hbA5:=Below.alloc1 w25 (.cells #[.int .i64 k5,.int .i64 t5,.slice ca5 cl5 cc5,.string nm5,.string sx5] 30);have hbB5:=hb25.trans (hbA5.mono hb25.size);have HBN5:Hid (Below W36.heap.size W36 (w25.alloc (.cells #[.int .i64 k5,.int .i64 t5,.slice ca5 cl5 cc5,.string nm5,.string sx5] 30))):=hbB5;have HBW35:Hid (Below w.heap.size w (w25.alloc (.cells #[.int .i64 k5,.int .i64 t5,.slice ca5 cl5 cc5,.string nm5,.string sx5] 30))):=HBW36.out.trans (hbB5.mono HBW36.out.size);have HG5:Hid (TGr W36.heap.size m (w25.alloc (.cells #[.int .i64 k5,.int .i64 t5,.slice ca5 cl5 cc5,.string nm5,.string sx5] 30)) (.slice a5 (qJ l 5 n).length c5) (qJ l 5 n)):=hG5.later hbA5;have hsz5:W36.heap.size<(w25.alloc (.cells #[.int .i64 k5,.int .i64 t5,.slice ca5 cl5 cc5,.string nm5,.string sx5] 30)).heap.size:=by have:=hb25.size;simp;omega
        clear hG5 hb25 hbA5 hbB5
        generalize he6:(yf l 6 n).isEmpty=e6 at *
        generalize he5:(yf l 5 n).isEmpty=e5 at *
        clear he6 he5;have hww:=HTC.out.below.size;have HB45:Hid (Below W33.heap.size W33 (w25.alloc (.cells #[.int .i64 k5,.int .i64 t5,.slice ca5 cl5 cc5,.string nm5,.string sx5] 30))):=(HBN4.out.trans (HBN6.out.mono (by omega))).trans (HBN5.out.mono (by omega))
        have HB65:Hid (Below W34.heap.size W34 (w25.alloc (.cells #[.int .i64 k5,.int .i64 t5,.slice ca5 cl5 cc5,.string nm5,.string sx5] 30))):=HBN6.out.trans (HBN5.out.mono (by omega))
        have HBC5:Hid (Below wc.heap.size wc (w25.alloc (.cells #[.int .i64 k5,.int .i64 t5,.slice ca5 cl5 cc5,.string nm5,.string sx5] 30))):=HBN3.out.trans (HB45.out.mono (by omega))
        have HX3:Hid (TGr w.heap.size (m+(f+1)) (w25.alloc (.cells #[.int .i64 k5,.int .i64 t5,.slice ca5 cl5 cc5,.string nm5,.string sx5] 30)) (.slice a3 (qJ l 3 n).length c3) (qJ l 3 n)):=((HG3.out.later HB45.out).more (by omega)).lower (by omega)
        have HX4:Hid (qw (fun b=>W33.heap.size≤b∧b<W34.heap.size) (w25.alloc (.cells #[.int .i64 k5,.int .i64 t5,.slice ca5 cl5 cc5,.string nm5,.string sx5] 30)) ((m+(f+1))+1) (.slice a4 (qJ l 4 n).length c4) (qJ l 4 n)):=qw.carry (fun b hb=>⟨hb,HB65.out.block b hb.2⟩) ((m+(f+1))+1) ((HG4.out.more (by omega)).trees)
        have HX6:Hid (qw (fun b=>W34.heap.size≤b∧b<W36.heap.size) (w25.alloc (.cells #[.int .i64 k5,.int .i64 t5,.slice ca5 cl5 cc5,.string nm5,.string sx5] 30)) ((m+(f+1))+1) (.slice a6 (qJ l 6 n).length c6) (qJ l 6 n)):=qw.carry (fun b hb=>⟨hb,HBN5.out.block b hb.2⟩) ((m+(f+1))+1) ((HG6.out.more (by omega)).trees)
        have HO3:Hid (∀ g,(Value.slice a3 (qJ l 3 n).length c3).ownBlock=some g→wc.heap.size≤g∧g<W33.heap.size):=fun g hg=>TGr.block HG3.out hg
        have HTC5:Hid _:=HTC.out.later HBC5.out;have HKC5:Hid (qw (fun b=>w.heap.size+2≤b∧b≠tb∧b<wc.heap.size) (w25.alloc (.cells #[.int .i64 k5,.int .i64 t5,.slice ca5 cl5 cc5,.string nm5,.string sx5] 30)) (m+f+1) (.slice ak nk ck) KL):=qw.carry (fun b hb=>⟨hb,HBC5.out.block b hb.2.2⟩) (m+f+1) HKC.out
        have HAT5:Hid (qC (fun b=>w.heap.size+2≤b∧b≠tb∧b<wc.heap.size) (w25.alloc (.cells #[.int .i64 k5,.int .i64 t5,.slice ca5 cl5 cc5,.string nm5,.string sx5] 30)) (.slice aa4 AL.length ac4) AL):=qC.carry HTC.out.att (fun b hb=>⟨hb,HBC5.out.block b hb.2.2⟩)
        have hA5s:(w25.alloc (.cells #[.int .i64 k5,.int .i64 t5,.slice ca5 cl5 cc5,.string nm5,.string sx5] 30)).heap.size=w25.heap.size+1:=by simp
        have hsz5':W36.heap.size<w25.heap.size+1:=by omega
        have HA5:Hid _:=hA5s;have htl:=qA HTC.out.tbx;have c3n:=HCC.out 3 n;have c4n:=HCC.out 4 n;have c6n:=HCC.out 6 n;clear HG3 HG4 HG6 HG5 HBN3 HBN4 HBN6 HBN5 HB45 HB65 HTC HKC;cases e6 with
        | false =>
          have HRS:Hid (turnF (f+1) ns l n=(qJ l 3 n++qJ l 6 n)++qJ l 4 n):=by show _=_;rw[HT.out,List.append_assoc];rfl
          go_wp2_with (at_builtin;refine zz rfl _ _ rfl w.heap.size (m+(f+1)) (.slice a3 (qJ l 3 n).length c3) (.slice a6 (qJ l 6 n).length c6) (qJ l 3 n) (qJ l 6 n) (fun b=>W34.heap.size≤b∧b<W36.heap.size) rfl rfl HX3.out HX6.out ?qh ?qi ?qj ?_)
          try (case qh=>first|exact fun b hb=>⟨by omega,by omega,fun e=>by have:=(HO3.out b e).2;omega⟩|exact fun b h1 h2=>⟨by omega,by omega,fun e=>by have:=(HO3.out b e).2;omega⟩)
          try (case qi=>omega)
          try (case qj=>omega)
          intro v7' w40 hG40 hgr40 hat40;obtain ⟨a40,c40,rfl,_,_⟩:=hG40.shape;have hn40:(qJ l 3 n++qJ l 6 n).length=(qJ l 3 n).length+(qJ l 6 n).length:=List.length_append
          generalize (qJ l 3 n++qJ l 6 n).length=n40 at *
          have HN40:Hid _:=hn40;clear hn40;have HX4':Hid (qw (fun b=>W33.heap.size≤b∧b<W34.heap.size) w40 ((m+(f+1))+1) (.slice a4 (qJ l 4 n).length c4) (qJ l 4 n)):=qw.carry (fun b hb=>⟨hb,hgr40.block b (by omega) (fun e=>by have:=(HO3.out b e.symm).2;omega)⟩) ((m+(f+1))+1) HX4.out
          have HG40:Hid _:=hG40
          have HO40:Hid (∀ g,(Value.slice a40 n40 c40).ownBlock=some g→g<W33.heap.size∨W34.heap.size≤g):=by
           intro g hg
           rcases hat40 with h|h
           · exact Or.inl (HO3.out g (h.symm.trans hg)).2
           · rw[h]at hg;cases hg;right;omega
          have HB40:Hid (Below w.heap.size w w40):=HBW35.out.grown hgr40 (by omega) (fun g hg=>by have:=(HO3.out g hg).1;omega)
          have hs40:=hgr40.size;clear hG40 hgr40 hat40 HX4 HX6 HX3;go_wp2_with (at_builtin;refine zz rfl _ _ rfl w.heap.size (m+(f+1)) (.slice a40 n40 c40) (.slice a4 (qJ l 4 n).length c4) (qJ l 3 n++qJ l 6 n) (qJ l 4 n) (fun b=>W33.heap.size≤b∧b<W34.heap.size) rfl rfl HG40.out HX4'.out ?qk ?ql ?qm ?_)
          try (case qk=>first|exact fun b hb=>⟨by omega,by omega,fun e=>by rcases HO40.out b e with h|h<;>omega⟩|exact fun b h1 h2=>⟨by omega,by omega,fun e=>by rcases HO40.out b e with h|h<;>omega⟩)
          case ql => have h3:=HCC.out 3 n;have h4:=HCC.out 4 n;have h6:=HCC.out 6 n;first|omega|(rw[List.length_append];omega)|(simp only[List.length_append,List.length_cons,List.length_nil];omega)
          try (case qm=>omega)
          intro v8' w41 hG41 hgr41 _;have HG41:Hid _:=hG41;have HB41:Hid (Below w.heap.size w w41):=HB40.out.grown hgr41 (by omega) (fun g hg=>(TGr.block HG40.out hg).1)
          clear hG41 hgr41 HG40 HB40;go_wp2_with fail;go_ret;exact ⟨_,rfl,by rw[HRS.out];first|exact HG41.out|(rw[List.append_assoc];exact HG41.out),HB41.out⟩
        | true =>
          cases e5 with
          | false =>
            have HRS:Hid (turnF (f+1) ns l n=qJ l 3 n++qJ l 4 n):=by show _=_;rw[HT.out];rfl
            go_wp2_with (at_builtin;refine zz rfl _ _ rfl w.heap.size (m+(f+1)) (.slice a3 (qJ l 3 n).length c3) (.slice a4 (qJ l 4 n).length c4) (qJ l 3 n) (qJ l 4 n) (fun b=>W33.heap.size≤b∧b<W34.heap.size) rfl rfl HX3.out HX4.out ?qn ?qo ?qp ?_)
            try (case qn=>first|exact fun b hb=>⟨by omega,by omega,fun e=>by have:=(HO3.out b e).2;omega⟩|exact fun b h1 h2=>⟨by omega,by omega,fun e=>by have:=(HO3.out b e).2;omega⟩)
            try (case qo=>omega)
            try (case qp=>omega)
            intro v8' w41 hG41 hgr41 _;have HG41:Hid _:=hG41;have HB41:Hid (Below w.heap.size w w41):=HBW35.out.grown hgr41 (by omega) (fun g hg=>by have:=(HO3.out g hg).1;omega)
            clear hG41 hgr41;go_wp2_with fail;go_ret;exact ⟨_,rfl,by rw[HRS.out];first|exact HG41.out|(rw[List.append_assoc];exact HG41.out),HB41.out⟩
          | true =>
            have HRS:Hid (turnF (f+1) ns l n=(qJ l 3 n++[⟨tx,s2,AL,KL⟩])++qJ l 4 n):=by show _=_;rw[HT.out,List.append_assoc];rfl
            have q0:(w25.alloc (.cells #[.int .i64 k5,.int .i64 t5,.slice ca5 cl5 cc5,.string nm5,.string sx5] 30)).cell? ⟨tb,0,none⟩=some (.bool tx):=by rw[cH9 HTC5.out.tbx];rfl
            have q1:(w25.alloc (.cells #[.int .i64 k5,.int .i64 t5,.slice ca5 cl5 cc5,.string nm5,.string sx5] 30)).cell? ⟨tb,1,none⟩=some (.string s2):=by rw[cH9 HTC5.out.tbx];rfl
            have q2:(w25.alloc (.cells #[.int .i64 k5,.int .i64 t5,.slice ca5 cl5 cc5,.string nm5,.string sx5] 30)).cell? ⟨tb,2,none⟩=some (.slice aa4 AL.length ac4):=by rw[cH9 HTC5.out.tbx];rfl
            have q3:(w25.alloc (.cells #[.int .i64 k5,.int .i64 t5,.slice ca5 cl5 cc5,.string nm5,.string sx5] 30)).cell? ⟨tb,3,none⟩=some (.slice ak nk ck):=by rw[cH9 HTC5.out.tbx];rfl
            have hb50:=Below.alloc1 (w25.alloc (.cells #[.int .i64 k5,.int .i64 t5,.slice ca5 cl5 cc5,.string nm5,.string sx5] 30)) (.cells #[.bool tx,.string s2,.slice aa4 AL.length ac4,.slice ak nk ck] 56);have HT1:Hid (qw (fun b=>(w.heap.size+2≤b∧b≠tb∧b<wc.heap.size)∨b=(w25.alloc (.cells #[.int .i64 k5,.int .i64 t5,.slice ca5 cl5 cc5,.string nm5,.string sx5] 30)).heap.size) ((w25.alloc (.cells #[.int .i64 k5,.int .i64 t5,.slice ca5 cl5 cc5,.string nm5,.string sx5] 30)).alloc (.cells #[.bool tx,.string s2,.slice aa4 AL.length ac4,.slice ak nk ck] 56)) ((m+(f+1))+1) (.slice (some ⟨(w25.alloc (.cells #[.int .i64 k5,.int .i64 t5,.slice ca5 cl5 cc5,.string nm5,.string sx5] 30)).heap.size,0,none⟩) 1 1) [⟨tx,s2,AL,KL⟩]):=J5 (heap_alloc_new _ _) (qC.carry HAT5.out (fun b hb=>⟨hb,hb50.block b (by omega)⟩)) (qw.carry (fun b hb=>⟨hb,hb50.block b (by omega)⟩) (m+f+1) HKC5.out)
            have HX3':Hid (TGr w.heap.size (m+(f+1)) ((w25.alloc (.cells #[.int .i64 k5,.int .i64 t5,.slice ca5 cl5 cc5,.string nm5,.string sx5] 30)).alloc (.cells #[.bool tx,.string s2,.slice aa4 AL.length ac4,.slice ak nk ck] 56)) (.slice a3 (qJ l 3 n).length c3) (qJ l 3 n)):=HX3.out.later hb50;have HX4':Hid (qw (fun b=>W33.heap.size≤b∧b<W34.heap.size) ((w25.alloc (.cells #[.int .i64 k5,.int .i64 t5,.slice ca5 cl5 cc5,.string nm5,.string sx5] 30)).alloc (.cells #[.bool tx,.string s2,.slice aa4 AL.length ac4,.slice ak nk ck] 56)) ((m+(f+1))+1) (.slice a4 (qJ l 4 n).length c4) (qJ l 4 n)):=qw.carry (fun b hb=>⟨hb,hb50.block b (by omega)⟩) ((m+(f+1))+1) HX4.out
            have HB50:Hid (Below w.heap.size w ((w25.alloc (.cells #[.int .i64 k5,.int .i64 t5,.slice ca5 cl5 cc5,.string nm5,.string sx5] 30)).alloc (.cells #[.bool tx,.string s2,.slice aa4 AL.length ac4,.slice ak nk ck] 56))):=HBW35.out.alloc HBW35.out.size _;have hs50:(w25.alloc (.cells #[.int .i64 k5,.int .i64 t5,.slice ca5 cl5 cc5,.string nm5,.string sx5] 30)).heap.size<((w25.alloc (.cells #[.int .i64 k5,.int .i64 t5,.slice ca5 cl5 cc5,.string nm5,.string sx5] 30)).alloc (.cells #[.bool tx,.string s2,.slice aa4 AL.length ac4,.slice ak nk ck] 56)).heap.size:=by simp
            have hA5:(w25.alloc (.cells #[.int .i64 k5,.int .i64 t5,.slice ca5 cl5 cc5,.string nm5,.string sx5] 30)).heap.size=w25.heap.size+1:=by simp
            rw[hA5]at HT1
            have HAS:Hid _:=hA5;clear hb50 HX3 HX4 HX6 HTC5 HKC5 HAT5 hA5;go_wp2_with (at_builtin;refine zz rfl _ _ rfl w.heap.size (m+(f+1)) (.slice a3 (qJ l 3 n).length c3) (.slice (some ⟨w25.heap.size+1,0,none⟩) 1 1) (qJ l 3 n) [(⟨tx,s2,AL,KL⟩:Tr)] _ rfl rfl HX3'.out HT1.out ?qq ?qr ?qs ?_)
            case qq =>
             intro b hb;have has:=HAS.out
             rcases hb with hb|hb
             · exact ⟨by omega,by omega,fun e=>by have:=(HO3.out b e).1;omega⟩
             · exact ⟨by omega,by omega,fun e=>by have:=(HO3.out b e).2;omega⟩
            try (case qr=>simp;omega)
            try (case qs=>omega)
            intro v7' w40 hG40 hgr40 hat40;obtain ⟨a40,c40,rfl,_,_⟩:=hG40.shape;have hn40:(qJ l 3 n++[(⟨tx,s2,AL,KL⟩:Tr)]).length=(qJ l 3 n).length+1:=by simp
            generalize (qJ l 3 n++[(⟨tx,s2,AL,KL⟩:Tr)]).length=n40 at *
            have HN40:Hid _:=hn40;clear hn40;have HX5:Hid (qw (fun b=>W33.heap.size≤b∧b<W34.heap.size) w40 ((m+(f+1))+1) (.slice a4 (qJ l 4 n).length c4) (qJ l 4 n)):=qw.carry (fun b hb=>⟨hb,hgr40.block b (by omega) (fun e=>by have:=(HO3.out b e.symm).2;omega)⟩) ((m+(f+1))+1) HX4'.out
            have HG40:Hid _:=hG40
            have HO40:Hid (∀ g,(Value.slice a40 n40 c40).ownBlock=some g→g<W33.heap.size∨W34.heap.size≤g):=by
             intro g hg
             rcases hat40 with h|h
             · exact Or.inl (HO3.out g (h.symm.trans hg)).2
             · rw[h]at hg;cases hg;right;omega
            have HB40:Hid (Below w.heap.size w w40):=HB50.out.grown hgr40 (by have:=HB50.out.size;omega) (fun g hg=>by have:=(HO3.out g hg).1;omega)
            have hs40:=hgr40.size;clear hG40 hgr40 hat40 HX4' HX3' HT1 q0 q1 q2 q3;go_wp2_with (at_builtin;refine zz rfl _ _ rfl w.heap.size (m+(f+1)) (.slice a40 n40 c40) (.slice a4 (qJ l 4 n).length c4) (qJ l 3 n++[(⟨tx,s2,AL,KL⟩:Tr)]) (qJ l 4 n) (fun b=>W33.heap.size≤b∧b<W34.heap.size) rfl rfl HG40.out HX5.out ?qt ?qu ?qv ?_)
            try (case qt=>first|exact fun b hb=>⟨by omega,by omega,fun e=>by rcases HO40.out b e with h|h<;>omega⟩|exact fun b h1 h2=>⟨by omega,by omega,fun e=>by rcases HO40.out b e with h|h<;>omega⟩)
            case qu => have h3:=HCC.out 3 n;have h4:=HCC.out 4 n;have h6:=HCC.out 6 n;first|omega|(rw[List.length_append];omega)|(simp only[List.length_append,List.length_cons,List.length_nil];omega)
            try (case qv=>omega)
            intro v8' w41 hG41 hgr41 _;have HG41:Hid _:=hG41;have HB41:Hid (Below w.heap.size w w41):=HB40.out.grown hgr41 (by omega) (fun g hg=>(TGr.block HG40.out hg).1)
            clear hG41 hgr41 HG40 HB40;go_wp2_with fail;go_ret;exact ⟨_,rfl,by rw[HRS.out];first|exact HG41.out|(rw[List.append_assoc];exact HG41.out),HB41.out⟩
theorem ZF (m:Nat)(ns:List Nd)(l:List Opn)(hg:qM ns=true)(hfew:∀ x∈ns,x.attrs.length≤4398046511104)(hC:∀ kd tg,(qJ l kd tg).length≤1600)(hsm:∀ x∈l,Small (m+1) x.content)(hl20:l.length≤20):∀ f,Yq m ns l f
 | 0=>by intro S T n vd vl w hn hf _ _;omega
 | f+1=>J7 m f ns l hg hfew hC hsm hl20 (ZF m ns l hg hfew hC hsm hl20 f)
end
def Qj (n:Nat):Prop:=∀ (S:Nat→Prop)(v:Value)(ts:List Tr)(w:World),qw S w n v ts→TexN n ts →
 Calls Tryz.prog 51 #[v] w fun e w'=>e=.returned (.bool (rgt n ts))∧Below w.heap.size w w'
theorem right_zero:Qj 0:=by
 intro S v ts w h _;obtain ⟨rfl,a,cap,rfl,hm⟩:=h;unfold maxLen at hm
 go_enter Tryz.func51,Tryz.ntmps51
 go_wp2_with fail
 go_loopg [8] 0 (fun _ i wr=>i=.int .i64 0∧wr=w)
 case atStart => exact ⟨rfl,rfl⟩
 case round =>
  obtain ⟨rfl,rfl⟩:=hrel;go_wp2_with fail;go_ret;exact ⟨rfl,Below.refl _ _⟩
theorem ZR {l:List Tr}{k:Nat}{t:Tr}(h:l[k]?=some t):zr l (k+1)=t.text:=by simp[zr,h]
set_option maxHeartbeats 1000000 in
theorem XP (n:Nat)(h:Qj n):Qj (n+1):=by
 intro S v ts w h1 htx;have H:Hid (Qj n):=h;have HTx:Hid (TexN (n+1) ts):=htx;clear h htx;obtain ⟨a,cap,rfl,hle,hm,h4⟩:=h1;unfold maxLen at hm
 go_enter Tryz.func51,Tryz.ntmps51
 go_wp2_with fail
 go_loopg [3,8] ts.length (fun g p i wr=>∃ k:Nat,k+g=ts.length∧p=.bool (zr ts k)∧i=.int .i64 k∧rgt (n+1) ts=rgL (rgt n) (zr ts k) (ts.drop k)∧Below w.heap.size w wr)
 case atStart => exact ⟨0,by omega,rfl,rfl,rfl,Below.refl _ _⟩
 case round =>
  obtain ⟨k,hk,rfl,rfl,hrg,hB⟩:=hrel;have hsz:=hB.size
  by_cases hlt:k<ts.length
  · have hne : ts ≠ [] := by intro e;subst e;simp at hlt
    obtain ⟨b,o,rfl,hs,hcc⟩:=h4 hne;obtain ⟨t,ht⟩:∃ t,ts[k]?=some t:=⟨ts[k],by simp[hlt]⟩
    obtain ⟨va,vk,c0,c1,c2,c3,hat,hkt⟩:=hcc k t ht;obtain ⟨aa,ac,rfl⟩:=hat.shape;obtain ⟨ka,kc,rfl,_,hkm⟩:=qw.shape n hkt;have hbl:b<w.heap.size:=World.block_lt_of_cell? w _ c0;rw[←hB.cell (p:=⟨b,o+k*4,none⟩) hbl]at c0
    rw[←hB.cell (p:=⟨b,o+k*4+1,none⟩) hbl]at c1
    rw[←hB.cell (p:=⟨b,o+k*4+2,none⟩) hbl]at c2
    rw[←hB.cell (p:=⟨b,o+k*4+3,none⟩) hbl]at c3
    have hblr:b<wr.heap.size:=by omega
    have hdr:ts.drop k=t::ts.drop (k+1):=by
     rw[List.drop_eq_getElem_cons hlt];congr 1;simpa[hlt] using ht
    have HP:Hid (zr ts (k+1)=t.text):=ZR ht;obtain ⟨hts,hta,htk⟩:=HTx.out t (List.mem_of_getElem? ht);rw[hdr]at hrg
    have HR:Hid (rgt (n+1) ts=(qT t&&!(zr ts k&&t.text)&&(t.text||rgt n t.kids)&&rgL (rgt n) t.text (ts.drop (k+1)))):=hrg
    have HA:Hid (qC S w (.slice aa t.attrs.length ac) t.attrs):=hat;have HK:Hid (qw S w n (.slice ka t.kids.length kc) t.kids):=hkt;have HTA:Hid (∀ x∈t.attrs,x.1.size≤maxLen∧x.2.size≤maxLen):=hta;have HTK:Hid (TexN n t.kids):=htk;clear h4 hcc ht hdr hrg hat hkt hta htk;unfold maxLen at hkm
    cases htt:t.text with
    | true =>
      rw[htt]at c0
      have HPn:Hid (zr ts (k+1)=true):=HP.out.trans htt;have hB1:Below w.heap.size w (wr.alloc (.cells #[.bool true,.string t.s,.slice aa t.attrs.length ac,.slice ka t.kids.length kc] 56)):=hB.alloc hsz _;have hX1:=YX.start wr (.bool true) (.string t.s) (.slice aa t.attrs.length ac) (.slice ka t.kids.length kc) 56;cases hpt:zr ts k with
      | true =>
        have HF:Hid (rgt (n+1) ts=false):=by show _=_;rw[HR.out,htt,hpt];simp
        clear HR HP htt;go_wp2_with fail;go_ret;exact ⟨by rw[HF.out];rfl,hB1⟩
      | false =>
        cases he:t.s.toList.isEmpty with
        | true =>
          have HF:Hid (rgt (n+1) ts=false):=by show _=_;rw[HR.out,htt];simp[qT,htt,he]
          clear HR HP htt;go_wp2_with fail;go_ret;exact ⟨by rw[HF.out];rfl,hB1⟩
        | false =>
          have HR2:Hid (rgt (n+1) ts=(zx t.s&&decide (t.attrs.length=0)&&decide (t.kids.length=0)&&rgL (rgt n) true (ts.drop (k+1)))):=by
           show _=_;rw[HR.out,hpt,htt];simp[qT,htt,he]
          clear HR HP htt;go_wp2_with fail
          generalize wr.alloc (.cells #[.bool true,.string t.s,.slice aa t.attrs.length ac,.slice ka t.kids.length kc] 56)=W1 at hB1 hX1 ⊢
          refine (xw t.s W1 hts).mono ?_;rintro e W2 ⟨rfl,hb2⟩;have hX2:=hX1.later hb2 hX1.lt;have hB2:Below w.heap.size w W2:=hB1.trans (hb2.mono hB1.size);have f0:=hX2.at0;have f2:=hX2.at2;have f3:=hX2.at3;cases hp:zx t.s with
          | false =>
            have HF:Hid (rgt (n+1) ts=false):=by show _=_;rw[HR2.out,hp];simp
            clear HR2;go_wp2_with fail;go_ret;exact ⟨by rw[HF.out];rfl,hB2⟩
          | true =>
            by_cases hal:t.attrs.length=0
            · have hal' : ((t.attrs.length : Int) != 0) = false := by simp[hal]
              have HL:Hid (t.attrs.length=0):=hal;clear hal
              by_cases hkl:t.kids.length=0
              · have hkl' : ((t.kids.length : Int) != 0) = false := by simp[hkl]
                have HF:Hid (rgt (n+1) ts=rgL (rgt n) true (ts.drop (k+1))):=by show _=_;rw[HR2.out,hp,HL.out,hkl];simp
                clear HR2 hkl;go_wp2_with fail
                go_roundg (ts.length-(k+1))
                case measure => omega
                case rel => exact ⟨k+1,by omega,by rw[HPn.out],by go_num,by rw[HPn.out];exact HF.out,hB2⟩
              · have hkl' : ((t.kids.length : Int) != 0) = true := by rw[bne_iff_ne];omega
                have HF:Hid (rgt (n+1) ts=false):=by show _=_;rw[HR2.out];simp[hkl]
                clear HR2 hkl;go_wp2_with fail;go_ret;exact ⟨by rw[HF.out];rfl,hB2⟩
            · have hal' : ((t.attrs.length : Int) != 0) = true := by rw[bne_iff_ne];omega
              have HF:Hid (rgt (n+1) ts=false):=by show _=_;rw[HR2.out];simp[hal]
              clear HR2 hal;go_wp2_with fail;go_ret;exact ⟨by rw[HF.out];rfl,hB2⟩
    | false =>
      rw[htt]at c0
      have HPn:Hid (zr ts (k+1)=false):=HP.out.trans htt
      have HR2:Hid (rgt (n+1) ts=(zI t.s&&yd t.attrs&&rgt n t.kids&&rgL (rgt n) false (ts.drop (k+1)))):=by
       show _=_;rw[HR.out,htt];simp[qT,htt]
      have hB1:Below w.heap.size w (wr.alloc (.cells #[.bool false,.string t.s,.slice aa t.attrs.length ac,.slice ka t.kids.length kc] 56)):=hB.alloc hsz _;have hX1:=YX.start wr (.bool false) (.string t.s) (.slice aa t.attrs.length ac) (.slice ka t.kids.length kc) 56;clear HR HP htt;go_wp2_with fail
      generalize wr.alloc (.cells #[.bool false,.string t.s,.slice aa t.attrs.length ac,.slice ka t.kids.length kc] 56)=W1 at hB1 hX1 ⊢
      refine (Qb t.s W1 (by omega)).mono ?_
      rintro e W2 ⟨rfl,hb2⟩;have hX2:=hX1.later hb2 hX1.lt;have hB2:Below w.heap.size w W2:=hB1.trans (hb2.mono hB1.size);have f2:=hX2.at2;cases hn:zI t.s with
      | false =>
        have HF:Hid (rgt (n+1) ts=false):=by show _=_;rw[HR2.out,hn];simp
        clear HR2;go_wp2_with fail;go_ret;exact ⟨by rw[HF.out];rfl,hB2⟩
      | true =>
        go_wp2_with fail;refine (JA S _ t.attrs W2 (HA.out.later hB2) HTA.out).mono ?_;rintro e W3 ⟨rfl,hb3⟩;have hX3:=hX2.later hb3 hX2.lt;have hB3:Below w.heap.size w W3:=hB2.trans (hb3.mono hB2.size);have g3:=hX3.at3;cases ha:yd t.attrs with
        | false =>
          have HF:Hid (rgt (n+1) ts=false):=by show _=_;rw[HR2.out,ha];simp
          clear HR2;go_wp2_with fail;go_ret;exact ⟨by rw[HF.out];rfl,hB3⟩
        | true =>
          go_wp2_with fail;refine (H.out S _ t.kids W3 (qw.later hB3 n HK.out) HTK.out).mono ?_;rintro e W4 ⟨rfl,hb4⟩;have hX4:=hX3.later hb4 hX3.lt;have hB4:Below w.heap.size w W4:=hB3.trans (hb4.mono hB3.size);have i0:=hX4.at0;cases hr:rgt n t.kids with
          | false =>
            have HF:Hid (rgt (n+1) ts=false):=by show _=_;rw[HR2.out,hr];simp
            clear HR2;go_wp2_with fail;go_ret;exact ⟨by rw[HF.out];rfl,hB4⟩
          | true =>
            have HF:Hid (rgt (n+1) ts=rgL (rgt n) false (ts.drop (k+1))):=by show _=_;rw[HR2.out,hn,ha,hr];simp
            clear HR2;go_wp2_with fail
            go_roundg (ts.length-(k+1))
            case measure => omega
            case rel => exact ⟨k+1,by omega,by rw[HPn.out],by go_num,by rw[HPn.out];exact HF.out,hB4⟩
  · have hd : ts.drop k = [] := List.drop_eq_nil_of_le (by omega)
    rw[hd]at hrg
    have HR:Hid (rgt (n+1) ts=true):=hrg;clear hrg hd;go_wp2_with fail;go_ret;exact ⟨by rw[HR.out];rfl,hB⟩
theorem Yi (n:Nat):Qj n:=by
 induction n with
 | zero=>exact right_zero
 | succ n ih=>exact XP n ih
set_option maxHeartbeats 1000000 in
theorem Xy (S:Nat→Prop)(n:Nat)(va vk:Value)(t:Tr)(w:World)(h:qC S w va t.attrs)(hk:qw S w n vk t.kids)(hc:cnt (n+1) [t]≤1048576)(hx:TexN (n+1) [t]) :
 Calls Tryz.prog 75 #[.agg #[.bool t.text,.string t.s,va,vk]] w fun e w'=>e=.returned (.bool (zh t))∧Below w.heap.size w w':=by
 have HG:Hid (zh t=_):=jY (qw.deep n hk);have hb0:∀ X,Below w.heap.size w (w.alloc X):=Below.alloc1 w;have HS:∀ (W:World),Below w.heap.size w W→Hid _:=fun W hW=>ZD S n va vk t W (h.later hW) (qw.later hW n hk) hc
 have HS':Hid (∀ (W:World),Below w.heap.size w W→Hid _):=HS;clear HS;have HR:Hid (∀ (W:World) (v:Value),qw (fun b=>S b∨w.heap.size≤b) W (n+1) v [t]→Calls Tryz.prog 51 #[v] W fun e w'=>e=.returned (.bool (rgt (n+1) [t]))∧Below W.heap.size W w'):=fun W v hv=>Yi (n+1) _ v [t] W hv hx
 have HA:Hid (qC S w va t.attrs):=h;have HK:Hid (qw S w n vk t.kids):=hk;obtain ⟨aa,ac,rfl⟩:=h.shape;obtain ⟨ka,kc,rfl,_,_⟩:=qw.shape n hk;obtain ⟨D,hD⟩:∃ D,dep (n+1) [t]=D:=⟨_,rfl⟩;obtain ⟨C,hC⟩:∃ C,cnt (n+1) [t]=C:=⟨_,rfl⟩;have hDC:=dep_cnt (n+1) [t];rw[hD,hC]at hDC
 rw[hC]at hc
 have HG2:Hid (zh t=(!t.text&&decide (D<9)&&decide (C<81)&&rgt (n+1) [t])):=by show _=_;rw[HG.out,hD,hC]
 have HS2:Hid (∀ (W:World),Below w.heap.size w W→Calls Tryz.prog 50 #[.agg #[.bool t.text,.string t.s,.slice aa t.attrs.length ac,.slice ka t.kids.length kc]] W fun e w'=>e=.returned (.tuple #[.int .i64 (D:Int),.int .i64 (C:Int)])∧Below W.heap.size W w'):=by
  intro W hW;have:=HS'.out W hW;rw[hD,hC]at this
  exact this
 clear HS' HG hD hC h hk hx;have hX1:=YX.start w (.bool t.text) (.string t.s) (.slice aa t.attrs.length ac) (.slice ka t.kids.length kc) 56;have hB1:=hb0 (.cells #[.bool t.text,.string t.s,.slice aa t.attrs.length ac,.slice ka t.kids.length kc] 56)
 go_enter Tryz.func75,Tryz.ntmps75
 go_wp2_with fail
 generalize w.alloc (.cells #[.bool t.text,.string t.s,.slice aa t.attrs.length ac,.slice ka t.kids.length kc] 56)=W1 at hB1 hX1 ⊢
 refine (HS2.out W1 hB1).mono ?_;rintro e W2 ⟨rfl,hb2⟩;have hX2:=hX1.later hb2 hX1.lt;have hB2:Below w.heap.size w W2:=hB1.trans (hb2.mono hB1.size);have f0:=hX2.at0;have f1:=hX2.at1;have f2:=hX2.at2;have f3:=hX2.at3;cases htt:t.text with
 | true =>
   have HF:Hid (zh t=false):=by show _=_;rw[HG2.out,htt];rfl
   rw[htt]at f0
   clear HG2 htt;go_wp2_with fail;go_ret;exact ⟨by rw[HF.out];rfl,hB2⟩
 | false =>
   rw[htt]at f0
   by_cases hd9:D<9
   · by_cases hc81 : C < 81
     · have HF : Hid (zh t = rgt (n + 1) [t]) := by show _ = _;rw[HG2.out, htt];simp[hd9, hc81]
       have HT0:Hid (t.text=false):=htt;clear HG2 htt;go_wp2_with fail;have hb3:Below W2.heap.size W2 (W2.alloc (.cells #[.bool false,.string t.s,.slice aa t.attrs.length ac,.slice ka t.kids.length kc] 56)):=Below.alloc1 _ _;have hB3:=hB2.trans (hb3.mono hB2.size)
       have hT:qw (fun b=>S b∨w.heap.size≤b) (W2.alloc (.cells #[.bool false,.string t.s,.slice aa t.attrs.length ac,.slice ka t.kids.length kc] 56)) (n+1) (.slice (some ⟨W2.heap.size,0,none⟩) 1 1) [t]:=by
        have hT0:=qw.of_block (S:=S) (n:=n) (len:=1) (cap:=1) (ts:=[t]) (e:=56) (fz:=(0,0)) (qs:=[(false,t.s,.slice aa t.attrs.length ac,.slice ka t.kids.length kc)]) (heap_alloc_new W2 (.cells #[.bool false,.string t.s,.slice aa t.attrs.length ac,.slice ka t.kids.length kc] 56)) rfl rfl rfl (nR9 _) (by unfold maxLen;simp) (by
         intro i q t' hq ht';cases i with
         | zero =>
           simp at hq ht'
           subst hq ht';exact ⟨HT0.out.symm,rfl,HA.out.later hB3,qw.later hB3 n HK.out⟩
         | succ i=>simp at ht')
        refine qw.carry (fun b hb=>⟨?_,rfl⟩) (n+1) hT0
        rcases hb with hb|hb
        · exact Or.inl hb
        · right;have:=hB2.size;omega
       refine (HR.out _ _ hT).mono ?_;rintro e W3 ⟨rfl,hb4⟩;have hB4:Below w.heap.size w W3:=hB3.trans (hb4.mono (by simp;have:=hB2.size;omega))
       go_wp2_with fail;go_ret;exact ⟨by rw[HF.out];rfl,hB4⟩
     · have HF : Hid (zh t = false) := by show _ = _;rw[HG2.out];simp[hc81]
       clear HG2 htt;go_wp2_with fail;go_ret;exact ⟨by rw[HF.out];rfl,hB2⟩
   · have HF : Hid (zh t = false) := by show _ = _;rw[HG2.out];simp[hd9]
     clear HG2 htt;go_wp2_with fail;go_ret;exact ⟨by rw[HF.out];rfl,hB2⟩
theorem Jb (n:Nat)(ts:List Tr)(k:Nat):cnt n (ts.take k)≤cnt n ts:=by
 have h:cnt n ts=cnt n (ts.take k)+cnt n (ts.drop k):=by rw[←zG,List.take_append_drop]
 omega
theorem qaS (n:Nat){ts:List Tr}{t:Tr}(h:t∈ts):dep (n+1) [t]≤dep (n+1) ts:=by
 obtain ⟨a,b,rfl⟩:=List.append_of_mem h;have e:a++t::b=a++([t]++b):=rfl;rw[e,yr,yr];omega
set_option maxHeartbeats 1000000 in
theorem ZO (S:Nat→Prop)(n:Nat)(v:Value)(ts:List Tr)(w:World)(h:qw S w (n+1) v ts)(hc:cnt (n+1) ts≤1048576)(hx:TexN (n+1) ts) :
 Calls Tryz.prog 24 #[v] w fun e w'=>e=.returned (.bool (q9 ts))∧Below w.heap.size w w':=by
 have HG:Hid (q9 ts=(decide (dep (n+1) ts≤8)&&decide (cnt (n+1) ts≤80)&&rgt (n+1) ts)):=jL (qw.deep (n+1) h);have HT:Hid (qw S w (n+1) v ts):=h;have HX:Hid (TexN (n+1) ts):=hx;clear hx;obtain ⟨a,cap,rfl,hle,hm,h4⟩:=h;unfold maxLen at hm
 go_enter Tryz.func24,Tryz.ntmps24
 go_wp2_with fail
 go_loopg [3,10] ts.length (fun g c i wr=>∃ (k:Nat) (cc:Nat),k+g=ts.length∧c=.int .i64 (cc:Int)∧cc=cnt (n+1) (ts.take k)∧i=.int .i64 k∧dep (n+1) (ts.take k)≤8∧Below w.heap.size w wr)
 case atStart => exact ⟨0,0,by omega,rfl,by rw[List.take_zero,qQ],rfl,by rw[List.take_zero,yK];omega,Below.refl _ _⟩
 case round =>
  obtain ⟨k,cc,hk,rfl,hcc0,rfl,hdk,hB⟩:=hrel;have hsz:=hB.size;have hcb:cc≤1048576:=by have:=Jb (n+1) ts k;omega
  have HCC:Hid (cc=cnt (n+1) (ts.take k)):=hcc0;have HDK:Hid (dep (n+1) (ts.take k)≤8):=hdk;clear hcc0 hdk
  by_cases hlt:k<ts.length
  · have hne : ts ≠ [] := by intro e;subst e;simp at hlt
    obtain ⟨b,o,rfl,hs,hcc⟩:=h4 hne;obtain ⟨t,ht⟩:∃ t,ts[k]?=some t:=⟨ts[k],by simp[hlt]⟩
    obtain ⟨va,vk,c0,c1,c2,c3,hat,hkt⟩:=hcc k t ht;obtain ⟨aa,ac,rfl⟩:=hat.shape;obtain ⟨ka,kc,rfl,_,hkm⟩:=qw.shape n hkt;have hbl:b<w.heap.size:=World.block_lt_of_cell? w _ c0;rw[←hB.cell (p:=⟨b,o+k*4,none⟩) hbl]at c0
    rw[←hB.cell (p:=⟨b,o+k*4+1,none⟩) hbl]at c1
    rw[←hB.cell (p:=⟨b,o+k*4+2,none⟩) hbl]at c2
    rw[←hB.cell (p:=⟨b,o+k*4+3,none⟩) hbl]at c3
    have hblr:b<wr.heap.size:=by omega
    have hsn:ts.take (k+1)=ts.take k++[t]:=by
     rw[List.take_succ_eq_append_getElem hlt];congr 2;simpa[hlt] using ht
    have hct:=Jb (n+1) ts (k+1);rw[hsn,zG,←HCC.out]at hct
    have hB1:Below w.heap.size w (wr.alloc (.cells #[.bool t.text,.string t.s,.slice aa t.attrs.length ac,.slice ka t.kids.length kc] 56)):=hB.alloc hsz _;have HSz:=ZD S n (.slice aa t.attrs.length ac) (.slice ka t.kids.length kc) t _ (hat.later hB1) (qw.later hB1 n hkt) (by omega)
    have hmem:t∈ts:=List.mem_of_getElem? ht;have HM:Hid (dep (n+1) [t]≤dep (n+1) ts):=qaS n hmem;have HC1:Hid (cnt (n+1) (ts.take (k+1))=cc+cnt (n+1) [t]):=by show _=_;rw[hsn,zG,←HCC.out]
    have HD1:Hid (dep (n+1) (ts.take (k+1))=max (dep (n+1) (ts.take k)) (dep (n+1) [t])):=by show _=_;rw[hsn,yr]
    have hDC:=dep_cnt (n+1) [t];have HS2:Hid _:=HSz;clear HSz h4 hcc ht hsn hat hkt hmem;obtain ⟨D,hD⟩:∃ D,dep (n+1) [t]=D:=⟨_,rfl⟩;obtain ⟨C,hC⟩:∃ C,cnt (n+1) [t]=C:=⟨_,rfl⟩;rw[hD,hC]at HS2 hDC
    rw[hC]at HC1 hct
    rw[hD]at HD1 HM
    clear hD hC;go_wp2_with fail;refine (Calls.mono HS2.out ?_);rintro e W2 ⟨rfl,hb2⟩;have hB2:Below w.heap.size w W2:=hB1.trans (hb2.mono hB1.size)
    by_cases hd8:8<D
    · have HF:Hid (q9 ts=false):=by
       show _=_
       rw[HG.out];have:¬ dep (n+1) ts≤8:=by have:=HM.out;omega
       simp[this]
      go_wp2_with fail;go_ret;exact ⟨by rw[HF.out];rfl,hB2⟩
    · go_wp2_with fail
      go_roundg (ts.length-(k+1))
      case measure => omega
      case rel => exact ⟨k+1,cc+C,by omega,by go_num,HC1.out.symm,by go_num,by rw[HD1.out];have:=HDK.out;omega,hB2⟩
  · have hkk : k = ts.length := by omega
    subst hkk;rw[List.take_length]at HCC HDK
    by_cases h80:cc≤80
    · have HF:Hid (q9 ts=rgt (n+1) ts):=by
       show _=_
       rw[HG.out];have h1:dep (n+1) ts≤8:=HDK.out;have h2:cnt (n+1) ts≤80:=by have:=HCC.out;omega
       simp[h1,h2]
      go_wp2_with fail;refine (Yi (n+1) S _ ts wr (qw.later hB (n+1) HT.out) HX.out).mono ?_;rintro e W2 ⟨rfl,hb2⟩;have hB2:Below w.heap.size w W2:=hB.trans (hb2.mono hB.size);go_wp2_with fail;go_ret;exact ⟨by rw[HF.out];rfl,hB2⟩
    · have HF:Hid (q9 ts=false):=by
       show _=_
       rw[HG.out];have h2:¬ cnt (n+1) ts≤80:=by have:=HCC.out;omega
       simp[h2]
      go_wp2_with fail;go_ret;exact ⟨by rw[HF.out];rfl,hB⟩
end Go.Proofs.YtnppmdpmippcoaaGreatDoor
