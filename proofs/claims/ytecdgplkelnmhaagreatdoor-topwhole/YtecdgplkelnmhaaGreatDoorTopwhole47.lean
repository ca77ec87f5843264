/- Bundled: PairT SameR RefSame EqualA Alike. What each says stands ahead of it. -/
import Derived.Test.YtecdgplkelnmhaaGreatDoorBundle19
namespace Go.Proofs.YtecdgplkelnmhaaGreatDoor
open Go.ChangeShapes Go.WideShapes Go.ChangeAt Go.RowKit
set_option maxRecDepth 100000
def pairCells:List (Value × Value)→List Value
 | []=>[]
 | x::r=>x.1::x.2::pairCells r
theorem xC (l:List (Value × Value)):(pairCells l).length=l.length*2:=by
 induction l with
 | nil=>rfl
 | cons x r ih=>simp[pairCells,ih];omega
theorem yw (l m:List (Value × Value)):pairCells (l++m)=pairCells l++pairCells m:=by
 induction l with
 | nil=>rfl
 | cons x r ih=>simp[pairCells,ih]
structure Pst (B cb:Nat) (w:World) (v:Value) (G:List (Value × Value)):Prop where
 base:B≤cb
 held:w.heap[cb]?=some (.cells #[v] 74 (0,0))
 own:w.ownsRow B 89 2 v G.length (pairCells G)
 slices:∀ x∈G,(∃ a l c,x.1=.slice a l c)∧∃ a l c,x.2=.slice a l c
theorem Pst.lt {B cb:Nat}{w:World}{v:Value}{G:List (Value × Value)}(h:Pst B cb w v G):cb<w.heap.size:=by
 rcases Nat.lt_or_ge cb w.heap.size with h'|h'
 · exact h'
 · have:=h.held;simp[Array.getElem?_eq_none h']at this
theorem Pst.apart {B cb:Nat}{w:World}{v:Value}{G:List (Value × Value)}(h:Pst B cb w v G):v.ownBlock≠some cb:=by
 intro e;obtain ⟨_,c,fz,hc⟩:=qe h.own e;rw[h.held]at hc
 simp at hc
theorem Pst.shape {B cb:Nat}{w:World}{v:Value}{G:List (Value × Value)}(h:Pst B cb w v G):∃ a c,v=.slice a G.length c:=by
 rcases h.own.2 with ⟨hv,h0⟩|⟨g,cap,cur,hv,_⟩
 · exact ⟨none,0,by rw[hv,h0]⟩
 · exact ⟨_,_,hv⟩
theorem Pst.later {B cb:Nat}{w w':World}{v:Value}{G:List (Value × Value)}(h:Pst B cb w v G)(hb:Below w.heap.size w w'):Pst B cb w' v G :=
 ⟨h.base,by rw[hb.block cb h.lt];exact h.held,qn h.own hb,h.slices⟩
theorem qce (B cb:Nat)(w:World)(v:Value)(G:List (Value × Value))(x y:Value)(h:Pst B cb w v (G++[(x,y)]))(hBw:B≤w.heap.size) :
 Calls Tryz.prog 40 #[.pointer (some ⟨cb,0,none⟩)] w fun e w'=>e=.returned (.agg #[x,y])∧∃ v',Pst B cb w' v' G∧v'.ownBlock=v.ownBlock∧(∀ b,b<w.heap.size→b≠cb→w'.heap[b]?=w.heap[b]?)∧Below B w w':=by
 have hap:=h.apart;have hlt:=h.lt;obtain ⟨hB,hj,hown,hsl⟩:=h;obtain ⟨⟨xa,xl,xc,hx⟩,ya,yl,yc,hy⟩:=hsl (x,y) (by simp)
 simp only at hx hy
 subst hx;subst hy
 rcases hown.2 with ⟨_,h0⟩|⟨g,cap,cur,rfl,hg,hh,hc,hm,hs,ht⟩
 · simp at h0
 have hlen:(G++[(Value.slice xa xl xc,Value.slice ya yl yc)]).length=G.length+1:=by simp
 rw[hlen]at hown hj hc ht
 have c2:w.cell? ⟨cb,0,none⟩=some (.slice (some ⟨g,0,none⟩) (G.length+1) cap):=by rw[cH9 hj];rfl
 have f2:w.frozen? ⟨cb,0,none⟩=false:=fH9 hj 0;have hgl:=xC G
 have k0:w.cell? ⟨g,G.length*2,none⟩=some (.slice xa xl xc):=by
  rw[World.ownsRow.cellAt hown _ (by omega),yw,List.getElem?_append_right (by omega),hgl];simp[pairCells]
 have k1:w.cell? ⟨g,G.length*2+1,none⟩=some (.slice ya yl yc):=by
  rw[World.ownsRow.cellAt hown _ (by omega),yw,List.getElem?_append_right (by omega),hgl];simp[pairCells]
 have hgs:g<w.heap.size:=World.block_lt_of_cell? w _ k0;unfold maxLen at hm
 have HJ:Hid (w.heap[cb]?=some (.cells #[.slice (some ⟨g,0,none⟩) (G.length+1) cap] 74 (0,0))):=hj;clear hj hgl
 go_enter Tryz.func40,Tryz.ntmps40
 go_wp2_with fail
 have hk:∀ b,b<w.heap.size→b≠cb→(((w.setCell ⟨cb,0,none⟩ (.slice (some ⟨g,0,none⟩) G.length cap)).alloc (.cells #[.slice xa xl xc,.slice ya yl yc] 89)).alloc (.cells #[.slice xa xl xc,.slice ya yl yc] 89)).heap[b]?=w.heap[b]?:=by
  intro b hb hbc;rw[Lib.alloc_old _ _ _ (by simp;omega),Lib.alloc_old _ _ _ (by simp;omega),Below.heap_setCell _ _ _ _ hbc]
 have hgc:g≠cb:=fun e=>hap (by rw[e];rfl)
 refine bodyPost_ret (v:=.agg #[.slice xa xl xc,.slice ya yl yc]) (by simp[results,Tryz.results40,go_sem]) rfl ⟨rfl,.slice (some ⟨g,0,none⟩) G.length cap,⟨hB,?_,?_,fun y hy=>hsl y (by simp[hy])⟩,?_,hk,?_⟩
 · rw[Lib.alloc_old _ _ _ (by simp;omega), Lib.alloc_old _ _ _ (by simp;omega)]
   simp[World.setCell,Array.getElem?_modify,HJ.out]
 · rw[yw]at hown
   exact qj (QT hown (xC G)) fun b hb=>by cases hb;exact hk g hgs hgc
 · rfl
 · exact ((((Below.refl B w).setCell hB _).alloc (by simp;omega) _).alloc (by simp;omega) _)
end Go.Proofs.YtecdgplkelnmhaaGreatDoor
/- topiaryref.SameTrees, SameTree and sameAttrs: what is the same is told to be the same. No condition. -/
namespace Go.Proofs.YtecdgplkelnmhaaGreatDoor
open Go.ChangeShapes Go.WideShapes Go.ChangeAt Go.RowKit
set_option maxRecDepth 100000
end Go.Proofs.YtecdgplkelnmhaaGreatDoor
namespace Go.Proofs.YtecdgplkelnmhaaGreatDoor
open Go.ChangeShapes Go.WideShapes Go.ChangeAt Go.RowKit
set_option maxRecDepth 100000
theorem qdG {α:Type}{l m:List α}(hl:l.length=m.length)(h:l.take l.length=m.take l.length):l=m:=by
 rw[List.take_length,hl,List.take_length]at h;exact h
theorem qby (S S':Nat→Prop)(v v':Value)(l m:List (ByteArray × ByteArray))(w:World)(h1:qk S w v l)(h2:qk S' w v' m) :
 Calls Tryz.prog 90 #[v,v'] w fun e w'=>e=.returned (.bool (decide (l=m)))∧Below w.heap.size w w':=by
 obtain ⟨a,cap,rfl,_,hm,h5⟩:=h1;obtain ⟨a',cap',rfl,_,_,h5'⟩:=h2;unfold maxLen at hm
 by_cases hlen:l.length=m.length
 · have hne : ((l.length : Int) != m.length) = false := by simp[hlen]
   have HL:Hid (l.length=m.length):=hlen;clear hlen
   go_enter Tryz.func90,Tryz.ntmps90
   go_wp2_with fail
   go_loopg [13] l.length (fun g i wr=>∃ k:Nat,k+g=l.length∧i=.int .i64 k∧Below w.heap.size w wr∧l.take k=m.take k)
   case atStart => exact ⟨0,by omega,rfl,Below.refl _ _,by simp⟩
   case round =>
    obtain ⟨k,hk,rfl,hB,htk⟩:=hrel;have HTK:Hid (l.take k=m.take k):=htk;clear htk
    by_cases hlt:k<l.length
    · have hne1 : l ≠ [] := by intro e;subst e;simp at hlt
      have hlt':k<m.length:=by have:=HL.out;omega
      have hne2:m≠[]:=by intro e;subst e;simp at hlt'
      obtain ⟨b,o,rfl,hs,hcc⟩:=h5 hne1;obtain ⟨b',o',rfl,hs',hcc'⟩:=h5' hne2;obtain ⟨x,hx⟩:∃ x,l[k]?=some x:=⟨l[k],by simp[hlt]⟩
      obtain ⟨y,hy⟩:∃ y,m[k]?=some y:=⟨m[k],by simp[hlt']⟩
      obtain ⟨c0,c1⟩:=hcc k x hx;obtain ⟨c0',c1'⟩:=hcc' k y hy;have hbl:b<w.heap.size:=World.block_lt_of_cell? w _ c0;have hbl':b'<w.heap.size:=World.block_lt_of_cell? w _ c0';rw[←hB.cell (p:=⟨b,o+k*2,none⟩) hbl]at c0
      rw[←hB.cell (p:=⟨b,o+k*2+1,none⟩) hbl]at c1
      rw[←hB.cell (p:=⟨b',o'+k*2,none⟩) hbl']at c0'
      rw[←hB.cell (p:=⟨b',o'+k*2+1,none⟩) hbl']at c1'
      have hlti:(k:Int)<(l.length:Int):=by omega
      have hlti':(k:Int)<(m.length:Int):=by omega
      have hstep:x=y→l.take (k+1)=m.take (k+1):=by
       intro e;have e1:l.take (k+1)=l.take k++[x]:=by rw[List.take_succ_eq_append_getElem hlt];congr 2;simpa[hlt] using hx
       have e2:m.take (k+1)=m.take k++[y]:=by rw[List.take_succ_eq_append_getElem hlt'];congr 2;simpa[hlt'] using hy
       rw[e1,e2,HTK.out,e]
      have hno:x≠y→decide (l=m)=false:=by
       intro e;simp only[decide_eq_false_iff_not];rintro rfl;rw[hx]at hy;exact e (by cases hy;rfl)
      have HSTEP:Hid (x=y→l.take (k+1)=m.take (k+1)):=hstep;have HNO:Hid (x≠y→decide (l=m)=false):=hno;clear hcc hcc' h5 h5' hx hy hstep hno;obtain ⟨x1,x2⟩:=x;obtain ⟨y1,y2⟩:=y;simp only at c0 c1 c0' c1'
      by_cases he:x1=y1
      · by_cases he2 : x2 = y2
        · subst he;subst he2;have HS2:Hid (l.take (k+1)=m.take (k+1)):=HSTEP.out rfl;clear HSTEP HNO;go_wp2_with fail
          go_quiet (fail)
          go_wp2_with fail
          go_roundg (l.length-(k+1))
          case measure => omega
          case rel => exact ⟨k+1,by omega,by go_num,below_drewN hB nq,HS2.out⟩
        · have hb : (x2.toList == y2.toList) = false := YL he2;have HQ:Hid (decide (l=m)=false):=HNO.out (by intro e;cases e;exact he2 rfl)
          subst he;clear HSTEP HNO he2;go_wp2_with fail
          go_quiet (fail)
          go_wp2_with fail;go_ret;exact ⟨by rw[HQ.out];rfl,below_drewN hB nq⟩
      · have hb : (x1.toList == y1.toList) = false := YL he;have HQ:Hid (decide (l=m)=false):=HNO.out (by intro e;cases e;exact he rfl)
        clear HSTEP HNO he;go_wp2_with fail
        go_quiet (fail)
        go_wp2_with fail;go_ret;exact ⟨by rw[HQ.out];rfl,below_drewN hB nq⟩
    · have hkk : k = l.length := by omega
      subst hkk;have HQ:Hid (decide (l=m)=true):=decide_eq_true (qdG HL.out HTK.out);go_wp2_with fail;go_ret;exact ⟨by rw[HQ.out];rfl,hB⟩
 · have hne:((l.length:Int) != m.length)=true:=by
    have:(l.length:Int)≠m.length:=by omega
    simpa using this
   have hq:decide (l=m)=false:=by
    simp only[decide_eq_false_iff_not];rintro rfl;exact hlen rfl
   rw[hq]
   go_enter Tryz.func90,Tryz.ntmps90
   go_wp2_with fail;go_ret;exact ⟨rfl,Below.refl _ _⟩
theorem qbg (S S':Nat→Prop)(va va' vk vk':Value)(t u:Tr)(w:World)(h1:qk S w va t.attrs)(h2:qk S' w va' u.attrs)(hk:∃ a l c,vk=.slice a l c)(hk':∃ a l c,vk'=.slice a l c) :
 Calls Tryz.prog 54 #[.agg #[.bool t.text,.string t.s,va,vk],.agg #[.bool u.text,.string u.s,va',vk']] w fun e w'=>e=.returned (.bool (xh t u))∧Below w.heap.size w w':=by
 obtain ⟨ka,kl,kc,rfl⟩:=hk;obtain ⟨ka',kl',kc',rfl⟩:=hk';obtain ⟨aa,ac,rfl⟩:=h1.shape;obtain ⟨aa',ac',rfl⟩:=h2.shape;obtain ⟨tx,s,l,ts⟩:=t;obtain ⟨tx',s',l',ts'⟩:=u;simp only at h1 h2 ⊢
 unfold xh;simp only;rw[jJ s];have hb0:∀ X Y,Below w.heap.size w ((w.alloc X).alloc Y):=fun X Y=>(Below.alloc1 w X).alloc (by simp) Y
 cases htx:(tx==tx') with
 | false =>
   simp only[Bool.false_and]
   go_enter Tryz.func54,Tryz.ntmps54
   go_wp2_with fail;go_ret;exact ⟨rfl,hb0 _ _⟩
 | true =>
   cases hs:(s.toList==s'.toList) with
   | false =>
     simp only[Bool.true_and,Bool.false_and]
     go_enter Tryz.func54,Tryz.ntmps54
     go_wp2_with fail;go_ret;exact ⟨rfl,hb0 _ _⟩
   | true =>
     simp only[Bool.true_and];have HA:Hid (∀ X Y,Calls Tryz.prog 90 #[.slice aa l.length ac,.slice aa' l'.length ac'] ((w.alloc X).alloc Y) fun e w'=>e=.returned (.bool (decide (l=l')))∧Below ((w.alloc X).alloc Y).heap.size ((w.alloc X).alloc Y) w'):=fun X Y=>qby S S' _ _ l l' _ (h1.later (hb0 _ _)) (h2.later (hb0 _ _))
     clear h1 h2;obtain ⟨q1,hq1⟩:∃ q,decide (l=l')=q:=⟨_,rfl⟩;rw[hq1]at HA ⊢
     clear hq1
     go_enter Tryz.func54,Tryz.ntmps54
     go_wp2_with fail;refine (Calls.mono (HA.out _ _) ?_);rintro e w1 ⟨rfl,hb1⟩;have hB1:Below w.heap.size w w1:=(hb0 _ _).trans (hb1.mono (by simp;omega))
     go_wp2_with fail;go_ret;exact ⟨rfl,hB1⟩
theorem pairInfo:(Tryz.prog.info? 89).map (fun i=>(i.zero,i.size,i.bytes))=some (some (.agg #[.slice none 0 0,.slice none 0 0]),2,48):=by kernel_rfl
theorem qca {ops:Array Oper}{o:Oper}{a:Act}{w:World}{K:Act→World→Prop}{Q:Exit→Act→World→Prop}{E:Prop}
 (hg:o.guard=none) (s x:Operand) (hop:o.op=Op.call { callee:=Callee.builtin Builtin.append,args:=#[s,x],argTypes:=#[72,72] })
 (B:Nat) (v:Value) (n:Nat) (xs:List Value) (hs:a.eval s=v) (hown:w.ownsRow B 89 2 v n xs) (ad:Addr) (sa:Option Addr) (sl sc:Nat) (ua:Option Addr) (ul uc:Nat) (hx:a.eval x=.slice (some ad) 1 1)
 (hnews:∀ j u,[Value.slice sa sl sc,Value.slice ua ul uc][j]?=some u→w.cell? (ad.add j)=some u) (hn:n≤1048576) (hB:B≤w.heap.size)
 (hK:∀ v' w',w'.ownsRow B 89 2 v' (n+1) (xs++[.slice sa sl sc,.slice ua ul uc])→w.grownBy w' v.ownBlock→(v'.ownBlock=v.ownBlock∨v'.ownBlock=some w.heap.size)→K (a.put o.dst v') w') :
 if Region.wanted o (yielded ops a.tmps)=true then Oper.wp Tryz.prog o a w K Q else E:=by
 have hw:Region.wanted o (yielded ops a.tmps)=true:=by simp[Region.wanted,hg]
 rw[if_pos hw];obtain ⟨i0,hi,hz0,hz1,hz2⟩:=info_parts pairInfo;obtain ⟨v',w',hr,h2,h3,_,h5⟩:=run_append_own_at (P:=Tryz.prog) w B 72 o.type 89 i0 _ 2 48 Tryz.underlying72 hi hz0 hz1 hz2 rfl (by decide) v n xs hown ad 1 1 [.slice sa sl sc,.slice ua ul uc] rfl hnews (by intro u hu;simp at hu;rcases hu with rfl|rfl<;>rfl) (by unfold maxLen;omega) (by omega) hB
 unfold Oper.wp;simp[execOp,hop,resolve,invoke,builtin,hs,hx,hr,Result.andThen];exact hK v' w' h2 h3 h5
structure PE where
 v:Value
 v':Value
 n:Nat
 ts:List Tr
 us:List Tr
def jA (P:List PE):Nat:=(P.map fun e=>cnt e.n e.ts).sum
def Qq (P:List PE):Bool:=P.all fun e=>likeB e.n e.ts e.us
def prs (e:PE):Value × Value:=(e.v,e.v')
theorem xe (P Q:List PE):jA (P++Q)=jA P+jA Q:=by simp[jA]
theorem xS (P Q:List PE):Qq (P++Q)=(Qq P&&Qq Q):=by simp[Qq]
def qaI (S:Nat→Prop)(w:World)(e:PE):Prop:=e.ts≠[]∧qa S w e.n e.v e.ts∧qa S w e.n e.v' e.us
theorem Vl {S:Nat→Prop}{w:World}{P:List PE}(h:∀ e∈P,qaI S w e):P.length≤jA P:=by
 induction P with
 | nil=>simp
 | cons e r ih =>
   have h1:=ih (fun x hx=>h x (List.mem_cons_of_mem _ hx))
   obtain ⟨h2,h3,_⟩:=h e List.mem_cons_self;have h4:=(qa.deep e.n h3).len;have h5:=List.length_pos_iff.2 h2;have h6:jA (e::r)=cnt e.n e.ts+jA r:=by simp[jA]
   simp only[List.length_cons];omega
structure qdK (S:Nat→Prop) (B cb:Nat) (w:World) (lk:Bool) (cs L:Nat) (ts:List Tr) (wv:Value) (G:List (Value × Value)) (w':World) (P:List PE) (wv':Value):Prop where
 below:Below B w w'
 cst:Pst B cb w' wv' (G++P.map prs)
 row:wv'.ownBlock=wv.ownBlock∨∃ b,wv'.ownBlock=some b∧w.heap.size≤b
 frame:∀ b,b<w.heap.size→b≠cb→wv.ownBlock≠some b→w'.heap[b]?=w.heap[b]?
 pend:∀ e∈P,qaI S w e
 like:lk=Qq P
 less:jA P≤cs∧(0<L→jA P+ts.length≤cs)
def Ym (S:Nat→Prop)(B cb:Nat)(w:World)(lk:Bool)(cs L:Nat)(ts:List Tr)(wv:Value)(G:List (Value × Value))(r:Bool)(w':World):Prop :=
 match r with
 | false=>lk=false∧Below B w w'∧∀ b,b<w.heap.size→b≠cb→wv.ownBlock≠some b→w'.heap[b]?=w.heap[b]?
 | true=>∃ P wv',qdK S B cb w lk cs L ts wv G w' P wv'
theorem Ym.frame {S:Nat→Prop}{B cb:Nat}{w:World}{lk:Bool}{cs L:Nat}{ts:List Tr}{wv:Value}{G:List (Value × Value)}{r:Bool}{w':World}(h:Ym S B cb w lk cs L ts wv G r w') :
 ∀ b,b<w.heap.size→b≠cb→wv.ownBlock≠some b→w'.heap[b]?=w.heap[b]?:=by
 cases r with
 | false=>exact h.2.2
 | true=>obtain ⟨P,wv',J⟩:=h;exact J.frame
def Kq (S:Nat→Prop)(B cb L:Nat):Prop:=∀ (n:Nat)(v v':Value)(ts us:List Tr)(wv:Value)(G:List (Value × Value))(w:World),
 (∀ b,S b→b<w.heap.size∧b≠cb∧wv.ownBlock≠some b)→qa S w n v ts→qa S w n v' us→Pst B cb w wv G→B≤w.heap.size→G.length+cnt n ts≤1048576 →
 Calls Tryz.prog 39 #[.pointer (some ⟨cb,0,none⟩),.agg #[v,v'],.int .i64 (L:Int)] w fun e w'=>∃ r,e=.returned (.bool r)∧Ym S B cb w (likeB n ts us) (cnt n ts) L ts wv G r w'
theorem qaK (S:Nat→Prop)(B cb L n:Nat)(v v':Value)(ts us:List Tr)(wv:Value)(G:List (Value × Value))(w:World)(h:qa S w n v ts)(h':qa S w n v' us)(hB:B≤w.heap.size)(hne:ts.length≠us.length) :
 Calls Tryz.prog 39 #[.pointer (some ⟨cb,0,none⟩),.agg #[v,v'],.int .i64 (L:Int)] w fun e w'=>∃ r,e=.returned (.bool r)∧Ym S B cb w (likeB n ts us) (cnt n ts) L ts wv G r w':=by
 obtain ⟨a,c,rfl,_,_⟩:=qa.shape n h;obtain ⟨a',c',rfl,_,_⟩:=qa.shape n h'
 have hq:((ts.length:Int) != us.length)=true:=by
  have:(ts.length:Int)≠us.length:=by omega
  simpa using this
 have HQ:Hid (likeB n ts us=false):=qbN hne;clear h h' hne
 go_enter Tryz.func39,Tryz.ntmps39
 go_wp2_with fail;go_ret;exact ⟨false,rfl,HQ.out,(Below.refl B w).alloc hB _,fun b hb _ _=>Below.heap_alloc _ _ _ hb⟩
theorem qaL (S:Nat→Prop)(B cb L n:Nat)(v v':Value)(wv:Value)(G:List (Value × Value))(w:World)(h:qa S w n v [])(h':qa S w n v' [])(hc:Pst B cb w wv G)(hB:B≤w.heap.size) :
 Calls Tryz.prog 39 #[.pointer (some ⟨cb,0,none⟩),.agg #[v,v'],.int .i64 (L:Int)] w fun e w'=>∃ r,e=.returned (.bool r)∧Ym S B cb w (likeB n [] []) (cnt n []) L [] wv G r w':=by
 obtain ⟨a,c,rfl,_,_⟩:=qa.shape n h;obtain ⟨a',c',rfl,_,_⟩:=qa.shape n h';simp only[List.length_nil]
 go_enter Tryz.func39,Tryz.ntmps39
 go_wp2_with fail;go_ret;refine ⟨true,rfl,[],wv,?_⟩;exact ⟨(Below.refl B w).alloc hB _,by simpa using hc.later (Below.alloc1 w _),Or.inl rfl,fun b hb _ _=>Below.heap_alloc _ _ _ hb,by simp,by rw[Xm];rfl,nZ9 _,fun _=>nZ9 _⟩
theorem Je {B cb:Nat}{W X w1:World}{wv:Value}{G:List (Value × Value)}(h:Pst B cb W wv G)(hX:Below W.heap.size W X)(hg:X.grownBy w1 wv.ownBlock) :
 w1.heap[cb]?=some (.cells #[wv] 74 (0,0)):=by
 rw[hg.block cb (Nat.lt_of_lt_of_le h.lt hX.size) (fun e=>h.apart e.symm),hX.block cb h.lt]
 exact h.held
theorem qdS {S:Nat→Prop}{B cb:Nat}{w W0 w1:World}{n:Nat}{ts us:List Tr}{va ua wa a1:Option Addr}{vc uc wc l1 c1:Nat}{G:List (Value × Value)}{c:Obj}(hne:ts≠[])
 (hT:qa S w n (.slice va ts.length vc) ts) (hU:qa S w n (.slice ua us.length uc) us) (hBw:B≤w.heap.size) (hbx:Below w.heap.size w W0) (hX:Pst B cb W0 (.slice wa G.length wc) G)
 (hown1:w1.ownsRow B 89 2 (.slice a1 l1 c1) (G.length+1) (pairCells G++[.slice va ts.length vc,.slice ua us.length uc]))
 (hgr1:(W0.alloc c).drew.grownBy w1 (Value.slice wa G.length wc).ownBlock)
 (hat1:(Value.slice a1 l1 c1).ownBlock=(Value.slice wa G.length wc).ownBlock∨(Value.slice a1 l1 c1).ownBlock=some (W0.alloc c).drew.heap.size) :
 qdK S B cb w (likeB n ts us) (cnt n ts) 0 ts (.slice wa G.length wc) G (w1.setCell ⟨cb,0,none⟩ (.slice a1 l1 c1)) [⟨.slice va ts.length vc,.slice ua us.length uc,n,ts,us⟩] (.slice a1 l1 c1):=by
 have hH:=Je hX (Below.alloc1 W0 c).drew hgr1;have hsz:=hbx.size;have hsX:(W0.alloc c).drew.heap.size=W0.heap.size+1:=by simp[World.drew]
 have hap:(Value.slice a1 l1 c1).ownBlock≠some cb:=by
  intro e;obtain ⟨_,cs,fz,hc⟩:=qe hown1 e;rw[hH]at hc
  simp at hc
 refine ⟨?_,⟨hX.base,?_,?_,?_⟩,?_,?_,?_,?_,?_,fun h=>by omega⟩
 · exact (((((hbx.mono hBw).alloc (by omega) c).drew).grown hgr1 (by omega) (fun k hk=>(hX.own.lt k hk).1))).setCell hX.base _
 · simp[World.setCell,Array.getElem?_modify,hH]
 · have e1 : (G ++ List.map prs [(⟨.slice va ts.length vc, .slice ua us.length uc, n, ts, us⟩ : PE)]).length = G.length + 1 := by simp
   rw[e1,yw];exact qj hown1 fun b hb=>Below.heap_setCell _ _ _ _ (fun e=>hap (by rw[hb,e]))
 · intro x hx
   rcases List.mem_append.1 hx with hx|hx
   · exact hX.slices x hx
   · simp[prs]at hx;subst hx;exact ⟨⟨_,_,_,rfl⟩,_,_,_,rfl⟩
 · rcases hat1 with h | h
   · exact Or.inl h
   · exact Or.inr ⟨_,h,by omega⟩
 · intro b hb h1 h2;rw[Below.heap_setCell _ _ _ _ h1,hgr1.block b (by omega) (fun e=>h2 e.symm)]
   show (W0.alloc c).heap[b]?=_
   rw[Lib.alloc_old _ _ _ (by omega),hbx.block b hb]
 · intro e he;simp at he
   subst he;exact ⟨hne,hT,hU⟩
 · simp[Qq]
 · simp[jA]
theorem qcr (S:Nat→Prop)(B cb:Nat):Kq S B cb 0:=by
 intro n v v' ts us wv G w _ hT hU hC hBw hG
 by_cases hlen:ts.length=us.length
 · by_cases hne : ts = []
   · subst hne;obtain rfl:us=[]:=List.eq_nil_of_length_eq_zero hlen.symm;exact qaL S B cb 0 n v v' wv G w hT hU hC hBw
   · have hTo : Hid (qa S w n v ts) := hT;have hUo:Hid (qa S w n v' us):=hU;obtain ⟨va,vc,rfl,_,hvm⟩:=qa.shape n hT;obtain ⟨ua,uc,rfl,_,hum⟩:=qa.shape n hU;have hl0:0<ts.length:=List.length_pos_iff.2 hne
     have hcn:1≤cnt n ts:=by
      have:=(qa.deep n hT).len;omega
     have hlt:=hC.lt;have hap:=hC.apart
     have hne1:((ts.length:Int)==0)=false:=by
      have:(ts.length:Int)≠0:=by omega
      simpa using this
     have hne2:((ts.length:Int) != us.length)=false:=by simp[hlen]
     have hbx:=Below.alloc1 w (.cells #[.slice va ts.length vc,.slice ua us.length uc] 89);have hX:=hC.later hbx;have b0:(w.alloc (.cells #[.slice va ts.length vc,.slice ua us.length uc] 89)).cell? ⟨w.heap.size,0,none⟩=some (.slice va ts.length vc):=by simp
     have b1:(w.alloc (.cells #[.slice va ts.length vc,.slice ua us.length uc] 89)).cell? ⟨w.heap.size,1,none⟩=some (.slice ua us.length uc):=by simp
     have hsz:(w.alloc (.cells #[.slice va ts.length vc,.slice ua us.length uc] 89)).heap.size=w.heap.size+1:=by simp
     clear hT hU hlen;unfold maxLen at hvm
     go_enter Tryz.func39,Tryz.ntmps39
     go_wp2_with fail
     generalize w.alloc (.cells #[.slice va ts.length vc,.slice ua us.length uc] 89)=W0 at hbx hX b0 b1 hsz ⊢
     obtain ⟨wa,wc,rfl⟩:=hC.shape;have HS:Hid (W0.heap.size=w.heap.size+1):=hsz;have hB0:B≤W0.heap.size:=by omega
     have hszl:w.heap.size<W0.heap.size:=by omega
     clear hsz;have k2:W0.cell? ⟨cb,0,none⟩=some (.slice wa G.length wc):=by rw[cH9 hX.held];rfl
     have kf:W0.frozen? ⟨cb,0,none⟩=false:=fH9 hX.held 0;have hcb0:cb<W0.heap.size:=hX.lt;have HX:Hid (Pst B cb W0 (.slice wa G.length wc) G):=hX;clear hX hC;have hrow:(W0.alloc (.cells #[.slice va ts.length vc,.slice ua us.length uc] 89)).drew.ownsRow B 89 2 (.slice wa G.length wc) G.length (pairCells G):=HX.out.own.alloc _;have hgc:∀ j u,[Value.slice va ts.length vc,Value.slice ua us.length uc][j]?=some u→(W0.alloc (.cells #[.slice va ts.length vc,.slice ua us.length uc] 89)).drew.cell? ((⟨W0.heap.size,0,none⟩:Addr).add j)=some u:=Yh (W:=(W0.alloc (.cells #[.slice va ts.length vc,.slice ua us.length uc] 89)).drew) (by simp) (by simp)
     have HR:Hid _:=hrow;have HGC:Hid _:=hgc;clear hrow hgc;have hGl:G.length≤1048576:=by omega
     have HH:Hid (∀ w1,(W0.alloc (.cells #[.slice va ts.length vc,.slice ua us.length uc] 89)).drew.grownBy w1 (Value.slice wa G.length wc).ownBlock→w1.heap[cb]?=some (.cells #[.slice wa G.length wc] 74 (0,0))):=fun w1 hg=>Je HX.out (Below.alloc1 W0 _).drew hg
     go_region_law (first
      | (refine qca (by rfl) (.tmp 25) (.tmp 27) (by rfl) B (.slice wa G.length wc) G.length (pairCells G) (by simp[Act.eval]) HR.out ⟨W0.heap.size,0,none⟩ va ts.length vc ua us.length uc (by simp[Act.eval]) HGC.out hGl (by simp;omega) ?_;intro v1 w1 hown1 hgr1 hat1;obtain ⟨a1,l1,c1,rfl⟩:=Xz hown1;have hj1:=cH9 (HH.out w1 hgr1) 0;have hf1:=fH9 (HH.out w1 hgr1) 0;simp at hj1))
     all_goals
      go_wp2_with fail;go_ret;exact ⟨true,rfl,_,_,qdS hne hTo.out hUo.out hBw hbx HX.out hown1 hgr1 hat1⟩
 · exact qaK S B cb 0 n v v' ts us wv G w hT hU hBw hlen
end Go.Proofs.YtecdgplkelnmhaaGreatDoor
