/- Bundled: AlikeS SameT. What each says stands ahead of it. -/
import Derived.Test.YtfdbipeidmpciaaDoorTreetellsupto11
import Derived.Test.YtfdbipeidmpciaaDoorTreetellsupto12
import Derived.Deep.RegionHeld3
namespace Go.Proofs.YtfdbipeidmpciaaDoor
open Go.ChangeShapes Go.WideShapes Go.ChangeAt Go.RowKit
set_option maxRecDepth 100000
structure QD (S:Nat→Prop) (B cb:Nat) (w:World) (m k:Nat) (ts us:List Tr) (bx by_:Value) (wv:Value) (G:List (Value × Value)) (w':World) (P:List PE) (wv':Value):Prop where
 below:Below B w w'
 cst:Pst B cb w' wv' (G++P.map prs)
 row:wv'.ownBlock=wv.ownBlock∨∃ b,wv'.ownBlock=some b∧w.heap.size+1≤b
 frame:∀ b,b<w.heap.size→b≠cb→wv.ownBlock≠some b→w'.heap[b]?=w.heap[b]?
 box0:w'.cell? ⟨w.heap.size,0,none⟩=some bx
 box1:w'.cell? ⟨w.heap.size,1,none⟩=some by_
 size:w.heap.size+1≤w'.heap.size
 pend:∀ e∈P,KJ S w e
 like:xn m ts us k=j7 P
 less:yt P≤cnt m (nx (ts.take k))
theorem X2 {S:Nat→Prop}{B cb:Nat}{w:World}{m k L:Nat}{ts us:List Tr}{bx by_:Value}{wv:Value}{G:List (Value × Value)}{wr w3:World}{P P1:List PE}{wv' wv3:Value}{t u:Tr}
 (hS:∀ b,S b→wr.heap[b]?=w.heap[b]?) (I:QD S B cb w m k ts us bx by_ wv G wr P wv') (hwv:∀ b,wv.ownBlock=some b→b<w.heap.size) (hcb:cb<w.heap.size) (hsn:ts.take (k+1)=ts.take k++[t])
 (hpre:xn m ts us (k+1)=(xn m ts us k&&(true&&likeB m t.kids u.kids)))
 (J:qbe S B cb wr (likeB m t.kids u.kids) (cnt m t.kids) L t.kids wv' (G++P.map prs) w3 P1 wv3) :
 QD S B cb w m (k+1) ts us bx by_ wv G w3 (P++P1) wv3:=by
 have hsz3:=J.below.size;have hszr:=I.size
 have hrow:∀ b,b<w.heap.size+1→wv.ownBlock≠some b→wv'.ownBlock≠some b:=by
  intro b hb h1 h2
  rcases I.row with h|⟨b',h,h3⟩
  · exact h1 (h.symm.trans h2)
  · rw[h]at h2;cases h2;omega
 have hbox:w3.heap[w.heap.size]?=wr.heap[w.heap.size]?:=J.frame _ (by omega) (by omega) (hrow _ (by omega) (fun e=>by have:=hwv _ e;omega))
 refine ⟨I.below.trans J.below,?_,?_,?_,?_,?_,by omega,?_,?_,?_⟩
 · have:=J.cst;simpa using this
 · rcases J.row with h | ⟨b, h, h1⟩
   · rw[h];exact I.row
   · exact Or.inr ⟨b,h,by omega⟩
 · intro b hb h1 h2;rw[J.frame b (by omega) h1 (hrow b (by omega) h2),I.frame b hb h1 h2]
 · rw[World.cell?_of_block (a:=⟨w.heap.size,0,none⟩) hbox];exact I.box0
 · rw[World.cell?_of_block (a:=⟨w.heap.size,1,none⟩) hbox];exact I.box1
 · intro e he
   rcases List.mem_append.1 he with he|he
   · exact I.pend e he
   · obtain ⟨h1, h2, h3⟩ := J.pend e he;exact ⟨h1,qb.carry (fun b hb=>⟨hb,(hS b hb).symm⟩) e.n h2,qb.carry (fun b hb=>⟨hb,(hS b hb).symm⟩) e.n h3⟩
 · rw[hpre,I.like,J.like,jD,Bool.true_and]
 · rw[yZ, hsn, zN, yz, nx_nil, List.append_nil, qX];have h1:=J.less.1;have h2:=I.less;omega
theorem yW {S:Nat→Prop}{B cb:Nat}{w:World}{m k:Nat}{ts us:List Tr}{bx by_:Value}{wv:Value}{G:List (Value × Value)}{wr w3:World}{P:List PE}{wv':Value}(I:QD S B cb w m k ts us bx by_ wv G wr P wv')
 (hf:∀ b,b<wr.heap.size→b≠cb→wv'.ownBlock≠some b→w3.heap[b]?=wr.heap[b]?):∀ b,b<w.heap.size→b≠cb→wv.ownBlock≠some b→w3.heap[b]?=w.heap[b]?:=by
 intro b hb h1 h2;have hszr:=I.size;rw[hf b (by omega) h1 ?_,I.frame b hb h1 h2]
 intro h3
 rcases I.row with h|⟨b',h,h4⟩
 · exact h2 (h.symm.trans h3)
 · rw[h]at h3;cases h3;omega
theorem VA {S:Nat→Prop}{B cb:Nat}{w:World}{m k:Nat}{ts us:List Tr}{bx by_:Value}{wv:Value}{G:List (Value × Value)}{wr w3:World}{P:List PE}{wv':Value}(I:QD S B cb w m k ts us bx by_ wv G wr P wv')(hwv:∀ b,wv.ownBlock=some b→b<w.heap.size)(hcb:cb<w.heap.size)
 (hf:∀ b,b<wr.heap.size→b≠cb→wv'.ownBlock≠some b→w3.heap[b]?=wr.heap[b]?):w3.heap[w.heap.size]?=wr.heap[w.heap.size]?:=by
 have hszr:=I.size;refine hf _ (by omega) (by omega) fun h3=>?_
 rcases I.row with h|⟨b',h,h4⟩
 · have:=hwv _ (h.symm.trans h3);omega
 · rw[h]at h3;cases h3;omega
theorem JZ {S:Nat→Prop}{B cb:Nat}{w W0:World}{m:Nat}{ts us:List Tr}{bx by_:Value}{wv:Value}{G:List (Value × Value)}(hBw:B≤w.heap.size)(hsz:W0.heap.size=w.heap.size+1)(hbx:Below w.heap.size w W0)(hX:Pst B cb W0 wv G)
 (b0:W0.cell? ⟨w.heap.size,0,none⟩=some bx) (b1:W0.cell? ⟨w.heap.size,1,none⟩=some by_) :
 QD S B cb w m 0 ts us bx by_ wv G W0 [] wv :=
 ⟨hbx.mono hBw,by simpa using hX,Or.inl rfl,fun b hb _ _=>hbx.block b hb,b0,b1,by omega,by simp,by rw[Yt];rfl,by simp[yt]⟩
theorem X3 {S:Nat→Prop}{B cb:Nat}{w:World}{m L:Nat}{ts us:List Tr}{bx by_:Value}{wv:Value}{G:List (Value × Value)}{wr:World}{P:List PE}{wv':Value}
 (hlen:ts.length=us.length) (I:QD S B cb w m ts.length ts us bx by_ wv G wr P wv'):qbe S B cb w (likeB (m+1) ts us) (cnt (m+1) ts) L ts wv G wr P wv':=by
 have h:=I.less;rw[List.take_length]at h
 have h2:=xG m ts;refine ⟨I.below,I.cst,?_,I.frame,I.pend,by rw[Yj hlen];exact I.like,by omega,fun _=>by omega⟩
 rcases I.row with h|⟨b,h,h1⟩
 · exact Or.inl h
 · exact Or.inr ⟨b,h,by omega⟩
theorem QM.back {S:Nat→Prop}{B cb:Nat}{w w1:World}{lk:Bool}{cs L:Nat}{ts:List Tr}{wv:Value}{G:List (Value × Value)}{r:Bool}{w':World}(hB:B≤w.heap.size)(hS:∀ b,S b→b<w.heap.size)(hb:Below w.heap.size w w1)
 (h:QM S B cb w1 lk cs L ts wv G r w'):QM S B cb w lk cs L ts wv G r w':=by
 cases r with
 | false=>exact ⟨h.1,(hb.mono hB).trans h.2.1,fun b h1 h2 h3=>by rw[h.2.2 b (Nat.lt_of_lt_of_le h1 hb.size) h2 h3,hb.block b h1]⟩
 | true =>
   obtain ⟨P,wv',J⟩:=h;have hsz:=hb.size;refine ⟨P,wv',(hb.mono hB).trans J.below,J.cst,?_,?_,?_,J.like,J.less⟩
   · rcases J.row with h | ⟨b, h, h1⟩
     · exact Or.inl h
     · exact Or.inr ⟨b,h,by omega⟩
   · intro b h1 h2 h3;rw[J.frame b (by omega) h2 h3,hb.block b h1]
   · intro e he;obtain ⟨h1,h2,h3⟩:=J.pend e he;exact ⟨h1,qb.carry (fun b hs=>⟨hs,(hb.block b (hS b hs)).symm⟩) e.n h2,qb.carry (fun b hs=>⟨hs,(hb.block b (hS b hs)).symm⟩) e.n h3⟩
set_option maxHeartbeats 1000000 in
theorem qaj (S:Nat→Prop)(B cb:Nat)(L:Nat)(hL:L<1000)(ih:Jq S B cb L):Jq S B cb (L+1):=by
 intro n v v' ts us wv G w hS0 hT hU hC hBw hG;have HS0:Hid (∀ b,S b→b<w.heap.size∧b≠cb∧wv.ownBlock≠some b):=hS0;clear hS0
 by_cases hlen:ts.length=us.length
 · by_cases hne : ts = []
   · subst hne;obtain rfl:us=[]:=List.eq_nil_of_length_eq_zero hlen.symm;exact KM S B cb (L+1) n v v' wv G w hT hU hC hBw
   · have hTo : Hid (qb S w n v ts) := hT;have hUo:Hid (qb S w n v' us):=hU;have HLEN:Hid (ts.length=us.length):=hlen;obtain ⟨va,vc,rfl,_,hvm⟩:=qb.shape n hT;obtain ⟨ua,uc,rfl,_,hum⟩:=qb.shape n hU;have hl0:0<ts.length:=List.length_pos_iff.2 hne;have hcn:=(qb.deep n hT).len;have hlt:=hC.lt;have hap:=hC.apart
     have hne1:((ts.length:Int)==0)=false:=by
      have:(ts.length:Int)≠0:=by omega
      simpa using this
     have hne3:((ts.length:Int) != us.length)=false:=by simp[hlen]
     have hne2:((((L+1:Nat):Int))==0)=false:=by
      have:(((L+1:Nat):Int))≠0:=by omega
      simpa using this
     obtain ⟨M,hM⟩:∃ M,L+1=M:=⟨_,rfl⟩;rw[hM]at hne2 ⊢
     have hbx:=Below.alloc1 w (.cells #[.slice va ts.length vc,.slice ua us.length uc] 130);have hX:=hC.later hbx;have b0:(w.alloc (.cells #[.slice va ts.length vc,.slice ua us.length uc] 130)).cell? ⟨w.heap.size,0,none⟩=some (.slice va ts.length vc):=by simp
     have b1:(w.alloc (.cells #[.slice va ts.length vc,.slice ua us.length uc] 130)).cell? ⟨w.heap.size,1,none⟩=some (.slice ua us.length uc):=by simp
     have hsz:(w.alloc (.cells #[.slice va ts.length vc,.slice ua us.length uc] 130)).heap.size=w.heap.size+1:=by simp
     have HIH:Hid (Jq S B cb L):=ih;have HM:Hid (L+1=M):=hM;have HGl:Hid (G.length+cnt n ts≤1048576):=hG;have hlb:ts.length≤1048576:=by omega
     have HWV:Hid (∀ b,wv.ownBlock=some b→b<w.heap.size):=fun b hb=>(hC.own.lt b hb).2
     clear hT hU ih hM hlen hC hG hcn;unfold maxLen at hvm
     go_enter Tryd.func92,Tryd.ntmps92
     go_wp2_with fail
     generalize w.alloc (.cells #[.slice va ts.length vc,.slice ua us.length uc] 130)=W0 at hbx hX b0 b1 hsz ⊢
     have HS:Hid (W0.heap.size=w.heap.size+1):=hsz;have HX:Hid (Pst B cb W0 wv G):=hX;clear hsz hX;cases n with
     | zero=>exact absurd hTo.out.1 hne
     | succ m =>
     go_loopg [34] ts.length (fun g i wr=>∃ (k:Nat) (P:List PE) (wv':Value),k+g=ts.length∧i=.int .i64 k∧QD S B cb w m k ts us (.slice va ts.length vc) (.slice ua us.length uc) wv G wr P wv')
     case atStart => exact ⟨0,[],_,by omega,rfl,JZ hBw HS.out hbx HX.out b0 b1⟩
     case round =>
      obtain ⟨k,P,wv',hk,rfl,I⟩:=hrel;have HI:Hid (QD S B cb w m k ts us (.slice va ts.length vc) (.slice ua us.length uc) wv G wr P wv'):=I;have x0:=I.box0;have x1:=I.box1;have hBr:=I.below;have hsr:=I.size;clear I b0 b1 HX hbx HS
      by_cases hlt':k<ts.length
      · have hltu : k < us.length := by have := HLEN.out;omega
        have hneu:us≠[]:=by intro e;subst e;simp at hltu
        obtain ⟨_,_,hve,_,_,h4⟩:=hTo.out;obtain ⟨b,o,hao,hs,hcc⟩:=h4 hne
        injection hve with e1 e2 e3
        subst e1;subst hao;obtain ⟨_,_,hue,_,_,h4'⟩:=hUo.out;obtain ⟨b',o',hao',hs',hcc'⟩:=h4' hneu
        injection hue with e1' e2' e3'
        subst e1';subst hao';obtain ⟨t,ht⟩:∃ t,ts[k]?=some t:=⟨ts[k],by simp[hlt']⟩
        obtain ⟨u,hu⟩:∃ u,us[k]?=some u:=⟨us[k],by simp[hltu]⟩
        obtain ⟨xa,xk,c0,c1,c2,c3,hat,hkt⟩:=hcc k t ht;obtain ⟨ya,yk,c0',c1',c2',c3',hat',hkt'⟩:=hcc' k u hu;obtain ⟨ka,kc,rfl,_,hkm⟩:=qb.shape m hkt;obtain ⟨ka',kc',rfl,_,hkm'⟩:=qb.shape m hkt';have hkeep:∀ b,S b→wr.heap[b]?=w.heap[b]?:=fun b hb=>HI.out.frame b (HS0.out b hb).1 (HS0.out b hb).2.1 (HS0.out b hb).2.2
        have HKEEP:Hid (∀ b,S b→wr.heap[b]?=w.heap[b]?):=hkeep;rw[←World.cell?_of_block (a:=⟨b,o+k*4,none⟩) (hkeep b hs)]at c0
        rw[←World.cell?_of_block (a:=⟨b,o+k*4+1,none⟩) (hkeep b hs)]at c1
        rw[←World.cell?_of_block (a:=⟨b,o+k*4+2,none⟩) (hkeep b hs)]at c2
        rw[←World.cell?_of_block (a:=⟨b,o+k*4+3,none⟩) (hkeep b hs)]at c3
        rw[←World.cell?_of_block (a:=⟨b',o'+k*4,none⟩) (hkeep b' hs')]at c0'
        rw[←World.cell?_of_block (a:=⟨b',o'+k*4+1,none⟩) (hkeep b' hs')]at c1'
        rw[←World.cell?_of_block (a:=⟨b',o'+k*4+2,none⟩) (hkeep b' hs')]at c2'
        rw[←World.cell?_of_block (a:=⟨b',o'+k*4+3,none⟩) (hkeep b' hs')]at c3'
        have hbl:b<wr.drew.heap.size:=World.block_lt_of_cell? wr _ c0;have hbl':b'<wr.drew.heap.size:=World.block_lt_of_cell? wr _ c0'
        have hsn:ts.take (k+1)=ts.take k++[t]:=by
         rw[List.take_succ_eq_append_getElem hlt'];congr 2;simpa[hlt'] using ht
        have HSN:Hid (ts.take (k+1)=ts.take k++[t]):=hsn;have HKT:Hid (qb S wr.drew m (.slice ka t.kids.length kc) t.kids):=qb.carry (w:=w) (w':=wr.drew) (fun b hb=>⟨hb,hkeep b hb⟩) m hkt
        have HKU:Hid (qb S wr.drew m (.slice ka' u.kids.length kc') u.kids):=qb.carry (w:=w) (w':=wr.drew) (fun b hb=>⟨hb,hkeep b hb⟩) m hkt'
        have HPRE:Hid (xn m ts us (k+1)=(xn m ts us k&&(zI t u&&likeB m t.kids u.kids))):=Ys ht hu;have HNO:Hid ((zI t u&&likeB m t.kids u.kids)=false→likeB (m+1) ts us=false):=JX ht hu;have HAL:Hid _:=Va S S xa ya (.slice ka t.kids.length kc) (.slice ka' u.kids.length kc') t u wr.drew (qe.carry hat fun b hb=>⟨hb,hkeep b hb⟩) (qe.carry hat' fun b hb=>⟨hb,hkeep b hb⟩) ⟨_,_,_,rfl⟩ ⟨_,_,_,rfl⟩
        obtain ⟨aa,ac,rfl⟩:=hat.shape;obtain ⟨aa',ac',rfl⟩:=hat'.shape
        have hcl:cnt m t.kids≤cnt m (nx ts)∧yt P+cnt m t.kids≤cnt m (nx ts):=by
         have e:nx ts=nx (ts.take (k+1))++nx (ts.drop (k+1)):=by rw[←zN,List.take_append_drop]
         have h2:=HI.out.less;rw[e,qX,hsn,zN,yz,nx_nil,List.append_nil,qX];omega
        have HCALL:Hid (∀ w1,Below wr.drew.heap.size wr.drew w1→Calls Tryd.prog 92 #[.pointer (some ⟨cb,0,none⟩),.agg #[.slice ka t.kids.length kc,.slice ka' u.kids.length kc'],.int .i64 ((M:Int)-1)] w1 fun e w'=>∃ r,e=.returned r∧∃ q,r=.bool q∧QM S B cb wr (likeB m t.kids u.kids) (cnt m t.kids) L t.kids wv' (G++P.map prs) q w'):=by
         intro w1 hb1;have I:=HI.out;have h3:=Xi I.pend;have h5:=xG m ts;have h6:=HGl.out;have hs1:=hb1.size
         have hfree0:∀ b,S b→b<wr.drew.heap.size∧b≠cb∧wv'.ownBlock≠some b:=by
          intro b hb;obtain ⟨q1,q2,q3⟩:=HS0.out b hb;refine ⟨Nat.lt_of_lt_of_le q1 (Nat.le_trans (Nat.le_succ _) I.size),q2,fun h=>?_⟩
          rcases I.row with h'|⟨b',h',h''⟩
          · exact q3 (h'.symm.trans h)
          · rw[h']at h;cases h;omega
         have hcst:Pst B cb wr.drew wv' (G++P.map prs):=⟨I.cst.base,I.cst.held,I.cst.own,I.cst.slices⟩;have hBr':B≤wr.drew.heap.size:=by show B≤wr.heap.size;omega
         have:=HIH.out m (.slice ka t.kids.length kc) (.slice ka' u.kids.length kc') t.kids u.kids wv' (G++P.map prs) w1 (fun b hb=>⟨Nat.lt_of_lt_of_le (hfree0 b hb).1 hs1,(hfree0 b hb).2⟩) (qb.later hb1 m HKT.out) (qb.later hb1 m HKU.out) (hcst.later hb1) (by omega) (by rw[List.length_append,List.length_map];omega)
         have e2:(L:Int)=(M:Int)-1:=by have:=HM.out;omega
         rw[e2]at this
         refine this.mono ?_;rintro e w' ⟨q,rfl,J⟩;exact ⟨_,rfl,q,rfl,QM.back (w:=wr) (w1:=w1) hBr' (fun b hb=>(hfree0 b hb).1) ((Below.refl _ wr).drew.trans hb1) J⟩
        have hlti:(k:Int)<(ts.length:Int):=by omega
        have hlti':(k:Int)<(us.length:Int):=by omega
        have hMb:1≤M∧M≤1000:=by have:=HM.out;omega
        have hbr1:w.heap.size<wr.drew.heap.size:=by show w.heap.size<wr.heap.size;omega
        obtain ⟨q,hq⟩:∃ q,zI t u=q:=⟨_,rfl⟩;rw[hq]at HPRE HNO HAL
        have HAL2:Hid (Calls Tryd.prog 113 #[.agg #[.bool t.text,.string t.s,.slice aa t.attrs.length ac,.slice ka t.kids.length kc],.agg #[.bool u.text,.string u.s,.slice aa' u.attrs.length ac',.slice ka' u.kids.length kc']] wr.drew fun e w'=>e=.returned (.bool q)∧Below wr.drew.heap.size wr.drew w'):=HAL.out
        have HY:Hid (∀ w1:World,(w1.heap[w.heap.size]?=wr.heap[w.heap.size]?∧w1.heap[b]?=wr.heap[b]?∧w1.heap[b']?=wr.heap[b']?) →
         w1.cell? ⟨w.heap.size,0,none⟩=some (.slice (some ⟨b,o,none⟩) ts.length vc)∧w1.cell? ⟨w.heap.size,1,none⟩=some (.slice (some ⟨b',o',none⟩) us.length uc) ∧
         w1.cell? ⟨b,o+k*4,none⟩=some (.bool t.text)∧w1.cell? ⟨b,o+k*4+1,none⟩=some (.string t.s)∧w1.cell? ⟨b,o+k*4+2,none⟩=some (.slice aa t.attrs.length ac)∧w1.cell? ⟨b,o+k*4+3,none⟩=some (.slice ka t.kids.length kc) ∧
         w1.cell? ⟨b',o'+k*4,none⟩=some (.bool u.text)∧w1.cell? ⟨b',o'+k*4+1,none⟩=some (.string u.s)∧w1.cell? ⟨b',o'+k*4+2,none⟩=some (.slice aa' u.attrs.length ac')∧w1.cell? ⟨b',o'+k*4+3,none⟩=some (.slice ka' u.kids.length kc')):=by
         rintro w1 ⟨p0,p1,p2⟩;refine ⟨?_,?_,?_,?_,?_,?_,?_,?_,?_,?_⟩
         · rw[World.cell?_of_block (a:=⟨w.heap.size,0,none⟩) p0];exact x0
         · rw[World.cell?_of_block (a:=⟨w.heap.size,1,none⟩) p0];exact x1
         · rw[World.cell?_of_block (a:=⟨b,o+k*4,none⟩) p1];exact c0
         · rw[World.cell?_of_block (a:=⟨b,o+k*4+1,none⟩) p1];exact c1
         · rw[World.cell?_of_block (a:=⟨b,o+k*4+2,none⟩) p1];exact c2
         · rw[World.cell?_of_block (a:=⟨b,o+k*4+3,none⟩) p1];exact c3
         · rw[World.cell?_of_block (a:=⟨b',o'+k*4,none⟩) p2];exact c0'
         · rw[World.cell?_of_block (a:=⟨b',o'+k*4+1,none⟩) p2];exact c1'
         · rw[World.cell?_of_block (a:=⟨b',o'+k*4+2,none⟩) p2];exact c2'
         · rw[World.cell?_of_block (a:=⟨b',o'+k*4+3,none⟩) p2];exact c3'
        have HY1:Hid (∀ w1,Below wr.drew.heap.size wr.drew w1→w1.heap[w.heap.size]?=wr.heap[w.heap.size]?∧w1.heap[b]?=wr.heap[b]?∧w1.heap[b']?=wr.heap[b']?):=fun w1 hb1=>⟨hb1.block _ hbr1,hb1.block _ hbl,hb1.block _ hbl'⟩
        have HY2:Hid (∀ r w3,QM S B cb wr (likeB m t.kids u.kids) (cnt m t.kids) L t.kids wv' (G++P.map prs) r w3→w3.heap[w.heap.size]?=wr.heap[w.heap.size]?∧w3.heap[b]?=wr.heap[b]?∧w3.heap[b']?=wr.heap[b']?):=by
         intro r w3 J;refine ⟨VA HI.out HWV.out hlt J.frame,?_,?_⟩
         · rw[yW HI.out J.frame b (HS0.out b hs).1 (HS0.out b hs).2.1 (HS0.out b hs).2.2,HKEEP.out b hs]
         · rw[yW HI.out J.frame b' (HS0.out b' hs').1 (HS0.out b' hs').2.1 (HS0.out b' hs').2.2,HKEEP.out b' hs']
        have hy0:=HY.out wr.drew ⟨rfl,rfl,rfl⟩
        have HCALL2:Hid (∀ w1,Below wr.drew.heap.size wr.drew w1→Calls Tryd.prog 92 #[.pointer (some ⟨cb,0,none⟩),.agg #[.slice ka t.kids.length kc,.slice ka' u.kids.length kc'],.int .i64 (IntKind.i64.wrap ((M:Int)-1))] w1 fun e w'=>∃ r,e=.returned r∧∃ q,r=.bool q∧QM S B cb wr (likeB m t.kids u.kids) (cnt m t.kids) L t.kids wv' (G++P.map prs) q w'):=by
         rw[IntWalk.i64_in _ (by omega)];exact HCALL.out
        clear HAL hq hat hat' hkt hkt' hcc hcc' h4 h4' e2 e3 e2' e3' ht hu hsn hcl hkeep HIH c0 c1 c2 c3 c0' c1' c2' c3' x0 x1 hs hs';cases q with
        | false =>
          have HF:Hid (likeB (m+1) ts us=false):=HNO.out rfl;clear HNO HPRE HCALL HCALL2 HY2;go_wp2_with fail
          refine wp_region_held_drew (S:=(fun w1:World=>w1.cell? ⟨w.heap.size,0,none⟩=some (.slice (some ⟨b,o,none⟩) ts.length vc)∧w1.cell? ⟨w.heap.size,1,none⟩=some (.slice (some ⟨b',o',none⟩) us.length uc) ∧
           w1.cell? ⟨b,o+k*4,none⟩=some (.bool t.text)∧w1.cell? ⟨b,o+k*4+1,none⟩=some (.string t.s)∧w1.cell? ⟨b,o+k*4+2,none⟩=some (.slice aa t.attrs.length ac)∧w1.cell? ⟨b,o+k*4+3,none⟩=some (.slice ka t.kids.length kc) ∧
           w1.cell? ⟨b',o'+k*4,none⟩=some (.bool u.text)∧w1.cell? ⟨b',o'+k*4+1,none⟩=some (.string u.s)∧w1.cell? ⟨b',o'+k*4+2,none⟩=some (.slice aa' u.attrs.length ac')∧w1.cell? ⟨b',o'+k*4+3,none⟩=some (.slice ka' u.kids.length kc'))) (by kernel_rfl) hy0 (fun hHeld=>?_)
          refine wpAnyH_take (i:=0) (v:=?_) rfl (by kernel_rfl) (by kernel_rfl) (by kernel_rfl) (fun _ _ _ h=>h) (Or.inl ⟨by rfl,?_⟩) (by assumption) ?_
          rotate_left
          · (intro w hSw;(try dsimp only at hSw);go_simp;try with_reducible rfl)
          try simp only[Act.put,List.getElem_toArray,List.getElem_cons_zero,List.setIfInBounds_toArray,List.set_cons_zero,List.set_cons_succ]
          refine wqi [1,2,3,4,5,6,7,8,9] ?_
          repeat (refine wqt (v:=?_) rfl (by kernel_rfl) (fun _ _ _ h=>h) (by rfl) (by assumption) ?_ ?_;rotate_left;(· (intro w hSw;(try dsimp only at hSw);go_simp;try with_reducible rfl));try simp only[Act.put,List.getElem_toArray,List.getElem_cons_succ,List.getElem_cons_zero,List.setIfInBounds_toArray,List.set_cons_zero,List.set_cons_succ])
          refine wqn ?_;refine wpAnyH_ready (rs:=[10]) (by kernel_rfl) (by simp) ?_
          refine AllReadyH.cons rfl (fun K hK=>?_) AllReadyH.nil
          refine yh (by rfl) 113 #[.agg #[.bool t.text,.string t.s,.slice aa t.attrs.length ac,.slice ka t.kids.length kc],.agg #[.bool u.text,.string u.s,.slice aa' u.attrs.length ac',.slice ka' u.kids.length kc']] (by go_simp) (fun r w'=>r=.bool false∧Below wr.drew.heap.size wr.drew w') (Calls.mono HAL2.out (by rintro e w' ⟨rfl,h⟩;exact ⟨_,rfl,rfl,h⟩)) ?_
          rintro r w1 ⟨rfl,hb1⟩;refine hK.out _ _ (HY.out _ (HY1.out _ hb1)) (fun hHeld=>?_)
          clear hK K
          try simp only[Act.put,List.getElem_toArray,List.getElem_cons_succ,List.getElem_cons_zero,List.setIfInBounds_toArray,List.set_cons_zero,List.set_cons_succ]
          refine wqi [11,12] ?_
          repeat (refine wqt (v:=?_) rfl (by kernel_rfl) (fun _ _ _ h=>h) (by rfl) (by assumption) ?_ ?_;rotate_left;(· (intro w hSw;(try dsimp only at hSw);go_simp;try with_reducible rfl));try simp only[Act.put,List.getElem_toArray,List.getElem_cons_succ,List.getElem_cons_zero,List.setIfInBounds_toArray,List.set_cons_zero,List.set_cons_succ])
          refine wqn ?_;refine wqi [13,14,15,16,17,18,19,20,21,22,23,24,25,26,27,28,29,30] ?_
          repeat (refine wqu rfl (by kernel_rfl) (fun _ _ _ h=>h) (by rfl) (by assumption) ?_;try simp only[Act.put,List.getElem_toArray,List.getElem_cons_succ,List.getElem_cons_zero,List.setIfInBounds_toArray,List.set_cons_zero,List.set_cons_succ])
          refine wqn ?_;refine wpAnyH_take (i:=31) (v:=?_) rfl (by kernel_rfl) (by kernel_rfl) (by kernel_rfl) (fun _ _ _ h=>h) (Or.inl ⟨by rfl,?_⟩) (by assumption) ?_
          rotate_left
          · (intro w hSw;(try dsimp only at hSw);go_simp;try with_reducible rfl)
          try simp only[Act.put,List.getElem_toArray,List.getElem_cons_succ,List.getElem_cons_zero,List.setIfInBounds_toArray,List.set_cons_zero,List.set_cons_succ]
          refine wpAnyH_done (by kernel_rfl) ?_ _
          all_goals
           go_wp2_with fail;go_ret;exact ⟨false,rfl,HF.out,hBr.drew.trans (hb1.mono (by omega)),yW HI.out fun b hb _ _=>hb1.block b hb⟩
        | true =>
          go_wp2_with fail
          go_region_held3 (fun w1:World=>w1.cell? ⟨w.heap.size,0,none⟩=some (.slice (some ⟨b,o,none⟩) ts.length vc)∧w1.cell? ⟨w.heap.size,1,none⟩=some (.slice (some ⟨b',o',none⟩) us.length uc) ∧
           w1.cell? ⟨b,o+k*4,none⟩=some (.bool t.text)∧w1.cell? ⟨b,o+k*4+1,none⟩=some (.string t.s)∧w1.cell? ⟨b,o+k*4+2,none⟩=some (.slice aa t.attrs.length ac)∧w1.cell? ⟨b,o+k*4+3,none⟩=some (.slice ka t.kids.length kc) ∧
           w1.cell? ⟨b',o'+k*4,none⟩=some (.bool u.text)∧w1.cell? ⟨b',o'+k*4+1,none⟩=some (.string u.s)∧w1.cell? ⟨b',o'+k*4+2,none⟩=some (.slice aa' u.attrs.length ac')∧w1.cell? ⟨b',o'+k*4+3,none⟩=some (.slice ka' u.kids.length kc'))
           (first|exact hy0|exact HY.out _ (HY2.out _ _ J)|exact HY.out _ (HY1.out _ hb1)|go_keep)
           (first
            | (go_at_call 113;refine (Calls.mono HAL2.out ?_);rintro e w1 ⟨rfl,hb1⟩)
            | (go_at_call 92;refine (Calls.mono (HCALL2.out _ hb1) ?_);rintro e w3 ⟨r,rfl,q,rfl,J⟩)
            | (go_at_call 92;refine (Calls.mono (HCALL.out _ hb1) ?_);rintro e w3 ⟨r,rfl,q,rfl,J⟩))
          all_goals
           cases q with
           | false =>
             have HF:Hid (likeB (m+1) ts us=false):=HNO.out (by rw[J.1];rfl)
             go_wp2_with fail;go_ret;exact ⟨false,rfl,HF.out,hBr.trans J.2.1,yW HI.out J.2.2⟩
           | true =>
             obtain ⟨P1,wv3,J⟩:=J;go_wp2_with fail
             go_roundg (ts.length-(k+1))
             case measure => omega
             case rel => exact ⟨k+1,_,_,by omega,by go_num,X2 HKEEP.out HI.out HWV.out hlt HSN.out HPRE.out J⟩
      · have hkk : k = ts.length := by omega
        subst hkk;go_wp2_with fail;go_ret;exact ⟨true,rfl,_,_,X3 HLEN.out HI.out⟩
 · exact KL S B cb (L+1) n v v' ts us wv G w hT hU hBw hlen
section
attribute [local go_sem] qf
theorem qbi (S:Nat→Prop)(B cb:Nat):∀ L,L≤1000→Jq S B cb L:=by
 intro L
 induction L with
 | zero=>intro _;exact qak S B cb
 | succ L ih=>intro h;exact qaj S B cb L (by omega) (ih (by omega))
structure qbS (S:Nat→Prop) (B cb:Nat) (w:World) (lk:Bool) (w':World) (P:List PE) (wv:Value):Prop where
 below:Below B w w'
 cst:Pst B cb w' wv (P.map prs)
 keep:∀ b,S b→w'.heap[b]?=w.heap[b]?
 free:∀ b,S b→wv.ownBlock≠some b
 pend:∀ e∈P,KJ S w e
 like:lk=j7 P
theorem Vd {S:Nat→Prop}{B cb n:Nat}{va ua:Option Addr}{vc uc:Nat}{ts us:List Tr}{w:World}(hS:∀ b,S b→b<w.heap.size∧b≠cb)(hne:ts≠[])(hT:qb S w n (.slice va ts.length vc) ts)(hU:qb S w n (.slice ua us.length uc) us)(hC:Pst B cb w (.slice none 0 0) [])(hBw:B≤w.heap.size) :
 qbS S B cb w (likeB n ts us) ((w.setCell ⟨cb,0,none⟩ (.slice (some ⟨w.heap.size,0,none⟩) 1 1)).alloc (.cells #[.slice va ts.length vc,.slice ua us.length uc] 130)) [⟨.slice va ts.length vc,.slice ua us.length uc,n,ts,us⟩] (.slice (some ⟨w.heap.size,0,none⟩) 1 1):=by
 have hlt:=hC.lt;refine ⟨((Below.refl B w).setCell hC.base _).alloc (by simp;omega) _,⟨hC.base,?_,?_,?_⟩,?_,?_,?_,?_⟩
 · rw[Lib.alloc_old _ _ _ (by simp;omega)]
   simp[World.setCell,Array.getElem?_modify,hC.held]
 · have := World.ownsRow_lit (base := B) (e := 130) (size := 2) (w.setCell ⟨cb, 0, none⟩ (.slice (some ⟨w.heap.size, 0, none⟩) 1 1)) #[.slice va ts.length vc, .slice ua us.length uc] 1 (by simp;omega) (by unfold maxLen;omega) rfl
   simpa[prs,pairCells] using this
 · intro x hx;simp[prs]at hx
   subst hx;exact ⟨⟨_,_,_,rfl⟩,_,_,_,rfl⟩
 · intro b hb;rw[Lib.alloc_old _ _ _ (by simp;exact (hS b hb).1),Below.heap_setCell _ _ _ _ (hS b hb).2]
 · intro b hb h;cases h;exact Nat.lt_irrefl _ (hS _ hb).1
 · intro e he;simp at he
   subst he;exact ⟨hne,hT,hU⟩
 · simp[j7]
theorem YN (S:Nat→Prop)(B cb n:Nat)(v v':Value)(ts us:List Tr)(w:World)(hS:∀ b,S b→b<w.heap.size∧b≠cb)(hne:ts≠[])(hT:qb S w n v ts)(hU:qb S w n v' us)(hC:Pst B cb w (.slice none 0 0) [])(hBw:B≤w.heap.size)(hcnt:cnt n ts≤1048576) :
 Calls Tryd.prog 57 #[.pointer (some ⟨cb,0,none⟩),v,v'] w fun e w'=>e=.returned (.bool (likeB n ts us))∧Below B w w':=by
 obtain ⟨va,vc,rfl,_,hvm⟩:=qb.shape n hT;obtain ⟨ua,uc,rfl,_,hum⟩:=qb.shape n hU;have hlt:=hC.lt;have c2:w.cell? ⟨cb,0,none⟩=some (.slice none 0 0):=by rw[cH9 hC.held];rfl
 have f2:w.frozen? ⟨cb,0,none⟩=false:=fH9 hC.held 0;have HC:Hid (Pst B cb w (.slice none 0 0) []):=hC;have HT:Hid (qb S w n (.slice va ts.length vc) ts):=hT;have HU:Hid (qb S w n (.slice ua us.length uc) us):=hU;clear hC hT hU
 go_enter Tryd.func57,Tryd.ntmps57
 go_wp2_with fail
 go_loopg [] (cnt n ts) (fun g wr=>∃ P wv,yt P=g∧yt P≤cnt n ts∧qbS S B cb w (likeB n ts us) wr P wv)
 case atStart => exact ⟨_,_,by simp[yt],by simp[yt],Vd hS hne HT.out HU.out HC.out hBw⟩
 case round =>
  obtain ⟨P,wv,hm,hpc,I⟩:=hrel;subst hm;obtain ⟨wa,wc,rfl⟩:=I.cst.shape;rw[List.length_map]at I
  have d2:wr.cell? ⟨cb,0,none⟩=some (.slice wa P.length wc):=by rw[cH9 I.cst.held];rfl
  have HI:Hid (qbS S B cb w (likeB n ts us) wr P (.slice wa P.length wc)):=I;clear I
  rcases List.eq_nil_or_concat P with rfl|⟨P0,e,hPe⟩
  · simp only[List.length_nil]at d2
    go_wp2_with fail;go_ret;exact ⟨by rw[HI.out.like];rfl,HI.out.below⟩
  · rw[List.concat_eq_append]at hPe
    subst hPe;have hl:(P0++[e]).length=P0.length+1:=by simp
    rw[hl]at d2
    have hcs:Pst B cb wr (.slice wa (P0++[e]).length wc) (P0.map prs++[(e.v,e.v')]):=by
     have:=HI.out.cst;rw[List.map_append,List.map_cons,List.map_nil]at this
     exact this
    have hszr:B≤wr.heap.size:=Nat.le_trans hBw HI.out.below.size;have HCS:Hid _:=hcs;clear hcs;go_wp2_with fail;refine (V5 B cb wr _ (P0.map prs) e.v e.v' HCS.out hszr).mono ?_;rintro e' w1 ⟨rfl,v1,hc1,hv1,hk1,hb1⟩;have hB1:Below B w w1:=HI.out.below.trans hb1;obtain ⟨hp1,hp2,hp3⟩:=HI.out.pend e (by simp)
    have hwr:=HI.out.below.size;have hw1:=hb1.size;have hkp:∀ b,S b→w1.heap[b]?=w.heap[b]?:=fun b hb=>(hk1 b (by have:=(hS b hb).1;omega) (hS b hb).2).trans (HI.out.keep b hb)
    have HKP:Hid (∀ b,S b→w1.heap[b]?=w.heap[b]?):=hkp;have hfr:∀ b,S b→b<w1.heap.size∧b≠cb∧v1.ownBlock≠some b:=fun b hb=>⟨by have:=(hS b hb).1;omega,(hS b hb).2,by rw[hv1];exact HI.out.free b hb⟩
    have HFR:Hid (∀ b,S b→b<w1.heap.size∧b≠cb∧v1.ownBlock≠some b):=hfr;have hTe:qb S w1 e.n e.v e.ts:=qb.carry (fun b hb=>⟨hb,hkp b hb⟩) e.n hp2
    have hUe:qb S w1 e.n e.v' e.us:=qb.carry (fun b hb=>⟨hb,hkp b hb⟩) e.n hp3
    have h3:yt (P0++[e])=yt P0+cnt e.n e.ts:=by rw[yZ];simp[yt]
    have h5:=Xi (P:=P0) (fun x hx=>HI.out.pend x (by simp[hx]))
    rw[h3]at hpc
    have hcall:=qbi S B cb 1000 (nR9 _) e.n e.v e.v' e.ts e.us v1 (P0.map prs) w1 hfr hTe hUe hc1 (by have:=hb1.size;omega) (by rw[List.length_map];omega)
    rw[show ((1000:Nat):Int)=1000 from rfl]at hcall
    have HCALL:Hid _:=hcall;have H3:Hid (yt (P0++[e])=yt P0+cnt e.n e.ts):=h3;have HPC:Hid (yt P0+cnt e.n e.ts≤cnt n ts):=hpc
    have HLK:Hid (likeB n ts us=(j7 P0&&likeB e.n e.ts e.us)):=by
     show _=_;rw[HI.out.like,jD];simp[j7]
    clear hcall hkp hfr hk1 d2 h3 h5 hp3 hTe hUe hc1 hv1 hl hszr hpc;go_wp2_with fail;refine (Calls.mono HCALL.out ?_);rintro e' w2 ⟨r,rfl,J⟩;cases r with
    | false =>
      have HF:Hid (likeB n ts us=false):=by show _=_;rw[HLK.out,J.1,Bool.and_false]
      go_wp2_with fail;go_ret;exact ⟨by rw[HF.out];rfl,hB1.trans J.2.1⟩
    | true =>
    obtain ⟨P1,wv3,J⟩:=J;go_wp2_with fail
    go_roundg (yt (P0++P1))
    case measure =>
     have h7:=J.less.2 (by omega)
     have h8:=List.length_pos_iff.2 hp1;rw[H3.out,yZ];omega
    case rel =>
     refine ⟨P0++P1,wv3,rfl,?_,hB1.trans J.below,by rw[List.map_append];exact J.cst,fun b hb=>(J.frame b (HFR.out b hb).1 (HFR.out b hb).2.1 (HFR.out b hb).2.2).trans (HKP.out b hb),?_,?_,?_⟩
     · have h7 := J.less.1;have:=HPC.out;rw[yZ];omega
     · intro b hb h
       rcases J.row with h'|⟨b',h',h''⟩
       · exact (HFR.out b hb).2.2 (h'.symm.trans h)
       · rw[h']at h;cases h;have:=(HFR.out _ hb).1;omega
     · intro x hx
       rcases List.mem_append.1 hx with hx|hx
       · exact HI.out.pend x (by simp[hx])
       · obtain ⟨q1, q2, q3⟩ := J.pend x hx;exact ⟨q1,qb.carry (fun b hb=>⟨hb,(HKP.out b hb).symm⟩) x.n q2,qb.carry (fun b hb=>⟨hb,(HKP.out b hb).symm⟩) x.n q3⟩
     · rw[HLK.out,jD,J.like]
theorem Yp {S:Nat→Prop}{w W:World}{n g:Nat}{aa ka:Option Addr}{ac kc:Nat}{t:Tr}(hg:W.heap[g]?=some (.cells #[.bool t.text,.string t.s,.slice aa t.attrs.length ac,.slice ka t.kids.length kc] 25 (0,0)))
 (hb:Below w.heap.size w W) (hA:qe (fun b=>S b∧b<w.heap.size) w (.slice aa t.attrs.length ac) t.attrs) (hK:qb (fun b=>S b∧b<w.heap.size) w n (.slice ka t.kids.length kc) t.kids) :
 qb (fun b=>(S b∧b<w.heap.size)∨b=g) W (n+1) (.slice (some ⟨g,0,none⟩) 1 1) [t] :=
 qb.of_block (S:=fun b=>S b∧b<w.heap.size) (n:=n) (len:=1) (cap:=1) (ts:=[t]) (e:=25) (fz:=(0,0)) (qs:=[(t.text,t.s,.slice aa t.attrs.length ac,.slice ka t.kids.length kc)]) hg rfl rfl rfl (nR9 _) (by unfold maxLen;simp) (by
  intro i q t' hq ht';cases i with
  | zero =>
    simp at hq ht'
    subst hq ht';exact ⟨rfl,rfl,hA.later hb,qb.later hb n hK⟩
  | succ i=>simp at ht')
theorem qaV (S S':Nat→Prop)(n:Nat)(va vk va' vk':Value)(t u:Tr)(w:World)(h:qe S w va t.attrs)(hk:qb S w n vk t.kids)(h':qe S' w va' u.attrs)(hk':qb S' w n vk' u.kids)(hc:cnt (n+1) [t]≤1048576) :
 Calls Tryd.prog 24 #[.agg #[.bool t.text,.string t.s,va,vk],.agg #[.bool u.text,.string u.s,va',vk']] w fun e w'=>e=.returned (.bool (likeB (n+1) [t] [u]))∧Below w.heap.size w w':=by
 obtain ⟨aa,ac,rfl⟩:=h.shape;obtain ⟨ka,kc,rfl,_,_⟩:=qb.shape n hk;obtain ⟨aa',ac',rfl⟩:=h'.shape;obtain ⟨ka',kc',rfl,_,_⟩:=qb.shape n hk';have HA:Hid (qe (fun b=>S b∧b<w.heap.size) w (.slice aa t.attrs.length ac) t.attrs):=h.bounded
 have HK:Hid (qb (fun b=>S b∧b<w.heap.size) w n (.slice ka t.kids.length kc) t.kids):=qb.bounded n hk
 have HA':Hid (qe (fun b=>S' b∧b<w.heap.size) w (.slice aa' u.attrs.length ac') u.attrs):=h'.bounded
 have HK':Hid (qb (fun b=>S' b∧b<w.heap.size) w n (.slice ka' u.kids.length kc') u.kids):=qb.bounded n hk'
 clear h hk h' hk'
 have hmain:∀ X Y,X=Obj.cells #[.bool t.text,.string t.s,.slice aa t.attrs.length ac,.slice ka t.kids.length kc] 25→Y=Obj.cells #[.bool u.text,.string u.s,.slice aa' u.attrs.length ac',.slice ka' u.kids.length kc'] 25 →
  Calls Tryd.prog 57 #[.pointer (some ⟨w.heap.size+1+1,0,none⟩),.slice (some ⟨w.heap.size+1+1+1,0,none⟩) 1 1,.slice (some ⟨w.heap.size+1+1+1+1,0,none⟩) 1 1] (((((w.alloc X).alloc Y).alloc (.cells #[.slice none 0 0] 73)).alloc X).alloc Y) fun e w'=>e=.returned (.bool (likeB (n+1) [t] [u]))∧Below w.heap.size w w':=by
  intro X Y hX hY;have s1:(w.alloc X).heap.size=w.heap.size+1:=by simp
  have s2:((w.alloc X).alloc Y).heap.size=w.heap.size+1+1:=by simp
  have s3:(((w.alloc X).alloc Y).alloc (.cells #[.slice none 0 0] 73)).heap.size=w.heap.size+1+1+1:=by simp
  have s4:((((w.alloc X).alloc Y).alloc (.cells #[.slice none 0 0] 73)).alloc X).heap.size=w.heap.size+1+1+1+1:=by simp
  have hB5:Below w.heap.size w (((((w.alloc X).alloc Y).alloc (.cells #[.slice none 0 0] 73)).alloc X).alloc Y):=((((Below.alloc1 w X).alloc (by omega) Y).alloc (by omega) _).alloc (by omega) X).alloc (by omega) Y
  have g3:(((((w.alloc X).alloc Y).alloc (.cells #[.slice none 0 0] 73)).alloc X).alloc Y).heap[w.heap.size+1+1]?=some (.cells #[.slice none 0 0] 73 (0,0)):=by
   rw[Lib.alloc_old _ _ _ (by omega),Lib.alloc_old _ _ _ (by omega)]
   have e:=heap_alloc_new ((w.alloc X).alloc Y) (.cells #[.slice none 0 0] 73);rw[s2]at e
   exact e
  have g4:(((((w.alloc X).alloc Y).alloc (.cells #[.slice none 0 0] 73)).alloc X).alloc Y).heap[w.heap.size+1+1+1]?=some X:=by
   rw[Lib.alloc_old _ _ _ (by omega)]
   have e:=heap_alloc_new (((w.alloc X).alloc Y).alloc (.cells #[.slice none 0 0] 73)) X;rw[s3]at e
   exact e
  have g5:(((((w.alloc X).alloc Y).alloc (.cells #[.slice none 0 0] 73)).alloc X).alloc Y).heap[w.heap.size+1+1+1+1]?=some Y:=by
   have e:=heap_alloc_new ((((w.alloc X).alloc Y).alloc (.cells #[.slice none 0 0] 73)).alloc X) Y;rw[s4]at e
   exact e
  generalize (((((w.alloc X).alloc Y).alloc (.cells #[.slice none 0 0] 73)).alloc X).alloc Y)=W at hB5 g3 g4 g5 ⊢
  rw[hX]at g4
  rw[hY]at g5
  have hT:=Yp g4 hB5 HA.out HK.out;have hU:=Yp g5 hB5 HA'.out HK'.out;have hCst:Pst w.heap.size (w.heap.size+1+1) W (.slice none 0 0) []:=⟨by omega,g3,World.ownsRow_nil _ _ _ _,by simp⟩
  have hl5:w.heap.size+1+1+1+1<W.heap.size:=by
   rcases Nat.lt_or_ge (w.heap.size+1+1+1+1) W.heap.size with h'|h'
   · exact h'
   · simp[Array.getElem?_eq_none h']at g5
  have hcall:=YN (fun b=>(b<w.heap.size)∨b=w.heap.size+1+1+1∨b=w.heap.size+1+1+1+1) w.heap.size (w.heap.size+1+1) (n+1) _ _ [t] [u] W (by intro b hb;rcases hb with hb|rfl|rfl<;>omega) (by simp)
   (qb.carry (fun b hb=>⟨by rcases hb with hb|hb;exact Or.inl hb.2;exact Or.inr (Or.inl hb),rfl⟩) _ hT) (qb.carry (fun b hb=>⟨by rcases hb with hb|hb;exact Or.inl hb.2;exact Or.inr (Or.inr hb),rfl⟩) _ hU) hCst hB5.size hc
  refine hcall.mono ?_;rintro e w2 ⟨rfl,hb2⟩;exact ⟨rfl,hB5.trans hb2⟩
 have HM:Hid _:=hmain _ _ rfl rfl;clear hmain HA HK HA' HK';obtain ⟨q,hq⟩:∃ q,likeB (n+1) [t] [u]=q:=⟨_,rfl⟩;rw[hq]at HM ⊢
 clear hq hc
 go_enter Tryd.func24,Tryd.ntmps24
 go_wp2_with fail;refine (Calls.mono HM.out ?_);rintro e w2 ⟨rfl,hb2⟩;go_wp2_with fail;go_ret;exact ⟨rfl,hb2⟩
end
end Go.Proofs.YtfdbipeidmpciaaDoor
