/- Bundled: BenchS LayW RenW. What each says stands ahead of it. -/
import Derived.Test.YtfplhcicbbhljaaGreatDoorBundle20
import Derived.Deep.CutBlock
namespace Go.Proofs.YtfplhcicbbhljaaGreatDoor
open Go.ChangeShapes Go.WideShapes Go.ChangeAt Go.RowKit
set_option maxRecDepth 100000
section
attribute [local go_sem] qd
def Tch (N:Nat)(v:Value)(ms:List Rw)(b:Nat):Prop:=v.ownBlock=some b∨∃ i r,ms[i]?=some r∧(r.vk.ownBlock=some b∨(i<N∧r.va.ownBlock=some b))
structure zc (N bb:Nat) (w w':World) (v v':Value) (ms ms':List Rw):Prop where
 below:Below 0 w w'
 keep:∀ b,b<w.heap.size→b≠bb→¬ Tch N v ms b→w'.heap[b]?=w.heap[b]?
 new:∀ b,Tch N v' ms' b→Tch N v ms b∨w.heap.size≤b
theorem zc.refl (N bb:Nat)(w:World)(v:Value)(ms:List Rw):zc N bb w w v v ms ms:=⟨Below.refl _ _,fun _ _ _ _=>rfl,fun _ h=>Or.inl h⟩
theorem zc.trans {N bb:Nat}{w w' w'':World}{v v' v'':Value}{ms ms' ms'':List Rw}(h:zc N bb w w' v v' ms ms')(h':zc N bb w' w'' v' v'' ms' ms''):zc N bb w w'' v v'' ms ms'' :=
 ⟨h.below.trans h'.below,fun b hb hne ht=>by
  rw[h'.keep b (Nat.lt_of_lt_of_le hb h.below.size) hne (fun e=>by
   rcases h.new b e with h1|h1
   · exact ht h1
   · omega)]
  exact h.keep b hb hne ht,fun b hb=>by
  rcases h'.new b hb with h1|h1
  · exact h.new b h1
  · exact Or.inr (Nat.le_trans h.below.size h1)⟩
theorem zi.shape {B:Nat}{T:Nat→Prop}{N:Nat}{w:World}{v:Value}{ns:List Nd}{ms:List Rw}(h:zi B T N w v ns ms):∃ a c,v=.slice a ns.length c∧ns.length≤c∧c≤maxLen:=by
 rcases h.row.2 with ⟨hv,h0⟩|⟨g,cap,cur,hv,_,_,hc,hm,_⟩
 · exact ⟨none,0,by rw[hv,h0],by omega,nZ9 _⟩
 · exact ⟨_,_,hv,hc,hm⟩
def Bx (B:Nat)(T:Nat→Prop)(N bb:Nat)(w:World)(v:Value)(ns:List Nd)(ms:List Rw):Prop :=
 w.heap[bb]?=some (.cells #[v] 190 (0,0))∧B≤bb∧zi B T N w v ns ms
theorem Tch.lt {B:Nat}{T:Nat→Prop}{N:Nat}{w:World}{v:Value}{ns:List Nd}{ms:List Rw}(h:zi B T N w v ns ms){b:Nat}(ht:Tch N v ms b):B≤b∧b<w.heap.size:=by
 rcases ht with ht|⟨i,r,hr,ht⟩
 · exact h.row.lt b ht
 · obtain ⟨x, _, hx⟩ := h.get' hr
   rcases ht with ht|⟨hi,ht⟩
   · exact qZ.lt hx.kids b ht
   · exact (hx.own hi).lt b ht
def XG (d:Nat):Prop:=∀ (B:Nat)(T:Nat→Prop)(N bb:Nat)(va vk:Value)(t:Tr)(par:Int)(v:Value)(ns:List Nd)(ms:List Rw)(w:World),qm T w va t.attrs→qb T w d vk t.kids→Bx B T N bb w v ns ms→N≤ns.length→ns.length+cnt (d+1) [t]≤1048576 →
 Calls Tryz.prog 195 #[.pointer (some ⟨bb,0,none⟩),.agg #[.bool t.text,.string t.s,va,vk],.int .i64 par] w fun e w'=>e=.returned (.int .i64 (ns.length:Int)) ∧
  ∃ v' ms',Bx B T N bb w' v' (ns++layF d t par ns.length) ms'∧zc N bb w w' v v' ms ms'
theorem nodeInfoB:(Tryz.prog.info? 90).map (fun i=>(i.zero,i.size,i.bytes))=some (some (.agg #[.bool false,.string ⟨#[]⟩,.slice none 0 0,.int .i64 0,.slice none 0 0]),5,80):=by kernel_rfl
theorem Xs (w:World)(a b c d e:Value)(t:TypeId):∀ (j:Nat)(u:Value),([a,b,c,d,e]:List Value)[j]?=some u→(w.alloc (.cells #[a,b,c,d,e] t)).cell? ((⟨w.heap.size,0,none⟩:Addr).add j)=some u:=by
 intro j u hj
 match j,hj with
 | 0,hj|1,hj|2,hj|3,hj|4,hj=>simp at hj;subst hj;simp[Addr.add]
 | j+5,hj=>simp at hj
theorem Jr {ops:Array Oper}{o:Oper}{a:Act}{w:World}{K:Act→World→Prop}{Q:Exit→Act→World→Prop}{E:Prop}
 (hg:o.guard=none) (s x:Operand) (hop:o.op=Op.call { callee:=Callee.builtin Builtin.append,args:=#[s,x],argTypes:=#[58,58] })
 (B:Nat) (v:Value) (n:Nat) (xs:List Value) (hs:a.eval s=v) (hown:w.ownsRow B 90 5 v n xs) (ad:Addr) (tx:Bool) (st:ByteArray) (aa:Option Addr) (al ac:Nat) (par:Int) (ka:Option Addr) (kl kc:Nat) (hx:a.eval x=.slice (some ad) 1 1)
 (hnews:∀ j u,[Value.bool tx,Value.string st,Value.slice aa al ac,Value.int .i64 par,Value.slice ka kl kc][j]?=some u→w.cell? (ad.add j)=some u) (hn:n≤1048576) (hB:B≤w.heap.size)
 (hK:∀ v' w',w'.ownsRow B 90 5 v' (n+1) (xs++[.bool tx,.string st,.slice aa al ac,.int .i64 par,.slice ka kl kc])→w.grownBy w' v.ownBlock→(v'.ownBlock=v.ownBlock∨v'.ownBlock=some w.heap.size)→K (a.put o.dst v') w') :
 if Region.wanted o (yielded ops a.tmps)=true then Oper.wp Tryz.prog o a w K Q else E:=by
 have hw:Region.wanted o (yielded ops a.tmps)=true:=by simp[Region.wanted,hg]
 rw[if_pos hw];obtain ⟨i0,hi,hz0,hz1,hz2⟩:=info_parts nodeInfoB;obtain ⟨v',w',hr,h2,h3,_,h5⟩:=run_append_own_at (P:=Tryz.prog) w B 58 o.type 90 i0 _ 5 80 Tryz.underlying58 hi hz0 hz1 hz2 rfl (by decide) v n xs hown ad 1 1 [.bool tx,.string st,.slice aa al ac,.int .i64 par,.slice ka kl kc] rfl hnews (by intro u hu;simp at hu;rcases hu with rfl|rfl|rfl|rfl|rfl<;>rfl) (by unfold maxLen;omega) (by omega) hB
 unfold Oper.wp;simp[execOp,hop,resolve,invoke,builtin,hs,hx,hr,Result.andThen];exact hK v' w' h2 h3 h5
structure LB (B:Nat) (T:Nat→Prop) (N bb:Nat) (w:World) (v:Value) (ms:List Rw) (bx:Array Value) (v':Value) (ns':List Nd) (ms':List Rw) (W:World):Prop where
 bench:Bx B T N bb W v' ns' ms'
 box:W.heap[w.heap.size]?=some (.cells bx 79 (0,0))
 st:zc N bb w W v v' ms ms'
theorem zi.setBox {B:Nat}{T:Nat→Prop}{N bb:Nat}{w:World}{v u:Value}{ns:List Nd}{ms:List Rw}{c:Array Value}(h:zi B T N w v ns ms)(hb:w.heap[bb]?=some (.cells c 190 (0,0)))(hB:B≤bb):zi B T N (w.setCell ⟨bb,0,none⟩ u) v ns ms:=by
 have ne:∀ {e:TypeId} {b:Nat},zw B e w b→e≠190→b≠bb:=fun hs hne=>zL hs ⟨nZ9 _,_,_,hb⟩ hne
 exact h.keep (by simp) (fun b hb'=>qc (by omega)) (fun b hs=>qc (ne hs (by decide))) (fun b hs=>qc (ne hs (by decide))) (fun b hs=>qc (ne hs (by decide)))
theorem qbA {B:Nat}{T:Nat→Prop}{N bb:Nat}{w W w6:World}{v v6 va:Value}{ns:List Nd}{ms:List Rw}{t:Tr}{par:Int}{bx:Array Value}(hX:w.heap[bb]?=some (.cells #[v] 190 (0,0)))(hBb:B≤bb)(h:zi B T N w v ns ms)(hA:qm T w va t.attrs)(hN:N≤ns.length)
 (hW:Below w.heap.size w W) (hbx:W.heap[w.heap.size]?=some (.cells bx 79 (0,0)))
 (hown:w6.ownsRow B 90 5 v6 (ns.length+1) (rawCells ms++[.bool t.text,.string t.s,va,.int .i64 par,.slice none 0 0])) (hg:W.grownBy w6 v.ownBlock) (hat:v6.ownBlock=v.ownBlock∨v6.ownBlock=some W.heap.size) :
 LB B T N bb w v ms bx v6 (ns++[⟨t.text,t.s,t.attrs,par,[]⟩]) (ms++[⟨t.text,t.s,va,par,.slice none 0 0⟩]) (w6.setCell ⟨bb,0,none⟩ v6):=by
 have hbw:bb<w.heap.size:=qh hX;have hs:=hW.size;have hg':=hg.size;have hvb:v.ownBlock≠some bb:=fun e=>zL (qi h.row e) (B':=0) ⟨nZ9 _,_,_,hX⟩ (by decide) rfl
 have hvt:v.ownBlock≠some w.heap.size:=fun e=>by have:=(h.row.lt _ e).2;omega
 have h6:w6.heap[bb]?=some (.cells #[v] 190 (0,0)):=by rw[hg.block bb (by omega) (fun e=>hvb e.symm),hW.block bb hbw];exact hX
 have hb6:zi B T N w6 v6 (ns++[⟨t.text,t.s,t.attrs,par,[]⟩]) (ms++[⟨t.text,t.s,va,par,.slice none 0 0⟩]) :=
  (h.later hW).snoc hown hg ⟨rfl,rfl,rfl,qZ.nil _ _,fun hi=>absurd hi (by omega),fun _=>hA.later hW⟩ hN rfl
 refine ⟨⟨?_,hBb,hb6.setBox h6 hBb⟩,?_,⟨?_,?_,?_⟩⟩
 · simp[World.setCell,Array.getElem?_modify,h6]
 · rw[qc (by omega), hg.block _ (by rw[←Nat.not_le];intro hn;rw[Array.getElem?_eq_none hn]at hbx;cases hbx) (fun e => hvt e.symm)]
   exact hbx
 · exact ((hW.mono (nZ9 _)).grown hg (nZ9 _) (fun _ _=>nZ9 _)).setCell (p:=⟨bb,0,none⟩) (nZ9 _) _
 · intro b hb hne ht;rw[qc hne,hg.block b (by omega) (fun e=>ht (Or.inl e.symm)),hW.block b hb]
 · intro b hb
   rcases hb with hb|⟨i,r,hr,hb⟩
   · rcases hat with e | e
     · rw[e]at hb;exact Or.inl (Or.inl hb)
     · rw[e]at hb;injection hb with hb;omega
   · rcases Nat.lt_or_ge i ms.length with hi | hi
     · rw[List.getElem?_append_left hi]at hr
       exact Or.inl (Or.inr ⟨i,r,hr,hb⟩)
     · rw[List.getElem?_append_right hi]at hr
       have hz:i-ms.length=0:=by
        rcases Nat.eq_zero_or_pos (i-ms.length) with h'|h'
        · exact h'
        · rw[List.getElem?_eq_none (by simp;omega)]at hr;cases hr
       rw[hz]at hr
       simp at hr
       subst hr
       rcases hb with hb|⟨hiN,_⟩
       · cases hb
       · rw[h.len]at hi;omega
theorem Tch.type {B:Nat}{T:Nat→Prop}{N:Nat}{w:World}{v:Value}{ns:List Nd}{ms:List Rw}(h:zi B T N w v ns ms){b:Nat}(ht:Tch N v ms b):zw B 90 w b∨zw B 3 w b∨zw B 93 w b:=by
 rcases ht with ht|⟨i,r,hr,ht⟩
 · exact Or.inl (qi h.row ht)
 · obtain ⟨x, _, hx⟩ := h.get' hr
   rcases ht with ht|⟨hi,ht⟩
   · exact Or.inr (Or.inl (qi hx.kids ht))
   · exact Or.inr (Or.inr (qi (hx.own hi) ht))
theorem Tch.not {B:Nat}{T:Nat→Prop}{N:Nat}{w:World}{v:Value}{ns:List Nd}{ms:List Rw}(h:zi B T N w v ns ms){b:Nat}{e:TypeId}{c:Array Value}{fz:Nat × Nat}(hb:w.heap[b]?=some (.cells c e fz))(h1:e≠90)(h2:e≠3)(h3:e≠93):¬ Tch N v ms b:=by
 intro ht;have hs:zw 0 e w b:=⟨nZ9 _,_,_,hb⟩
 rcases Tch.type h ht with h'|h'|h'
 · exact zL hs h' h1 rfl
 · exact zL hs h' h2 rfl
 · exact zL hs h' h3 rfl
theorem zc.box {B:Nat}{T:Nat→Prop}{N bb:Nat}{w w':World}{v v':Value}{ns:List Nd}{ms ms':List Rw}(h:zc N bb w w' v v' ms ms')(hB:zi B T N w v ns ms)(hbb:w.heap[bb]?=some (.cells #[v] 190 (0,0))){b:Nat}{c:Array Value}(hb:w.heap[b]?=some (.cells c 79 (0,0))):w'.heap[b]?=some (.cells c 79 (0,0)):=by
 rw[h.keep b (qh hb) (fun e=>by subst e;rw[hb]at hbb;injection hbb with hbb;injection hbb with _ h2 _;exact absurd h2 (by decide)) (Tch.not hB hb (by decide) (by decide) (by decide))]
 exact hb
theorem zc.low {B:Nat}{T:Nat→Prop}{N bb:Nat}{w w':World}{v v':Value}{ns:List Nd}{ms ms':List Rw}(h:zc N bb w w' v v' ms ms')(hB:zi B T N w v ns ms)(hBb:B≤bb):∀ b,b<B→w'.heap[b]?=w.heap[b]? :=
 fun b hb=>h.keep b (Nat.lt_of_lt_of_le hb hB.le) (by omega) (fun e=>by have:=(Tch.lt hB e).1;omega)
theorem zc.later {N bb:Nat}{w w' w'':World}{v v':Value}{ms ms':List Rw}(h:zc N bb w w' v v' ms ms')(hb:Below w'.heap.size w' w''):zc N bb w w'' v v' ms ms' :=
 ⟨h.below.trans (hb.mono (nZ9 _)),fun b h1 h2 h3=>by rw[hb.block b (Nat.lt_of_lt_of_le h1 h.below.size)];exact h.keep b h1 h2 h3,h.new⟩
theorem zc.before {N bb:Nat}{w w' w'':World}{v v':Value}{ms ms':List Rw}(hb:Below w.heap.size w w')(h:zc N bb w' w'' v v' ms ms'):zc N bb w w'' v v' ms ms' :=
  ⟨(hb.mono (nZ9 _)).trans h.below, fun b h1 h2 h3 => by rw[h.keep b (Nat.lt_of_lt_of_le h1 hb.size) h2 h3];exact hb.block b h1, fun b hb' => by
    rcases h.new b hb' with h1|h1
    · exact Or.inl h1
    · exact Or.inr (Nat.le_trans hb.size h1)⟩
theorem Bx.later {B:Nat}{T:Nat→Prop}{N bb:Nat}{w w':World}{v:Value}{ns:List Nd}{ms:List Rw}(h:Bx B T N bb w v ns ms)(hb:Below w.heap.size w w'):Bx B T N bb w' v ns ms :=
 ⟨(hb.block bb (qh h.1)).trans h.1,h.2.1,h.2.2.later hb⟩
theorem qbz {B:Nat}{T:Nat→Prop}{N bb:Nat}{w Wx w6:World}{g cap n:Nat}{L:List Nd}{ms:List Rw}{r:Rw}{x:Nd}{v':Value}{l:List Int}(h:Bx B T N bb w (.slice (some ⟨g,0,none⟩) L.length cap) L ms)(hr:ms[n]?=some r)(hx:L[n]?=some x)(hW:Below w.heap.size w Wx)
 (hown:qZ B w6 v' l) (hg:Wx.grownBy w6 r.vk.ownBlock) (hat:v'.ownBlock=r.vk.ownBlock∨v'.ownBlock=some Wx.heap.size) :
 Bx B T N bb (w6.setCell ⟨g,n*5+4,none⟩ v') (.slice (some ⟨g,0,none⟩) L.length cap) (L.set n { x with kids:=l }) (ms.set n { r with vk:=v' })∧zc N bb w (w6.setCell ⟨g,n*5+4,none⟩ v') (.slice (some ⟨g,0,none⟩) L.length cap) (.slice (some ⟨g,0,none⟩) L.length cap) ms (ms.set n { r with vk:=v' }):=by
 obtain ⟨hb0,hBb,hB⟩:=h;have hBx:=hB.later hW;have hR:=hBx.each n r x hr hx;have hgs:=hg.size;have hgo:zw B 90 Wx g:=qi hBx.row rfl;have hgr:r.vk.ownBlock≠some g:=fun e=>qv hR.kids hgo (by decide) e.symm
 have row6:w6.ownsRow B 90 5 (.slice (some ⟨g,0,none⟩) L.length cap) L.length (rawCells ms):=hBx.row.kept hg (Or.inr (fun e=>hgr e.symm))
 have hnm:n<ms.length:=(List.getElem?_eq_some_iff.1 hr).1;have low6:∀ b,b<B→w6.heap[b]?=Wx.heap[b]?:=fun b hb=>hg.block b (Nat.lt_of_lt_of_le hb hBx.le) (fun e=>by have:=(qZ.lt hR.kids b e.symm).1;omega)
 have hput:=hBx.put (w1:=w6) (w2:=w6.setCell ⟨g,n*5+4,none⟩ v') (r':={ r with vk:=v' }) (x':={ x with kids:=l }) hr hx hgs (by simp)
  (fun b h1 h2 _=>hg.block b h1 (fun e=>h2 e.symm)) (by rw[yK ms n r v' hr];exact (row6.stored (n*5+4) v').1) (fun b hb=>qc (fun e=>hb (by rw[e];rfl)))
  ⟨hR.text,hR.s,hR.par,hown,fun hi=>qn (hR.own hi) (fun b hb=>by
   have hs:=qi (hR.own hi) hb;exact hg.block b hs.lt (qv hR.kids hs (by decide))),fun hi=>(hR.far hi).carry fun b hb=>⟨hb,low6 b (hB.low b hb)⟩⟩
  (fun b hb=>by
   rcases hat with e|e
   · exact Or.inl (e ▸ hb)
   · rw[e]at hb;injection hb with hb;exact Or.inr (by omega)) (fun _ b hb=>Or.inl hb)
 have hbg:bb≠g:=fun e=>zL (B:=0) (B':=B) (w:=Wx) ⟨nZ9 _,_,_,(hW.block bb (qh hb0)).trans hb0⟩ (e ▸ hgo:zw B 90 Wx bb) (by decide) rfl
 have hbr:r.vk.ownBlock≠some bb:=fun e=>zL (qi hR.kids e) (B':=0) ⟨nZ9 _,_,_,(hW.block bb (qh hb0)).trans hb0⟩ (by decide) rfl
 have hws:=hW.size;refine ⟨⟨?_,hBb,hput⟩,⟨?_,?_,?_⟩⟩
 · rw[qc hbg,hg.block bb (by have:=qh hb0;omega) (fun e=>hbr e.symm),hW.block bb (qh hb0)];exact hb0
 · exact ((hW.mono (nZ9 _)).grown hg (nZ9 _) (fun _ _=>nZ9 _)).setCell (p:=⟨g,n*5+4,none⟩) (nZ9 _) _
 · intro b h1 h2 h3;rw[qc (fun e=>h3 (Or.inl (by rw[e];rfl))),hg.block b (by omega) (fun e=>h3 (Or.inr ⟨n,r,hr,Or.inl e.symm⟩)),hW.block b h1]
 · intro b hb
   rcases hb with hb|⟨i,q,hq,hb⟩
   · exact Or.inl (Or.inl hb)
   · by_cases hi : i = n
     · subst hi;rw[List.getElem?_set_self hnm]at hq
       injection hq with hq
       subst hq
       rcases hb with hb|hb
       · rcases hat with e | e
         · exact Or.inl (Or.inr ⟨i,r,hr,Or.inl (e ▸ hb)⟩)
         · simp only at hb
           rw[e]at hb;injection hb with hb;exact Or.inr (by omega)
       · exact Or.inl (Or.inr ⟨i,r,hr,Or.inr hb⟩)
     · rw[List.getElem?_set_ne (fun e => hi e.symm)]at hq
       exact Or.inl (Or.inr ⟨i,q,hq,hb⟩)
end
section
attribute [local go_sem] qd
theorem qdF {d nx:Nat}:∀ (ts:List Tr)(a:Nat),Deep (d+1) ts→(qu d (layF d) nx a ts).length=cnt (d+1) ts:=by
 intro ts
 induction ts with
 | nil=>intro _ _;rfl
 | cons u ts ih2 =>
   intro a hd;rw[qu,List.length_append,layF_length d u _ _ (hd u List.mem_cons_self),ih2 _ (fun x hx=>hd x (List.mem_cons_of_mem _ hx)),zj d u ts]
def yG (d:Nat)(t:Tr)(par:Int)(ns:List Nd)(i:Nat):List Nd:=ns++(⟨t.text,t.s,t.attrs,par,qk (d-1) (ns.length+1) (t.kids.take i)⟩::qu (d-1) (layF (d-1)) ns.length (ns.length+1) (t.kids.take i))
theorem XB {d:Nat}{t:Tr}{par:Int}{ns:List Nd}{i:Nat}(hd:Deep (d+1) t.kids):(yG (d+1) t par ns i).length=ns.length+1+cnt (d+1) (t.kids.take i):=by
 unfold yG;rw[List.length_append,List.length_cons,Nat.add_sub_cancel,qdF _ _ (fun u hu=>hd u (List.mem_of_mem_take hu))]
 omega
theorem qem {d:Nat}{t:Tr}{par:Int}{ns:List Nd}{i:Nat}(r:List Nd):(yG d t par ns i++r)[ns.length]?=some ⟨t.text,t.s,t.attrs,par,qk (d-1) (ns.length+1) (t.kids.take i)⟩:=by
 unfold yG;rw[List.append_assoc,List.getElem?_append_right (nR9 _)];simp
theorem jz (d:Nat):∀ (ts:List Tr)(a:Nat),(qk d a ts).length=ts.length:=by
 intro ts
 induction ts with
 | nil=>intro _;rfl
 | cons u ts ih=>intro a;rw[qk,List.length_cons,List.length_cons,ih]
theorem qbe {d:Nat}{t k:Tr}{par:Int}{ns:List Nd}{i:Nat}(hk:t.kids[i]?=some k)(hd:Deep (d+1) t.kids) :
 (yG (d+1) t par ns i++layF d k ns.length (yG (d+1) t par ns i).length).set ns.length { (⟨t.text,t.s,t.attrs,par,qk d (ns.length+1) (t.kids.take i)⟩:Nd) with kids:=qk d (ns.length+1) (t.kids.take i)++[((yG (d+1) t par ns i).length:Int)] }=yG (d+1) t par ns (i+1):=by
 rw[XB hd];unfold yG;rw[Nat.add_sub_cancel,Yb hk,yP,jC,List.append_assoc,List.cons_append,List.set_append_right _ _ (nR9 _),Nat.sub_self,List.set_cons_zero];simp[qk,qu]
theorem zi.at {B:Nat}{T:Nat→Prop}{N:Nat}{w:World}{v:Value}{ns:List Nd}{ms:List Rw}(h:zi B T N w v ns ms){i:Nat}{r:Rw}(hr:ms[i]?=some r):∃ g cap,v=.slice (some ⟨g,0,none⟩) ns.length cap∧ns.length≤cap∧cap≤maxLen∧B≤g∧g<w.heap.size ∧
 w.cell? ⟨g,i*5,none⟩=some (.bool r.text)∧w.cell? ⟨g,i*5+1,none⟩=some (.string r.s)∧w.cell? ⟨g,i*5+2,none⟩=some r.va∧w.cell? ⟨g,i*5+3,none⟩=some (.int .i64 r.par)∧w.cell? ⟨g,i*5+4,none⟩=some r.vk∧∀ j,w.frozen? ⟨g,j,none⟩=false:=by
 have hi:i<ns.length:=by rw[←h.len];exact (List.getElem?_eq_some_iff.1 hr).1
 rcases h.row.2 with ⟨hv,h0⟩|⟨g,cap,cur,hv,hB,hh,hc,hm,_⟩
 · omega
 · have hrow := h.row;subst hv;obtain ⟨g0,g1,g2,g3,g4⟩:=zU ms i r hr;exact ⟨g,cap,rfl,hc,hm,hB,qh hh,by rw[World.ownsRow.cellAt hrow (i*5) (by omega),g0],by rw[World.ownsRow.cellAt hrow (i*5+1) (by omega),g1],by rw[World.ownsRow.cellAt hrow (i*5+2) (by omega),g2],by rw[World.ownsRow.cellAt hrow (i*5+3) (by omega),g3],by rw[World.ownsRow.cellAt hrow (i*5+4) (by omega),g4],fun j=>World.ownsRow.frozenAt hrow _⟩
set_option linter.unusedSimpArgs false in
set_option maxHeartbeats 4000000 in
theorem J9 (d:Nat)(ih:∀ d',d=d'+1→XG d'):XG d:=by
 intro B T N bb va vk t par v ns ms w hA hK hX hN hc;obtain ⟨hbx,hBb,hBn⟩:=hX;obtain ⟨a,cap,rfl,_,_⟩:=hBn.shape;obtain ⟨aa,ac,rfl⟩:=hA.shape;obtain ⟨ka,kc,rfl,hkl,hkm⟩:=qb.shape d hK;have hv0:w.cell? ⟨bb,0,none⟩=some (.slice a ns.length cap):=by simp[World.cell?,hbx]
 have hbw:bb<w.heap.size:=World.block_lt_of_cell? w _ hv0;have HX:Hid (w.heap[bb]?=some (.cells #[.slice a ns.length cap] 190 (0,0))):=hbx;have HBn:Hid (zi B T N w (.slice a ns.length cap) ns ms):=hBn;have HA:Hid (qm T w (.slice aa t.attrs.length ac) t.attrs):=hA;have HKT:Hid (qb T w d (.slice ka t.kids.length kc) t.kids):=hK;have hn20:ns.length≤1048576:=by omega
 clear hbx hBn hA hK;have HB1:Hid _:=Below.alloc1 w (.cells #[.bool t.text,.string t.s,.slice aa t.attrs.length ac,.slice ka t.kids.length kc] 79);have HT1:Hid _:=heap_alloc_new w (.cells #[.bool t.text,.string t.s,.slice aa t.attrs.length ac,.slice ka t.kids.length kc] 79);have hv1:(w.alloc (.cells #[.bool t.text,.string t.s,.slice aa t.attrs.length ac,.slice ka t.kids.length kc] 79)).cell? ⟨bb,0,none⟩=some (.slice a ns.length cap):=Lib.cell?_alloc_some _ hv0
 go_enter Tryz.func195,Tryz.ntmps195
 go_upto_region 2 with fail
 generalize w.alloc (.cells #[.bool t.text,.string t.s,.slice aa t.attrs.length ac,.slice ka t.kids.length kc] 79)=W1 at HB1 HT1 hv1 ⊢
 go_cut [] from 16 to 33 (fun wz=>∃ (v1:Value) (ms1:List Rw),LB B T N bb w (.slice a ns.length cap) ms #[.bool t.text,.string t.s,.slice aa t.attrs.length ac,.slice ka t.kids.length kc] v1 (ns++[⟨t.text,t.s,t.attrs,par,[]⟩]) ms1 wz)
 case first =>
  have hne2:w.heap.size≠bb:=by omega
  have hsz1:w.heap.size<W1.heap.size:=qh HT1.out
  have HWW:Hid (∀ W':World,W'.heap[w.heap.size]?=W1.heap[w.heap.size]?→W'.cell? ⟨w.heap.size,0,none⟩=some (.bool t.text)∧W'.cell? ⟨w.heap.size,1,none⟩=some (.string t.s)∧W'.cell? ⟨w.heap.size,2,none⟩=some (.slice aa t.attrs.length ac)):=by
   intro W' h2;rw[HT1.out]at h2
   exact ⟨by rw[cH9 h2];rfl,by rw[cH9 h2];rfl,by rw[cH9 h2];rfl⟩
  have HS1:Hid _:=HWW.out W1.drew rfl;have HS2:Hid _:=HWW.out (W1.drew.alloc (.cells #[.bool t.text,.string t.s,.slice aa t.attrs.length ac,.int .i64 par,.slice none 0 0] 90)) (Lib.alloc_old _ _ _ hsz1);have HWB:Hid (Below w.heap.size w (W1.drew.alloc (.cells #[.bool t.text,.string t.s,.slice aa t.attrs.length ac,.int .i64 par,.slice none 0 0] 90))):=HB1.out.drew.alloc HB1.out.size _;have HTB:Hid ((W1.drew.alloc (.cells #[.bool t.text,.string t.s,.slice aa t.attrs.length ac,.int .i64 par,.slice none 0 0] 90)).heap[w.heap.size]?=some (.cells #[.bool t.text,.string t.s,.slice aa t.attrs.length ac,.slice ka t.kids.length kc] 79 (0,0))):=(Lib.alloc_old _ _ _ hsz1).trans HT1.out;have HOW:Hid _:=(HBn.out.later HWB.out).row;have HBW:Hid (B≤(W1.drew.alloc (.cells #[.bool t.text,.string t.s,.slice aa t.attrs.length ac,.int .i64 par,.slice none 0 0] 90)).heap.size):=(HBn.out.later HWB.out).le;have HNT:Hid ((Value.slice a ns.length cap).ownBlock≠some w.heap.size):=fun e=>by have:=(HBn.out.row.lt _ e).2;omega
  have HNB:Hid ((Value.slice a ns.length cap).ownBlock≠some bb):=fun e=>zL (qi HBn.out.row e) (B':=0) ⟨nZ9 _,_,_,HX.out⟩ (by decide) rfl
  have HKP:Hid (∀ w6,(W1.drew.alloc (.cells #[.bool t.text,.string t.s,.slice aa t.attrs.length ac,.int .i64 par,.slice none 0 0] 90)).grownBy w6 (Value.slice a ns.length cap).ownBlock→w6.heap[w.heap.size]?=W1.heap[w.heap.size]?):=by
   intro w6 h6;rw[h6.block _ (by rw[World.size_alloc];show _<W1.heap.size+1;omega) (fun e=>HNT.out e.symm)]
   exact Lib.alloc_old _ _ _ hsz1
  have HKB:Hid (∀ w6,(W1.drew.alloc (.cells #[.bool t.text,.string t.s,.slice aa t.attrs.length ac,.int .i64 par,.slice none 0 0] 90)).grownBy w6 (Value.slice a ns.length cap).ownBlock→w6.heap[bb]?=some (.cells #[.slice a ns.length cap] 190 (0,0))):=by
   intro w6 h6;rw[h6.block _ (by rw[World.size_alloc];show _<W1.heap.size+1;omega) (fun e=>HNB.out e.symm),HWB.out.block bb hbw]
   exact HX.out
  have hv3:(W1.alloc (.cells #[.bool t.text,.string t.s,.slice aa t.attrs.length ac,.int .i64 par,.slice none 0 0] 90)).cell? ⟨bb,0,none⟩=some (.slice a ns.length cap):=Lib.cell?_alloc_some _ hv1;have hv2:(W1.drew.alloc (.cells #[.bool t.text,.string t.s,.slice aa t.attrs.length ac,.int .i64 par,.slice none 0 0] 90)).cell? ⟨bb,0,none⟩=some (.slice a ns.length cap):=Lib.cell?_alloc_some _ hv1;refine wp_region_held_drew (S:=fun W:World=>W.cell? ⟨w.heap.size,0,none⟩=some (.bool t.text)∧W.cell? ⟨w.heap.size,1,none⟩=some (.string t.s)∧W.cell? ⟨w.heap.size,2,none⟩=some (.slice aa t.attrs.length ac)) (by kernel_rfl) HS1.out (fun hHeld=>?_)
  refine wqi [0,1,2,3,5,6,7,8,9,10,11,12] ?_
  repeat (refine wqt (v:=?_) rfl (by kernel_rfl) (fun _ _ _ h=>h) (by rfl) (by assumption) ?_ ?_;rotate_left;(· (intro w hSw;(try dsimp only at hSw);go_simp;try with_reducible rfl));try simp only[Act.put,List.getElem_toArray,List.getElem_cons_succ,List.getElem_cons_zero,List.setIfInBounds_toArray,List.set_cons_zero,List.set_cons_succ])
  refine wqn ?_;refine wpAnyH_ready (rs:=[4,13]) (by kernel_rfl) (by simp) ?_
  refine AllReadyH.cons rfl (fun K hK=>?_) (AllReadyH.cons rfl (fun K hK=>?_) AllReadyH.nil)
  · go_simp;refine hK.out _ _ HS1.out (fun hHeld=>?_)
    clear hK K
    try simp only[Act.put,List.setIfInBounds_toArray,List.set_cons_zero,List.set_cons_succ]
    refine wpAnyH_ready (rs:=[13]) (by kernel_rfl) (by simp) ?_
    refine AllReadyH.cons rfl (fun K hK=>?_) AllReadyH.nil
    go_simp;refine hK.out _ _ HS2.out (fun hHeld=>?_)
    clear hK K
    try simp only[Act.put,List.setIfInBounds_toArray,List.set_cons_zero,List.set_cons_succ]
    refine wpAnyH_ready (rs:=[14]) (by kernel_rfl) (by simp) ?_
    refine AllReadyH.cons rfl (fun K hK=>?_) AllReadyH.nil
    refine Jr (by rfl) (.tmp 20) (.tmp 29) (by rfl) B (.slice a ns.length cap) ns.length (rawCells ms) (by first|rfl|simp[Act.eval]) HOW.out ⟨W1.heap.size,0,none⟩ t.text t.s aa t.attrs.length ac par none 0 0 (by first|rfl|simp[Act.eval]) (Xs W1.drew _ _ _ _ _ _) (by omega) HBW.out ?_
    intro v6 w6 hown6 hgr6 hat6;obtain ⟨a6,n6,c6,rfl⟩:=qQ hown6;have HR:=qbA HX.out hBb HBn.out HA.out hN HWB.out HTB.out hown6 hgr6 hat6;have HS5:Hid _:=HWW.out w6 (HKP.out w6 hgr6);have HS6:Hid _:=HWW.out (w6.setCell ⟨bb,0,none⟩ (.slice a6 n6 c6)) ((qc hne2).trans (HKP.out w6 hgr6));have hd6:=HKB.out w6 hgr6;have z6:=cH9 hd6 0;have f6:=fH9 hd6 0;simp at z6
    have HRR:Hid _:=HR;clear HR hd6;refine hK.out _ _ HS5.out (fun hHeld=>?_)
    clear hK K
    try simp only[Act.put,List.setIfInBounds_toArray,List.set_cons_zero,List.set_cons_succ]
    refine wqi [15,16] ?_
    repeat (refine wqt (v:=?_) rfl (by kernel_rfl) (fun _ _ _ h=>h) (by rfl) (by assumption) ?_ ?_;rotate_left;(· (intro w hSw;(try dsimp only at hSw);go_simp;try with_reducible rfl));try simp only[Act.put,List.getElem_toArray,List.getElem_cons_succ,List.getElem_cons_zero,List.setIfInBounds_toArray,List.set_cons_zero,List.set_cons_succ])
    refine wqn ?_;refine wpAnyH_ready (rs:=[17]) (by kernel_rfl) (by simp) ?_
    refine AllReadyH.cons rfl (fun K hK=>?_) AllReadyH.nil
    go_simp;refine hK.out _ _ HS6.out (fun hHeld=>?_)
    clear hK K
    try simp only[Act.put,List.setIfInBounds_toArray,List.set_cons_zero,List.set_cons_succ]
    refine wpAnyH_done (by kernel_rfl) ?_ _
    go_wp2_with fail
    go_meet
    case rel => exact ⟨_,_,HRR.out⟩
  · go_simp;refine hK.out _ _ HS2.out (fun hHeld=>?_)
    clear hK K
    try simp only[Act.put,List.setIfInBounds_toArray,List.set_cons_zero,List.set_cons_succ]
    refine wpAnyH_ready (rs:=[4]) (by kernel_rfl) (by simp) ?_
    refine AllReadyH.cons rfl (fun K hK=>?_) AllReadyH.nil
    go_simp;refine hK.out _ _ HS2.out (fun hHeld=>?_)
    clear hK K
    try simp only[Act.put,List.setIfInBounds_toArray,List.set_cons_zero,List.set_cons_succ]
    refine wpAnyH_ready (rs:=[14]) (by kernel_rfl) (by simp) ?_
    refine AllReadyH.cons rfl (fun K hK=>?_) AllReadyH.nil
    refine Jr (by rfl) (.tmp 20) (.tmp 29) (by rfl) B (.slice a ns.length cap) ns.length (rawCells ms) (by first|rfl|simp[Act.eval]) HOW.out ⟨W1.heap.size,0,none⟩ t.text t.s aa t.attrs.length ac par none 0 0 (by first|rfl|simp[Act.eval]) (Xs W1.drew _ _ _ _ _ _) (by omega) HBW.out ?_
    intro v6 w6 hown6 hgr6 hat6;obtain ⟨a6,n6,c6,rfl⟩:=qQ hown6;have HR:=qbA HX.out hBb HBn.out HA.out hN HWB.out HTB.out hown6 hgr6 hat6;have HS5:Hid _:=HWW.out w6 (HKP.out w6 hgr6);have HS6:Hid _:=HWW.out (w6.setCell ⟨bb,0,none⟩ (.slice a6 n6 c6)) ((qc hne2).trans (HKP.out w6 hgr6));have hd6:=HKB.out w6 hgr6;have z6:=cH9 hd6 0;have f6:=fH9 hd6 0;simp at z6
    have HRR:Hid _:=HR;clear HR hd6;refine hK.out _ _ HS5.out (fun hHeld=>?_)
    clear hK K
    try simp only[Act.put,List.setIfInBounds_toArray,List.set_cons_zero,List.set_cons_succ]
    refine wqi [15,16] ?_
    repeat (refine wqt (v:=?_) rfl (by kernel_rfl) (fun _ _ _ h=>h) (by rfl) (by assumption) ?_ ?_;rotate_left;(· (intro w hSw;(try dsimp only at hSw);go_simp;try with_reducible rfl));try simp only[Act.put,List.getElem_toArray,List.getElem_cons_succ,List.getElem_cons_zero,List.setIfInBounds_toArray,List.set_cons_zero,List.set_cons_succ])
    refine wqn ?_;refine wpAnyH_ready (rs:=[17]) (by kernel_rfl) (by simp) ?_
    refine AllReadyH.cons rfl (fun K hK=>?_) AllReadyH.nil
    go_simp;refine hK.out _ _ HS6.out (fun hHeld=>?_)
    clear hK K
    try simp only[Act.put,List.setIfInBounds_toArray,List.set_cons_zero,List.set_cons_succ]
    refine wpAnyH_done (by kernel_rfl) ?_ _
    go_wp2_with fail
    go_meet
    case rel => exact ⟨_,_,HRR.out⟩
 case rest =>
  obtain ⟨v1,ms1,hLB⟩:=hcut;have HKT2:Hid (∀ (W:World),qb T W d (.slice ka t.kids.length kc) t.kids∨True):=fun _=>Or.inr trivial
  clear HKT2 HB1 HT1 hv1 hv0 HX HA;have HD:Hid (Deep d t.kids):=qb.deep d HKT.out;have h3:wc.cell? ⟨w.heap.size,3,none⟩=some (.slice ka t.kids.length kc):=by rw[cH9 hLB.box];rfl
  have HL0:Hid _:=hLB
  have HLF:Hid (ns++layF d t par ns.length=yG d t par ns t.kids.length):=by
   show _=_
   unfold yG;rw[List.take_length];cases d with
   | zero=>have:t.kids=[]:=HD.out;rw[this];rfl
   | succ d'=>rfl
  clear hLB;go_wp2_with fail
  go_loopg [36] t.kids.length (fun g j wr=>∃ (i:Nat) (v':Value) (ms':List Rw),i+g=t.kids.length∧j=.int .i64 (i:Int)∧LB B T N bb w (.slice a ns.length cap) ms #[.bool t.text,.string t.s,.slice aa t.attrs.length ac,.slice ka t.kids.length kc] v' (yG d t par ns i) ms' wr)
  case atStart => exact ⟨0,_,_,by omega,rfl,HL0.out⟩
  case round =>
   obtain ⟨i,v',ms',hi,rfl,hL⟩:=hrel;have HL:Hid _:=hL;clear hL HL0
   by_cases hil:i<t.kids.length
   · obtain ⟨d',rfl⟩:∃ d',d=d'+1:=by
      cases d with
      | zero=>have:t.kids=[]:=HD.out;rw[this]at hil;simp at hil
      | succ d'=>exact ⟨d',rfl⟩
     have HIH:Hid (XG d'):=ih d' rfl;obtain ⟨k,hk⟩:∃ k,t.kids[i]?=some k:=⟨t.kids[i],by simp[hil]⟩
     have HTW:Hid (qb T wr (d'+1) (.slice ka t.kids.length kc) t.kids):=qb.carry (fun b hb=>⟨hb,HL.out.st.low HBn.out hBb b (HBn.out.low b hb)⟩) _ HKT.out
     obtain ⟨ta,tcap,htv,_,_,ht4⟩:=HTW.out;obtain ⟨tb,tof,hta,hSb,htc⟩:=ht4 (by intro e;rw[e]at hil;simp at hil)
     injection htv with htv1 htv3 htv2
     subst htv1 htv2 hta;clear htv3;obtain ⟨kva,kvk,e0,e1,e2,e3,hkA,hkK⟩:=htc i k hk;obtain ⟨xa,xc,rfl⟩:=hkA.shape;obtain ⟨ya,yc,rfl,_,_⟩:=qb.shape d' hkK;have HDK:Hid (Deep (d'+1) t.kids):=HD.out;have hcu:=(Zs (d:=d') hk).2;have hc1:=qS (d'+1) t;have hln:=XB (par:=par) (ns:=ns) (i:=i) HDK.out;have HUM:Hid _:=qbe (par:=par) (ns:=ns) hk HDK.out;have HUA:Hid _:=qem (d:=d'+1) (t:=t) (par:=par) (ns:=ns) (i:=i) (layF d' k ns.length (yG (d'+1) t par ns i).length)
     have hi20:i≤1048576:=by
      have h3:i≤cnt (d'+1) (t.kids.take i):=by
       have:=Zr d' (t.kids.take i);rw[List.length_take]at this
       omega
      omega
     generalize hLd:yG (d'+1) t par ns i=L at HL hln HUM HUA
     obtain ⟨m,hm⟩:∃ m,L.length=m:=⟨_,rfl⟩;have hb2:=Below.alloc1 wr (.cells #[.bool k.text,.string k.s,.slice xa k.attrs.length xc,.slice ya k.kids.length yc] 79);have HB2:Hid (Bx B T N bb (wr.alloc (.cells #[.bool k.text,.string k.s,.slice xa k.attrs.length xc,.slice ya k.kids.length yc] 79)) v' L ms'):=HL.out.bench.later hb2;have HT2:Hid ((wr.alloc (.cells #[.bool k.text,.string k.s,.slice xa k.attrs.length xc,.slice ya k.kids.length yc] 79)).heap[w.heap.size]?=some (.cells #[.bool t.text,.string t.s,.slice aa t.attrs.length ac,.slice (some ⟨tb,tof,none⟩) t.kids.length kc] 79 (0,0))):=(hb2.block _ (qh HL.out.box)).trans HL.out.box
     have HCALL:Hid (Calls Tryz.prog 195 #[.pointer (some ⟨bb,0,none⟩),.agg #[.bool k.text,.string k.s,.slice xa k.attrs.length xc,.slice ya k.kids.length yc],.int .i64 (ns.length:Int)] (wr.alloc (.cells #[.bool k.text,.string k.s,.slice xa k.attrs.length xc,.slice ya k.kids.length yc] 79)) fun e w'=>e=.returned (.int .i64 (m:Int))∧∃ v3 ms3,Bx B T N bb w' v3 (L++layF d' k ns.length L.length) ms3∧zc N bb (wr.alloc (.cells #[.bool k.text,.string k.s,.slice xa k.attrs.length xc,.slice ya k.kids.length yc] 79)) w' v' v3 ms' ms3):=by
      have:=HIH.out B T N bb _ _ k (ns.length:Int) v' L ms' (wr.alloc (.cells #[.bool k.text,.string k.s,.slice xa k.attrs.length xc,.slice ya k.kids.length yc] 79)) (hkA.later hb2) (qb.later hb2 d' hkK) HB2.out (by omega) (by omega)
      rw[hm]at this
      rw[hm];exact this
     have hili:(i:Int)<(t.kids.length:Int):=by omega
     have HST:Hid _:=HL.out.st;have HM:Hid (L.length=m):=hm;have HLd:Hid _:=hLd;clear hkA hkK htc ht4 hcu hc1 hln hm hk HTW HIH hLd;have y3:wr.cell? ⟨w.heap.size,3,none⟩=some (.slice (some ⟨tb,tof,none⟩) t.kids.length kc):=by rw[cH9 HL.out.box];rfl
     go_wp2_with fail;refine HCALL.out.mono ?_;rintro e w3 ⟨rfl,v3,ms3,hX3,hS3⟩;have HX3:Hid _:=hX3;have HS3:Hid _:=hS3;clear hX3 hS3 HCALL e0 e1 e2 e3;obtain ⟨r,hr,hR⟩:=HX3.out.2.2.get HUA.out;obtain ⟨g,cap3,hv3,hcl3,hcm3,hgB,hgl,_,_,_,_,hk4,hfz⟩:=HX3.out.2.2.at hr
     subst hv3;obtain ⟨ra,rc,hrv,_,_⟩:=hR.kids.shape;have hkids:(qk (d'+1-1) (ns.length+1) (t.kids.take i)).length=i:=by rw[jz,List.length_take];omega
     simp only[hkids]at hrv
     have HOW:Hid (w3.ownsRow B 3 1 (.slice ra i rc) i (qr (qk (d'+1-1) (ns.length+1) (t.kids.take i)))):=by
      have h1:=hR.kids;unfold qZ at h1
      simp only at h1
      rw[hkids,hrv]at h1
      exact h1
     have HRV:Hid (r.vk=.slice ra i rc):=hrv;rw[hrv]at hk4
     have hnq:ns.length<(L++layF d' k ns.length L.length).length:=(List.getElem?_eq_some_iff.1 HUA.out).1
     generalize hQ:(L++layF d' k ns.length L.length).length=q at *
     have HQ:Hid _:=hQ;have hni:(ns.length:Int)<(q:Int):=by omega
     have hbw3:bb<w3.heap.size:=qh HX3.out.1;have HBX:Hid (w3.heap[bb]?=some (.cells #[.slice (some ⟨g,0,none⟩) q cap3] 190 (0,0))):=HX3.out.1;have hbg:bb≠g:=fun e=>zL (B:=0) (w:=w3) ⟨nZ9 _,_,_,HBX.out⟩ (qi HX3.out.2.2.row rfl) (by decide) e
     have HNB:Hid ((Value.slice ra i rc).ownBlock≠some bb):=fun e=>zL (qi HOW.out e) (B':=0) ⟨nZ9 _,_,_,HBX.out⟩ (by decide) rfl
     have HNG:Hid ((Value.slice ra i rc).ownBlock≠some g):=fun e=>zL (qi HOW.out e) (qi HX3.out.2.2.row rfl) (by decide) rfl
     have HWW:Hid (∀ W':World,W'.heap[bb]?=w3.heap[bb]?→W'.cell? ⟨bb,0,none⟩=some (.slice (some ⟨g,0,none⟩) q cap3)):=by
      intro W' h2;rw[HBX.out]at h2
      rw[cH9 h2];rfl
     have HS1:Hid _:=HWW.out w3.drew rfl;have HS2:Hid _:=HWW.out (w3.drew.alloc (.cells #[.int .i64 (m:Int)] 3)) (Lib.alloc_old _ _ _ hbw3);have hk4a:(w3.alloc (.cells #[.int .i64 (m:Int)] 3)).cell? ⟨g,ns.length*5+4,none⟩=some (.slice ra i rc):=Lib.cell?_alloc_some _ hk4;have hk4b:(w3.drew.alloc (.cells #[.int .i64 (m:Int)] 3)).cell? ⟨g,ns.length*5+4,none⟩=some (.slice ra i rc):=Lib.cell?_alloc_some (W:=w3.drew) _ hk4
     have HKP:Hid (∀ w6:World,(w3.drew.alloc (.cells #[.int .i64 (m:Int)] 3)).grownBy w6 (Value.slice ra i rc).ownBlock→∀ b,b<w3.heap.size→(Value.slice ra i rc).ownBlock≠some b→w6.heap[b]?=w3.heap[b]?):=by
      intro w6 h6 b h1 h2;rw[h6.block b (by rw[World.size_alloc];show b<w3.heap.size+1;omega) (fun e=>h2 e.symm)]
      exact Lib.alloc_old _ _ _ h1
     have HWX:Hid (Below w3.heap.size w3 (w3.drew.alloc (.cells #[.int .i64 (m:Int)] 3))):=(Below.refl _ w3).drew.alloc (nR9 _) _;have HOX:Hid _:=qq HOW.out HWX.out;have hBw:B≤(w3.drew.alloc (.cells #[.int .i64 (m:Int)] 3)).heap.size:=(HX3.out.2.2.later HWX.out).le;have HRR:Hid _:=hr;have HFZ:Hid (∀ j,w3.frozen? ⟨g,j,none⟩=false):=hfz;clear hR hrv hkids hr hQ hfz;unfold maxLen at hcm3
     go_wp2_with fail;refine wp_region_held_drew (S:=fun W:World=>W.cell? ⟨bb,0,none⟩=some (.slice (some ⟨g,0,none⟩) q cap3)) (by kernel_rfl) HS1.out (fun hHeld=>?_)
     refine wqi [0,1,2,3,4,5,6,7,8,9,10,11,13] ?_
     repeat (refine wqt (v:=?_) rfl (by kernel_rfl) (fun _ _ _ h=>h) (by rfl) (by assumption) ?_ ?_;rotate_left;(· (intro w hSw;(try dsimp only at hSw);go_simp;try with_reducible rfl));try simp only[Act.put,List.getElem_toArray,List.getElem_cons_succ,List.getElem_cons_zero,List.setIfInBounds_toArray,List.set_cons_zero,List.set_cons_succ])
     refine wqn ?_;refine wpAnyH_ready (rs:=[12,14]) (by kernel_rfl) (by simp) ?_
     refine AllReadyH.cons rfl (fun K hK=>?_) (AllReadyH.cons rfl (fun K hK=>?_) AllReadyH.nil)
     · go_simp;refine hK.out _ _ HS1.out (fun hHeld=>?_)
       clear hK K
       try simp only[Act.put,List.setIfInBounds_toArray,List.set_cons_zero,List.set_cons_succ]
       refine wpAnyH_ready (rs:=[14]) (by kernel_rfl) (by simp) ?_
       refine AllReadyH.cons rfl (fun K hK=>?_) AllReadyH.nil
       go_simp;refine hK.out _ _ HS2.out (fun hHeld=>?_)
       clear hK K
       try simp only[Act.put,List.setIfInBounds_toArray,List.set_cons_zero,List.set_cons_succ]
       refine wpAnyH_ready (rs:=[15]) (by kernel_rfl) (by simp) ?_
       refine AllReadyH.cons rfl (fun K hK=>?_) AllReadyH.nil
       refine Jq (by rfl) (.tmp 56) (.tmp 58) (by rfl) B (.slice ra i rc) i _ (by first|rfl|simp[Act.eval]) HOX.out ⟨w3.heap.size,0,none⟩ (m:Int) (by first|rfl|simp[Act.eval]) (Yw w3.drew _ _) hi20 hBw ?_
       intro v6 w6 hown6 hgr6 hat6;obtain ⟨a6,n6,c6,rfl⟩:=qQ hown6;have hk6:=HKP.out w6 hgr6;have hg6:w6.heap[g]?=w3.heap[g]?:=hk6 g hgl HNG.out;have z6:w6.cell? ⟨g,ns.length*5+4,none⟩=some (.slice ra i rc):=(World.cell?_of_block (a:=⟨g,ns.length*5+4,none⟩) hg6).trans hk4;have f6:w6.frozen? ⟨g,ns.length*5+4,none⟩=false:=by have:=HFZ.out (ns.length*5+4);simpa[World.frozen?,hg6] using this
       have HS5:Hid _:=HWW.out w6 (hk6 bb hbw3 HNB.out);have HS6:Hid _:=HWW.out (w6.setCell ⟨g,ns.length*5+4,none⟩ (.slice a6 n6 c6)) ((qc hbg).trans (hk6 bb hbw3 HNB.out))
       have HREL:Hid (∃ (v':Value) (ms':List Rw),LB B T N bb w (.slice a ns.length cap) ms #[.bool t.text,.string t.s,.slice aa t.attrs.length ac,.slice (some ⟨tb,tof,none⟩) t.kids.length kc] v' (yG (d'+1) t par ns (i+1)) ms' (w6.setCell ⟨g,ns.length*5+4,none⟩ (.slice a6 n6 c6))):=by
        have hX:=HX3.out;rw[←HQ.out]at hX
        have hS:=HS3.out;rw[←HQ.out]at hS
        have hI:qZ B w6 (.slice a6 n6 c6) (qk (d'+1-1) (ns.length+1) (t.kids.take i)++[(L.length:Int)]):=by
         rw[HM.out];unfold qZ;rw[zy,List.length_append,jz,List.length_take,Nat.min_eq_left (by omega)]
         exact hown6
        obtain ⟨h1,h2⟩:=qbz hX HRR.out HUA.out HWX.out hI (by rw[HRV.out];exact hgr6) (by rw[HRV.out];exact hat6)
        have hUM:=HUM.out;have h3':=h2.box hX.2.2 hX.1 (hS.box HB2.out.2.2 HB2.out.1 HT2.out);have h4':=(HST.out.trans (zc.before hb2 hS)).trans h2;rw[←hUM];exact ⟨_,_,⟨h1,h3',h4'⟩⟩
       refine hK.out _ _ HS5.out (fun hHeld=>?_)
       clear hK K
       try simp only[Act.put,List.setIfInBounds_toArray,List.set_cons_zero,List.set_cons_succ]
       refine wqi [16,17] ?_
       repeat (refine wqt (v:=?_) rfl (by kernel_rfl) (fun _ _ _ h=>h) (by rfl) (by assumption) ?_ ?_;rotate_left;(· (intro w hSw;(try dsimp only at hSw);go_simp;try with_reducible rfl));try simp only[Act.put,List.getElem_toArray,List.getElem_cons_succ,List.getElem_cons_zero,List.setIfInBounds_toArray,List.set_cons_zero,List.set_cons_succ])
       refine wqn ?_;refine wpAnyH_ready (rs:=[18]) (by kernel_rfl) (by simp) ?_
       refine AllReadyH.cons rfl (fun K hK=>?_) AllReadyH.nil
       go_simp;refine hK.out _ _ HS6.out (fun hHeld=>?_)
       clear hK K
       try simp only[Act.put,List.setIfInBounds_toArray,List.set_cons_zero,List.set_cons_succ]
       refine wpAnyH_done (by kernel_rfl) ?_ _
       go_wp2_with fail
       go_roundg (t.kids.length-(i+1))
       case measure => omega
       case rel =>
        obtain ⟨v9,ms9,h9⟩:=HREL.out;exact ⟨i+1,v9,ms9,by omega,by go_num,h9⟩
     · go_simp;refine hK.out _ _ HS2.out (fun hHeld=>?_)
       clear hK K
       try simp only[Act.put,List.setIfInBounds_toArray,List.set_cons_zero,List.set_cons_succ]
       refine wpAnyH_ready (rs:=[12]) (by kernel_rfl) (by simp) ?_
       refine AllReadyH.cons rfl (fun K hK=>?_) AllReadyH.nil
       go_simp;refine hK.out _ _ HS2.out (fun hHeld=>?_)
       clear hK K
       try simp only[Act.put,List.setIfInBounds_toArray,List.set_cons_zero,List.set_cons_succ]
       refine wpAnyH_ready (rs:=[15]) (by kernel_rfl) (by simp) ?_
       refine AllReadyH.cons rfl (fun K hK=>?_) AllReadyH.nil
       refine Jq (by rfl) (.tmp 56) (.tmp 58) (by rfl) B (.slice ra i rc) i _ (by first|rfl|simp[Act.eval]) HOX.out ⟨w3.heap.size,0,none⟩ (m:Int) (by first|rfl|simp[Act.eval]) (Yw w3.drew _ _) hi20 hBw ?_
       intro v6 w6 hown6 hgr6 hat6;obtain ⟨a6,n6,c6,rfl⟩:=qQ hown6;have hk6:=HKP.out w6 hgr6;have hg6:w6.heap[g]?=w3.heap[g]?:=hk6 g hgl HNG.out;have z6:w6.cell? ⟨g,ns.length*5+4,none⟩=some (.slice ra i rc):=(World.cell?_of_block (a:=⟨g,ns.length*5+4,none⟩) hg6).trans hk4;have f6:w6.frozen? ⟨g,ns.length*5+4,none⟩=false:=by have:=HFZ.out (ns.length*5+4);simpa[World.frozen?,hg6] using this
       have HS5:Hid _:=HWW.out w6 (hk6 bb hbw3 HNB.out);have HS6:Hid _:=HWW.out (w6.setCell ⟨g,ns.length*5+4,none⟩ (.slice a6 n6 c6)) ((qc hbg).trans (hk6 bb hbw3 HNB.out))
       have HREL:Hid (∃ (v':Value) (ms':List Rw),LB B T N bb w (.slice a ns.length cap) ms #[.bool t.text,.string t.s,.slice aa t.attrs.length ac,.slice (some ⟨tb,tof,none⟩) t.kids.length kc] v' (yG (d'+1) t par ns (i+1)) ms' (w6.setCell ⟨g,ns.length*5+4,none⟩ (.slice a6 n6 c6))):=by
        have hX:=HX3.out;rw[←HQ.out]at hX
        have hS:=HS3.out;rw[←HQ.out]at hS
        have hI:qZ B w6 (.slice a6 n6 c6) (qk (d'+1-1) (ns.length+1) (t.kids.take i)++[(L.length:Int)]):=by
         rw[HM.out];unfold qZ;rw[zy,List.length_append,jz,List.length_take,Nat.min_eq_left (by omega)]
         exact hown6
        obtain ⟨h1,h2⟩:=qbz hX HRR.out HUA.out HWX.out hI (by rw[HRV.out];exact hgr6) (by rw[HRV.out];exact hat6)
        have hUM:=HUM.out;have h3':=h2.box hX.2.2 hX.1 (hS.box HB2.out.2.2 HB2.out.1 HT2.out);have h4':=(HST.out.trans (zc.before hb2 hS)).trans h2;rw[←hUM];exact ⟨_,_,⟨h1,h3',h4'⟩⟩
       refine hK.out _ _ HS5.out (fun hHeld=>?_)
       clear hK K
       try simp only[Act.put,List.setIfInBounds_toArray,List.set_cons_zero,List.set_cons_succ]
       refine wqi [16,17] ?_
       repeat (refine wqt (v:=?_) rfl (by kernel_rfl) (fun _ _ _ h=>h) (by rfl) (by assumption) ?_ ?_;rotate_left;(· (intro w hSw;(try dsimp only at hSw);go_simp;try with_reducible rfl));try simp only[Act.put,List.getElem_toArray,List.getElem_cons_succ,List.getElem_cons_zero,List.setIfInBounds_toArray,List.set_cons_zero,List.set_cons_succ])
       refine wqn ?_;refine wpAnyH_ready (rs:=[18]) (by kernel_rfl) (by simp) ?_
       refine AllReadyH.cons rfl (fun K hK=>?_) AllReadyH.nil
       go_simp;refine hK.out _ _ HS6.out (fun hHeld=>?_)
       clear hK K
       try simp only[Act.put,List.setIfInBounds_toArray,List.set_cons_zero,List.set_cons_succ]
       refine wpAnyH_done (by kernel_rfl) ?_ _
       go_wp2_with fail
       go_roundg (t.kids.length-(i+1))
       case measure => omega
       case rel =>
        obtain ⟨v9,ms9,h9⟩:=HREL.out;exact ⟨i+1,v9,ms9,by omega,by go_num,h9⟩
   · have hili : ¬ (i : Int) < (t.kids.length : Int) := by omega
     have hieq:i=t.kids.length:=by omega
     go_wp2_with fail;go_ret;refine ⟨rfl,v',ms',?_,HL.out.st⟩;rw[HLF.out,←hieq];exact HL.out.bench
theorem blay_any:∀ (d:Nat),XG d:=by
 intro d
 induction d with
 | zero=>exact J9 0 (fun d' h=>by omega)
 | succ d ih =>
   refine J9 (d+1) (fun d' h=>?_)
   have e:d'=d:=by omega
   rw[e];exact ih
end
section
attribute [local go_sem] qd
theorem qet (l:List Rw):∀ (i:Nat)(r:Rw)(v:ByteArray),l[i]?=some r→rawCells (l.set i { r with s:=v })=(rawCells l).set (i*5+1) (.string v):=by
 induction l with
 | nil=>intro i r v h;simp at h
 | cons y l ih =>
   intro i r v h;cases i with
   | zero=>simp at h;subst h;simp[rawCells]
   | succ i =>
     rw[List.set_cons_succ,rawCells,ih i r v (by simpa using h),show (i+1)*5=i*5+5 from by omega,rawCells]
     rfl
theorem Q3 (l:List Rw):∀ (i:Nat)(r:Rw)(v:Value),l[i]?=some r→rawCells (l.set i { r with va:=v })=(rawCells l).set (i*5+2) v:=by
 induction l with
 | nil=>intro i r v h;simp at h
 | cons y l ih =>
   intro i r v h;cases i with
   | zero=>simp at h;subst h;simp[rawCells]
   | succ i =>
     rw[List.set_cons_succ,rawCells,ih i r v (by simpa using h),show (i+1)*5=i*5+5 from by omega,rawCells]
     rfl
def Did (B:Nat)(T:Nat→Prop)(N bb:Nat)(w w':World)(v:Value)(ms:List Rw)(ns':List Nd):Prop:=∃ v' ms',Bx B T N bb w' v' ns' ms'∧zc N bb w w' v v' ms ms'
end
end Go.Proofs.YtfplhcicbbhljaaGreatDoor
