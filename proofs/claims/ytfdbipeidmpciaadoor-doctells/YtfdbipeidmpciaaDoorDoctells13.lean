/- Bundled: DocG IntRow DocL. What each says stands ahead of it. -/
import Derived.Test.YtfdbipeidmpciaaDoorDoctells12
import Derived.Test.YtfdbipeidmpciaaDoorFive06
import Derived.Deep.RegionHeld3
namespace Go.Proofs.YtfdbipeidmpciaaDoor
open Go.ChangeShapes Go.WideShapes Go.ChangeAt Go.RowKit
set_option maxRecDepth 100000
section
attribute [local go_sem] qg
def growF:Nat→List Nd→Nat→Tr
 | 0,_,_=>⟨false,⟨#[]⟩,[],[]⟩
 | f + 1, ns, n => match ns[n]? with
   | none=>⟨false,⟨#[]⟩,[],[]⟩
   | some x=>⟨x.text,x.s,x.attrs,x.kids.map fun k=>growF f ns k.toNat⟩
def yK (ns:List Nd):Prop:=∀ (n:Nat) (x:Nd),ns[n]?=some x→x.attrs.length≤4398046511104∧x.kids.length≤1048576∧∀ k∈x.kids,(n:Int)<k∧k<ns.length
def xw (f:Nat):Prop:=∀ (S:Nat→Prop) (v:Value) (ns:List Nd) (n:Nat) (w:World),qr S w v ns→yK ns→n<ns.length→ns.length≤n+f →
 Calls Tryd.prog 69 #[v,.int .i64 (n:Int)] w fun e w'=>∃ va vk,e=.returned (.agg #[.bool (growF f ns n).text,.string (growF f ns n).s,va,vk]) ∧
  qe (fun b=>w.heap.size≤b) w' va (growF f ns n).attrs∧qb (fun b=>w.heap.size≤b) w' f vk (growF f ns n).kids∧Below w.heap.size w w'
theorem qf {w:World}{b:Nat}{o:Obj}(hx:w.heap[b]?=some o):b<w.heap.size:=by
 rcases Nat.lt_or_ge b w.heap.size with h'|h'
 · exact h'
 · simp[Array.getElem?_eq_none h']at hx
theorem qd {w:World}{b k x:Nat}{v:Value}(h:x≠b):(w.setCell ⟨b,k,none⟩ v).heap[x]?=w.heap[x]?:=Below.heap_setCell _ _ _ _ h
theorem j7 {ops:Array Oper}{o:Oper}{a:Act}{w:World}{K:Act→World→Prop}{Q:Exit→Act→World→Prop}{E:Prop}
 (hg:o.guard=none) (s x:Operand) (hop:o.op=Op.call { callee:=Callee.builtin Builtin.append,args:=#[s,x],argTypes:=#[23,23] })
 (B:Nat) (v:Value) (n:Nat) (xs:List Value) (hs:a.eval s=v) (hown:w.ownsRow B 25 4 v n xs) (ad:Addr) (tx:Bool) (st:ByteArray) (aa:Option Addr) (al ac:Nat) (ka:Option Addr) (kl kc:Nat) (hx:a.eval x=.slice (some ad) 1 1)
 (hnews:∀ j u,[Value.bool tx,Value.string st,Value.slice aa al ac,Value.slice ka kl kc][j]?=some u→w.cell? (ad.add j)=some u) (hn:n≤1048576) (hB:B≤w.heap.size)
 (hK:∀ v' w',w'.ownsRow B 25 4 v' (n+1) (xs++[.bool tx,.string st,.slice aa al ac,.slice ka kl kc])→w.grownBy w' v.ownBlock→(v'.ownBlock=v.ownBlock∨v'.ownBlock=some w.heap.size)→K (a.put o.dst v') w') :
 if Region.wanted o (yielded ops a.tmps)=true then Oper.wp Tryd.prog o a w K Q else E:=by
 have hw:Region.wanted o (yielded ops a.tmps)=true:=by simp[Region.wanted,hg]
 rw[if_pos hw];obtain ⟨i0,hi,hz0,hz1,hz2⟩:=info_parts treeInfo;obtain ⟨v',w',hr,h2,h3,_,h5⟩:=run_append_own_at (P:=Tryd.prog) w B 23 o.type 25 i0 _ 4 72 Tryd.underlying23 hi hz0 hz1 hz2 rfl (by decide) v n xs hown ad 1 1 [.bool tx,.string st,.slice aa al ac,.slice ka kl kc] rfl hnews (by intro u hu;simp at hu;rcases hu with rfl|rfl|rfl|rfl<;>rfl) (by unfold maxLen;omega) (by omega) hB
 unfold Oper.wp;simp[execOp,hop,resolve,invoke,builtin,hs,hx,hr,Result.andThen];exact hK v' w' h2 h3 h5
theorem qC {w:World}{B:Nat}{e:TypeId}{size n:Nat}{v:Value}{xs:List Value}(h:w.ownsRow B e size v n xs):∃ a l c,v=.slice a l c:=by
 rcases h.2 with ⟨hv,_⟩|⟨g,cap,cur,hv,_⟩
 · exact ⟨_,_,_,hv⟩
 · exact ⟨_,_,_,hv⟩
structure GS (w:World) (nd:Array Value) (b2 M:Nat) (tr:Array Value) (va:Value) (l:List (ByteArray × ByteArray)) (W:World):Prop where
 below:Below w.heap.size w W
 res:W.heap[w.heap.size]?=some (.cells #[.bool false,.string ⟨#[]⟩,.slice none 0 0,.slice none 0 0] 25 (0,0))
 box:W.heap[w.heap.size+1]?=some (.cells nd 90 (0,0))
 tre:W.heap[b2]?=some (.cells tr 25 (0,0))
 lo:w.heap.size+2≤b2
 hi:b2<M
 le:M≤W.heap.size
 att:qe (fun b=>w.heap.size+2≤b∧b≠b2∧b<M) W va l
theorem xN {w:World}{nd:Array Value}{b2 M f i:Nat}{c0 c1 c2:Value}{va:Value}{l:List (ByteArray × ByteArray)}{wr w5 w6:World}{ja:Option Addr}{jc:Nat}{us:List Tr}{qs:List (Bool × ByteArray × Value × Value)}{t:Tr}{a5 k5:Option Addr}{d5 e5:Nat}{a6:Option Addr}{n6 c6:Nat}
 (hG:GS w nd b2 M #[c0,c1,c2,.slice ja i jc] va l wr) (hR:qS (fun _=>False) f M wr.drew (.slice ja i jc) us qs) (hi:us.length=i) (hb5:Below wr.drew.heap.size wr.drew w5)
 (hA:qe (fun b=>wr.drew.heap.size≤b) w5 (.slice a5 t.attrs.length d5) t.attrs) (hK:qb (fun b=>wr.drew.heap.size≤b) w5 f (.slice k5 t.kids.length e5) t.kids)
 (hown:w6.ownsRow M 25 4 (.slice a6 n6 c6) (i+1) (quadCells qs++[.bool t.text,.string t.s,.slice a5 t.attrs.length d5,.slice k5 t.kids.length e5]))
 (hgr:(w5.alloc (.cells #[.bool t.text,.string t.s,.slice a5 t.attrs.length d5,.slice k5 t.kids.length e5] 25)).grownBy w6 (Value.slice ja i jc).ownBlock)
 (hat:(Value.slice a6 n6 c6).ownBlock=(Value.slice ja i jc).ownBlock∨(Value.slice a6 n6 c6).ownBlock=some (w5.alloc (.cells #[.bool t.text,.string t.s,.slice a5 t.attrs.length d5,.slice k5 t.kids.length e5] 25)).heap.size) :
 GS w nd b2 M #[c0,c1,c2,.slice a6 n6 c6] va l (w6.setCell ⟨b2,3,none⟩ (.slice a6 n6 c6))∧M≤(w6.setCell ⟨b2,3,none⟩ (.slice a6 n6 c6)).heap.size ∧
  qS (fun _=>False) f M (w6.setCell ⟨b2,3,none⟩ (.slice a6 n6 c6)) (.slice a6 n6 c6) (us++[t]) (qs++[(t.text,t.s,.slice a5 t.attrs.length d5,.slice k5 t.kids.length e5)]):=by
 have hs5:wr.heap.size≤w5.heap.size:=hb5.size;have hMr:=hG.le;have hhi:=hG.hi;have hs6:=hgr.size;simp only[World.size_alloc]at hs6
 have hkeep:∀ b,b<wr.heap.size→b<M→w6.heap[b]?=wr.heap[b]?:=by
  intro b h1 h2;rw[hgr.block b (by simp;omega) (fun e=>by have:=(hR.own.lt b e.symm).1;omega),Lib.alloc_old _ _ _ (by omega)]
  exact hb5.block b h1
 have hB6:Below w.heap.size w w6:=((hG.below.drew.trans (hb5.mono hG.below.size)).alloc (by have:=hG.below.size;omega) _).grown hgr (by simp;have:=hG.below.size;omega) (fun k hk=>by have:=(hR.own.lt k hk).1;have:=hG.lo;omega)
 have hsz:(w6.setCell ⟨b2,3,none⟩ (.slice a6 n6 c6)).heap.size=w6.heap.size:=by simp
 have hlo:=hG.lo;have hres:=qf hG.res;have hbox:=qf hG.box;have htre:=qf hG.tre;refine ⟨⟨hB6.setCell (p:=⟨b2,3,none⟩) (by show w.heap.size≤b2;omega) _,?_,?_,?_,hlo,hhi,by rw[hsz];omega,?_⟩,by rw[hsz];omega,?_⟩
 · rw[qd (by omega),hkeep _ hres (by omega)];exact hG.res
 · rw[qd (by omega),hkeep _ hbox (by omega)];exact hG.box
 · have := (hkeep b2 htre hhi).trans hG.tre;simp[World.setCell,Array.getElem?_modify,this]
 · refine hG.att.bounded.carry fun b hb => ⟨hb.1, ?_⟩
   rw[qd hb.1.2.1,hkeep b hb.2 hb.1.2.2]
 · have hfr := hR.fresh (w' := w5.alloc (.cells #[.bool t.text, .string t.s, .slice a5 t.attrs.length d5, .slice k5 t.kids.length e5] 25)) (nR9 _) hMr;have hG3:=(hR.later hb5).later (Below.alloc1 w5 (.cells #[.bool t.text,.string t.s,.slice a5 t.attrs.length d5,.slice k5 t.kids.length e5] 25))
   have hG4:=hG3.snoc (t:=t) (q:=(t.text,t.s,.slice a5 t.attrs.length d5,.slice k5 t.kids.length e5)) (by rw[hi];exact hown) hgr hat rfl rfl
    ((hA.later (Below.alloc1 w5 _)).bounded.carry (fun b hb=>⟨hfr b ⟨hb.1,hb.2⟩,rfl⟩))
    (qb.carry (fun b hb=>⟨hfr b ⟨hb.1,hb.2⟩,rfl⟩) f (qb.bounded f (qb.later (Below.alloc1 w5 _) f hK)))
   have hne:∀ b,M≤b→b≠b2:=fun b h=>by omega
   refine ⟨hG4.len,qo hG4.own (fun b hb=>qd (hne b (hG4.own.lt b hb).1)),fun j q u hq hu=>?_⟩
   obtain ⟨x1,x2,x3,x4⟩:=hG4.each j q u hq hu
   have carry:∀ b,Oth (fun _=>False) M w6 (.slice a6 n6 c6) b→Oth (fun _=>False) M (w6.setCell ⟨b2,3,none⟩ (.slice a6 n6 c6)) (.slice a6 n6 c6) b∧(w6.setCell ⟨b2,3,none⟩ (.slice a6 n6 c6)).heap[b]?=w6.heap[b]?:=by
    intro b hb;refine ⟨⟨hb.1,by rw[hsz];exact hb.2.1,hb.2.2⟩,qd (hne b ?_)⟩
    rcases hb.1 with h1|h1
    · exact h1.elim
    · exact h1
   exact ⟨x1,x2,x3.carry carry,qb.carry carry f x4⟩
set_option maxHeartbeats 2000000 in
theorem Ys (f:Nat)(ih:xw f):xw (f+1):=by
 intro S v ns n w hN hKI hn hf;obtain ⟨x,hx⟩:∃ x,ns[n]?=some x:=⟨ns[n],by simp[hn]⟩
 have HG:Hid (growF (f+1) ns n=⟨x.text,x.s,x.attrs,x.kids.map fun k=>growF f ns k.toNat⟩):=by show _=_;rw[growF,hx]
 obtain ⟨hal,hkl,hkr⟩:=hKI n x hx;obtain ⟨b,o,cap,va,vk,rfl,hlc,hcm,hSb,hbw,c0,c1,c2,c3,c4,hAt,hKi⟩:=hN.at hx
 obtain ⟨aa,ac,rfl⟩:=hAt.shape;obtain ⟨ka,kc,rfl,hkl2,hkm⟩:=hKi.shape;unfold maxLen at hcm hkm
 have hb2:Below w.heap.size w ((w.alloc (.cells #[.bool false,.string ⟨#[]⟩,.slice none 0 0,.slice none 0 0] 25)).alloc (.cells #[.bool x.text,.string x.s,.slice aa x.attrs.length ac,.int .i64 x.parent,.slice ka x.kids.length kc] 90)):=(Below.alloc1 w _).alloc (by simp) _
 have IH:Hid (xw f):=ih;have hni:(n:Int)<(ns.length:Int):=by omega
 clear ih
 go_enter Tryd.func69,Tryd.ntmps69
 go_wp2_with fail
 have hX2:((w.alloc (.cells #[.bool false,.string ⟨#[]⟩,.slice none 0 0,.slice none 0 0] 25)).alloc (.cells #[.bool x.text,.string x.s,.slice aa x.attrs.length ac,.int .i64 x.parent,.slice ka x.kids.length kc] 90)).heap[w.heap.size]?=some (.cells #[.bool false,.string ⟨#[]⟩,.slice none 0 0,.slice none 0 0] 25 (0,0)):=by
  rw[Lib.alloc_old _ _ _ (by simp)];exact heap_alloc_new _ _
 have hY2:((w.alloc (.cells #[.bool false,.string ⟨#[]⟩,.slice none 0 0,.slice none 0 0] 25)).alloc (.cells #[.bool x.text,.string x.s,.slice aa x.attrs.length ac,.int .i64 x.parent,.slice ka x.kids.length kc] 90)).heap[w.heap.size+1]?=some (.cells #[.bool x.text,.string x.s,.slice aa x.attrs.length ac,.int .i64 x.parent,.slice ka x.kids.length kc] 90 (0,0)):=by
  have e:=heap_alloc_new (w.alloc (.cells #[.bool false,.string ⟨#[]⟩,.slice none 0 0,.slice none 0 0] 25)) (.cells #[.bool x.text,.string x.s,.slice aa x.attrs.length ac,.int .i64 x.parent,.slice ka x.kids.length kc] 90);rw[World.size_alloc]at e
  exact e
 have hZ2:((w.alloc (.cells #[.bool false,.string ⟨#[]⟩,.slice none 0 0,.slice none 0 0] 25)).alloc (.cells #[.bool x.text,.string x.s,.slice aa x.attrs.length ac,.int .i64 x.parent,.slice ka x.kids.length kc] 90)).heap.size=w.heap.size+2:=by simp
 generalize (w.alloc (.cells #[.bool false,.string ⟨#[]⟩,.slice none 0 0,.slice none 0 0] 25)).alloc (.cells #[.bool x.text,.string x.s,.slice aa x.attrs.length ac,.int .i64 x.parent,.slice ka x.kids.length kc] 90)=W2 at hb2 hX2 hY2 hZ2 ⊢
 have HZ2:Hid (W2.heap.size=w.heap.size+2):=hZ2;have hZ3:w.heap.size+1<W2.heap.size:=by omega
 clear hZ2;have HCL:Hid (∀ W,Below w.heap.size w W→Calls Tryd.prog 102 #[.slice aa x.attrs.length ac] W fun e w'=>∃ v',e=.returned v'∧qe (qY W.heap.size 69 w') w' v' x.attrs∧Below W.heap.size W w'):=fun W hW=>Qv S _ x.attrs W (hAt.later hW) hal
 have HKI:Hid (qX S w (.slice ka x.kids.length kc) x.kids):=hKi;have HNN:Hid (qr S w (.slice (some ⟨b,o,none⟩) ns.length cap) ns):=hN;have y0:W2.cell? ⟨w.heap.size+1,0,none⟩=some (.bool x.text):=by rw[cH9 hY2];rfl
 have y1:W2.cell? ⟨w.heap.size+1,1,none⟩=some (.string x.s):=by rw[cH9 hY2];rfl
 have y2:W2.cell? ⟨w.heap.size+1,2,none⟩=some (.slice aa x.attrs.length ac):=by rw[cH9 hY2];rfl
 have y4:W2.cell? ⟨w.heap.size+1,4,none⟩=some (.slice ka x.kids.length kc):=by rw[cH9 hY2];rfl
 have HWW:Hid (∀ W W':World,W.heap[w.heap.size+1]?=some (.cells #[.bool x.text,.string x.s,.slice aa x.attrs.length ac,.int .i64 x.parent,.slice ka x.kids.length kc] 90 (0,0))→W'.heap[w.heap.size+1]?=W.heap[w.heap.size+1]?→W'.cell? ⟨w.heap.size+1,0,none⟩=some (.bool x.text)∧W'.cell? ⟨w.heap.size+1,1,none⟩=some (.string x.s)∧W'.cell? ⟨w.heap.size+1,2,none⟩=some (.slice aa x.attrs.length ac)):=by
  intro W W' h1 h2;rw[h1]at h2
  exact ⟨by rw[cH9 h2];rfl,by rw[cH9 h2];rfl,by rw[cH9 h2];rfl⟩
 have HB4:Hid (Below w.heap.size w (W2.alloc (.cells #[.bool false,.string ⟨#[]⟩,.slice none 0 0,.slice none 0 0] 25)).drew):=(hb2.alloc (by omega) _).drew
 have HZ4:Hid (w.heap.size+1<(W2.alloc (.cells #[.bool false,.string ⟨#[]⟩,.slice none 0 0,.slice none 0 0] 25)).drew.heap.size):=by show w.heap.size+1<(W2.alloc (.cells #[.bool false,.string ⟨#[]⟩,.slice none 0 0,.slice none 0 0] 25)).heap.size;rw[World.size_alloc];omega
 have HZ5:Hid (W2.heap.size<(W2.alloc (.cells #[.bool false,.string ⟨#[]⟩,.slice none 0 0,.slice none 0 0] 25)).drew.heap.size):=by show W2.heap.size<(W2.alloc (.cells #[.bool false,.string ⟨#[]⟩,.slice none 0 0,.slice none 0 0] 25)).heap.size;rw[World.size_alloc];omega
 have HX2:Hid (W2.heap[w.heap.size]?=some (.cells #[.bool false,.string ⟨#[]⟩,.slice none 0 0,.slice none 0 0] 25 (0,0))):=hX2;clear c0 c1 c2 c3 c4 hAt hKi hN hx hX2
 go_region_held3 (fun W:World=>W.cell? ⟨w.heap.size+1,0,none⟩=some (.bool x.text)∧W.cell? ⟨w.heap.size+1,1,none⟩=some (.string x.s)∧W.cell? ⟨w.heap.size+1,2,none⟩=some (.slice aa x.attrs.length ac))
  (first
   | exact HWW.out W2 w3 hY2 (hbB.block _ hZ3)
   | exact HWW.out W2 (w3.alloc (.cells #[.bool false,.string ⟨#[]⟩,.slice none 0 0,.slice none 0 0] 25)) hY2 ((Lib.alloc_old _ _ _ (Nat.lt_of_lt_of_le hZ3 hbB.size)).trans (hbB.block _ hZ3))
   | exact HWW.out W2 (w3.alloc (.cells #[.bool x.text,.string x.s,.slice a3 x.attrs.length c3',.slice none 0 0] 25)) hY2 ((Lib.alloc_old _ _ _ (Nat.lt_of_lt_of_le hZ3 hbB.size)).trans (hbB.block _ hZ3))
   | exact HWW.out W2 w3 hY2 ((hbA.block _ HZ4.out).trans (Lib.alloc_old _ _ _ hZ3))
   | exact HWW.out W2 _ hY2 (by rw[qd (Nat.ne_of_lt hZ3),qd (Nat.ne_of_lt hZ3),qd (Nat.ne_of_lt hZ3),qd (Nat.ne_of_lt hZ3)];exact (hbA.block _ HZ4.out).trans (Lib.alloc_old _ _ _ hZ3))
   | exact HWW.out W2 W2.drew hY2 rfl
   | exact HWW.out W2 (W2.alloc (.cells #[.bool false,.string ⟨#[]⟩,.slice none 0 0,.slice none 0 0] 25)).drew hY2 (Lib.alloc_old _ _ _ hZ3))
  (first
   | (go_at_call 102;refine (Calls.mono (HCL.out (W2.alloc (.cells #[.bool false,.string ⟨#[]⟩,.slice none 0 0,.slice none 0 0] 25)).drew HB4.out) ?_);rintro e w3 ⟨va3,rfl,hA3,hbA⟩;obtain ⟨a3,c3',rfl⟩:=hA3.shape;have hV3:w3.heap[W2.heap.size]?=some (.cells #[.bool false,.string ⟨#[]⟩,.slice none 0 0,.slice none 0 0] 25 (0,0)):=(hbA.block _ HZ5.out).trans (heap_alloc_new _ _);have g0:=cH9 hV3 0;have g1:=cH9 hV3 1;have g2:=cH9 hV3 2;have g3:=cH9 hV3 3;have k0:=fH9 hV3 0;have k1:=fH9 hV3 1;have k2:=fH9 hV3 2;have k3:=fH9 hV3 3;simp at g0 g1 g2 g3)
   | (go_at_call 102;refine (Calls.mono (HCL.out W2.drew hb2.drew) ?_);rintro e w3 ⟨va3,rfl,hA3,hbB⟩;obtain ⟨a3,c3',rfl⟩:=hA3.shape))
 · have hGS:GS w #[.bool x.text,.string x.s,.slice aa x.attrs.length ac,.int .i64 x.parent,.slice ka x.kids.length kc] w3.heap.size (w3.alloc (.cells #[.bool x.text,.string x.s,.slice a3 x.attrs.length c3',.slice none 0 0] 25)).heap.size #[.bool x.text,.string x.s,.slice a3 x.attrs.length c3',.slice none 0 0] (.slice a3 x.attrs.length c3') x.attrs (w3.alloc (.cells #[.bool x.text,.string x.s,.slice a3 x.attrs.length c3',.slice none 0 0] 25)):=by
    have hB3:Below w.heap.size w w3:=hb2.drew.trans (hbB.mono (by have:=HZ2.out;show w.heap.size≤W2.heap.size;omega))
    have hs3:W2.heap.size≤w3.heap.size:=hbB.size;have hz:=HZ2.out;refine ⟨hB3.alloc hB3.size _,?_,?_,heap_alloc_new _ _,by omega,by simp,nR9 _,?_⟩
    · rw[Lib.alloc_old _ _ _ (by omega)];exact (hbB.block _ (by show w.heap.size<W2.heap.size;omega)).trans HX2.out
    · rw[Lib.alloc_old _ _ _ (by omega)];exact (hbB.block _ hZ3).trans hY2
    · exact (hA3.later (Below.alloc1 w3 _)).bounded.carry fun b hb=>⟨⟨by have h1:W2.heap.size≤b:=hb.1.1;omega,by have:=hb.1.lt;omega,hb.2⟩,rfl⟩
   generalize w3.alloc (.cells #[.bool x.text,.string x.s,.slice a3 x.attrs.length c3',.slice none 0 0] 25)=W4 at hGS ⊢
   generalize w3.heap.size=b2 at hGS ⊢
   clear hb2 hbB hA3 HCL HWW HB4 HZ4 HZ5 HX2 HZ2 hZ3 hY2 y0 y1 y2 y4;have z4:W4.cell? ⟨w.heap.size+1,4,none⟩=some (.slice ka x.kids.length kc):=by rw[cH9 hGS.box];rfl
   have HGS:Hid _:=hGS;have hlo:=hGS.lo;clear hGS;go_wp2_with fail
   go_loopg [24] x.kids.length (fun g j wr=>∃ (i:Nat) (v:Value) (qs:List (Bool × ByteArray × Value × Value)),i+g=x.kids.length∧j=.int .i64 (i:Int)∧GS w #[.bool x.text,.string x.s,.slice aa x.attrs.length ac,.int .i64 x.parent,.slice ka x.kids.length kc] b2 W4.heap.size #[.bool x.text,.string x.s,.slice a3 x.attrs.length c3',v] (.slice a3 x.attrs.length c3') x.attrs wr∧W4.heap.size≤wr.heap.size∧qS (fun _=>False) f W4.heap.size wr v ((x.kids.take i).map fun k=>growF f ns k.toNat) qs)
   case atStart => exact ⟨0,.slice none 0 0,[],by omega,rfl,HGS.out,nR9 _,qS.nil _ _ _ _⟩
   case round =>
    obtain ⟨i,v,qs,hi,rfl,hG,hWs,hGr⟩:=hrel;have HG4:Hid _:=hG;have hB4:=hG.below;obtain ⟨ja,jc,rfl⟩:=hGr.shape;have HGR:Hid _:=hGr
    by_cases hil:i<x.kids.length
    · obtain ⟨k, hk⟩ : ∃ k, x.kids[i]? = some k := ⟨x.kids[i], by simp[hil]⟩
      have hkin:=hkr k (List.mem_of_getElem? hk);obtain ⟨kk,rfl⟩:∃ kk:Nat,k=(kk:Int):=⟨k.toNat,by omega⟩
      obtain ⟨kb,ko,kc2,hkv,hSk,hkb,e1⟩:=(HKI.out.later hB4).at hk
      injection hkv with hka _ hkc
      subst hka hkc
      have hsn:(x.kids.take (i+1)).map (fun k=>growF f ns k.toNat)=(x.kids.take i).map (fun k=>growF f ns k.toNat)++[growF f ns kk]:=by
       rw[List.take_succ_eq_append_getElem hil,List.map_append];have:x.kids[i]=(kk:Int):=by simpa[hil] using hk
       rw[this];rfl
      have HSN:Hid _:=hsn
      have HCALL:Hid (∀ W,Below w.heap.size w W→Calls Tryd.prog 69 #[.slice (some ⟨b,o,none⟩) ns.length cap,.int .i64 (kk:Int)] W fun e w'=>∃ r,e=.returned r∧∃ va vk,r=.agg #[.bool (growF f ns kk).text,.string (growF f ns kk).s,va,vk] ∧
       qe (fun b=>W.heap.size≤b) w' va (growF f ns kk).attrs∧qb (fun b=>W.heap.size≤b) w' f vk (growF f ns kk).kids∧Below W.heap.size W w'):=by
       intro W hW;refine (IH.out S _ ns kk W (HNN.out.later hW) hKI (by omega) (by omega)).mono ?_
       rintro e w' ⟨va,vk,rfl,h1,h2,h3⟩;exact ⟨_,rfl,va,vk,rfl,h1,h2,h3⟩
      have hln:((x.kids.take i).map fun k=>growF f ns k.toNat).length=i:=by rw[List.length_map,List.length_take];omega
      obtain ⟨us,hus⟩:∃ us,(x.kids.take i).map (fun k=>growF f ns k.toNat)=us:=⟨_,rfl⟩
      obtain ⟨t,ht⟩:∃ t,growF f ns kk=t:=⟨_,rfl⟩;rw[hus]at HGR HG4 HSN hln
      rw[ht]at HCALL HSN
      rw[hln]at HGR HG4
      have HLN:Hid (us.length=i):=hln;have hz3:wr.cell? ⟨b2,3,none⟩=some (.slice ja i jc):=by rw[cH9 HG4.out.tre];rfl
      have hf3:wr.frozen? ⟨b2,3,none⟩=false:=fH9 HG4.out.tre 3;have hili:(i:Int)<(x.kids.length:Int):=by omega
      have hi20:i≤1048576:=by omega
      have hwrs:=hB4.size;have hb2r:=qf HG4.out.tre;have HGD:Hid (qS (fun _=>False) f W4.heap.size wr.drew (.slice ja i jc) us qs):=HGR.out.later (Below.refl _ wr).drew
      have HCH:Hid (∀ (w5 w6:World) (X:Obj),Below wr.drew.heap.size wr.drew w5→(w5.alloc X).grownBy w6 (Value.slice ja i jc).ownBlock→w6.heap[b2]?=some (.cells #[.bool x.text,.string x.s,.slice a3 x.attrs.length c3',.slice ja i jc] 25 (0,0))):=by
       intro w5 w6 X h5 h6;have h7:b2<w5.heap.size:=Nat.lt_of_lt_of_le hb2r h5.size;rw[h6.block b2 (by simp;omega) (fun e=>by have:=(HGR.out.own.lt b2 e.symm).1;have:=HG4.out.hi;omega),Lib.alloc_old _ _ _ h7]
       exact (h5.block b2 hb2r).trans HG4.out.tre
      clear hG hGr hk hsn hln hus ht hkin z4;go_wp2_with fail
      go_region_law (first
       | (refine zU (by rfl) 69 #[.slice (some ⟨b,o,none⟩) ns.length cap,.int .i64 (kk:Int)] (by go_simp) _ (HCALL.out _ hB4.drew) ?_;intro r5 w5 hR5;obtain ⟨va5,vk5,rfl,hA5,hK5,hb5⟩:=hR5;obtain ⟨a5,c5,rfl⟩:=hA5.shape;obtain ⟨k5,d5,rfl,_,_⟩:=qb.shape f hK5;have z5:w5.cell? ⟨b2,3,none⟩=some (.slice ja i jc):=(hb5.cell (p:=⟨b2,3,none⟩) hb2r).trans hz3;have z5a:(w5.alloc (.cells #[.bool t.text,.string t.s,.slice a5 t.attrs.length c5,.slice k5 t.kids.length d5] 25)).cell? ⟨b2,3,none⟩=some (.slice ja i jc):=Lib.cell?_alloc_some _ z5)
       | (refine j7 (by rfl) (.tmp 29) (.tmp 33) (by rfl) W4.heap.size (.slice ja i jc) i (quadCells qs) (by simp[Act.eval]) (by have:=(qq HGD.out.own hb5).alloc (.cells #[.bool t.text,.string t.s,.slice a5 t.attrs.length c5,.slice k5 t.kids.length d5] 25);rw[HLN.out]at this;exact this) ⟨w5.heap.size,0,none⟩ t.text t.s a5 t.attrs.length c5 k5 t.kids.length d5 (by simp[Act.eval]) (yW _ _ _ _ _ _) hi20 (by have:=hb5.size;simp at this ⊢;omega) ?_;intro v6 w6 hown6 hgr6 hat6;obtain ⟨a6,n6,c6,rfl⟩:=qC hown6;have hk6:=HCH.out w5 w6 _ hb5 hgr6;have z6:=cH9 hk6 3;have f6:=fH9 hk6 3;simp at z6))
      all_goals
       have HG7:Hid _:=xN HG4.out HGD.out HLN.out hb5 hA5 hK5 hown6 hgr6 hat6;clear hown6 hgr6 hat6 hA5 hK5;go_wp2_with fail
       go_roundg (x.kids.length-(i+1))
       case measure => omega
       case rel => exact ⟨i+1,_,_,by omega,by go_num,HG7.out.1,HG7.out.2.1,by rw[HSN.out];exact HG7.out.2.2⟩
    · have hii : i = x.kids.length := by omega
      subst hii;have hili:¬ ((x.kids.length:Int)<(x.kids.length:Int)):=by omega
      have p0:wr.cell? ⟨w.heap.size,0,none⟩=some (.bool false):=by rw[cH9 HG4.out.res];rfl
      have p1:wr.cell? ⟨w.heap.size,1,none⟩=some (.string ⟨#[]⟩):=by rw[cH9 HG4.out.res];rfl
      have p2:wr.cell? ⟨w.heap.size,2,none⟩=some (.slice none 0 0):=by rw[cH9 HG4.out.res];rfl
      have p3:wr.cell? ⟨w.heap.size,3,none⟩=some (.slice none 0 0):=by rw[cH9 HG4.out.res];rfl
      have f0:wr.frozen? ⟨w.heap.size,0,none⟩=false:=fH9 HG4.out.res 0;have f1:wr.frozen? ⟨w.heap.size,1,none⟩=false:=fH9 HG4.out.res 1;have f2:wr.frozen? ⟨w.heap.size,2,none⟩=false:=fH9 HG4.out.res 2;have f3:wr.frozen? ⟨w.heap.size,3,none⟩=false:=fH9 HG4.out.res 3;have q0:wr.cell? ⟨b2,0,none⟩=some (.bool x.text):=by rw[cH9 HG4.out.tre];rfl
      have q1:wr.cell? ⟨b2,1,none⟩=some (.string x.s):=by rw[cH9 HG4.out.tre];rfl
      have q2:wr.cell? ⟨b2,2,none⟩=some (.slice a3 x.attrs.length c3'):=by rw[cH9 HG4.out.tre];rfl
      have q3:wr.cell? ⟨b2,3,none⟩=some (.slice ja ((x.kids.take x.kids.length).map fun k=>growF f ns k.toNat).length jc):=by rw[cH9 HG4.out.tre];rfl
      clear hG hGr z4
      generalize hvv:Value.slice ja ((x.kids.take x.kids.length).map fun k=>growF f ns k.toNat).length jc=vv at HGR HG4 q3
      obtain ⟨va7,vn7,vc7,rfl⟩:∃ a n c,vv=.slice a n c:=⟨_,_,_,hvv.symm⟩;clear hvv;rw[List.take_length]at HGR
      go_wp2_with fail;refine bodyPost_ret (v:=.agg #[.bool x.text,.string x.s,.slice a3 x.attrs.length c3',.slice va7 vn7 vc7]) (by simp[results,Tryd.results69,go_sem,qg,p0,p1,p2,p3,World.cell?_setCell_other]) rfl ⟨.slice a3 x.attrs.length c3',.slice va7 vn7 vc7,?_,?_,?_,?_⟩
      · rw[HG.out]
      · rw[HG.out];refine HG4.out.att.carry fun b hb=>⟨by have:=hb.1;omega,?_⟩
        rw[qd (by have:=hb.1;omega),qd (by have:=hb.1;omega),qd (by have:=hb.1;omega),qd (by have:=hb.1;omega)]
      · rw[HG.out];have hW:=HG4.out.hi;refine qb.carry (fun b hb=>⟨?_,?_⟩) (f+1) HGR.out.done
        · rcases hb with hb | hb
          · exact hb.elim
          · omega
        · rcases hb with hb | hb
          · exact hb.elim
          · rw[qd (by omega),qd (by omega),qd (by omega),qd (by omega)]
      · exact (((hB4.setCell (p:=⟨w.heap.size,0,none⟩) (nR9 _) _).setCell (p:=⟨w.heap.size,1,none⟩) (nR9 _) _).setCell (p:=⟨w.heap.size,2,none⟩) (nR9 _) _).setCell (p:=⟨w.heap.size,3,none⟩) (nR9 _) _
 · have hGS:GS w #[.bool x.text,.string x.s,.slice aa x.attrs.length ac,.int .i64 x.parent,.slice ka x.kids.length kc] W2.heap.size ((((w3.setCell ⟨W2.heap.size,0,none⟩ (.bool x.text)).setCell ⟨W2.heap.size,1,none⟩ (.string x.s)).setCell ⟨W2.heap.size,2,none⟩ (.slice a3 x.attrs.length c3')).setCell ⟨W2.heap.size,3,none⟩ (.slice none 0 0)).heap.size #[.bool x.text,.string x.s,.slice a3 x.attrs.length c3',.slice none 0 0] (.slice a3 x.attrs.length c3') x.attrs ((((w3.setCell ⟨W2.heap.size,0,none⟩ (.bool x.text)).setCell ⟨W2.heap.size,1,none⟩ (.string x.s)).setCell ⟨W2.heap.size,2,none⟩ (.slice a3 x.attrs.length c3')).setCell ⟨W2.heap.size,3,none⟩ (.slice none 0 0)):=by
    have hB3:Below w.heap.size w w3:=HB4.out.trans (hbA.mono HB4.out.size);have hz:=HZ2.out;have hle:w.heap.size≤W2.heap.size:=by omega
    refine ⟨(((hB3.setCell (p:=⟨W2.heap.size,0,none⟩) hle _).setCell (p:=⟨W2.heap.size,1,none⟩) hle _).setCell (p:=⟨W2.heap.size,2,none⟩) hle _).setCell (p:=⟨W2.heap.size,3,none⟩) hle _,?_,?_,?_,by omega,by have:=qf hV3;simpa using this,nR9 _,?_⟩
    · rw[qd (by omega), qd (by omega), qd (by omega), qd (by omega)]
      exact (hbA.block _ (by have:=HZ4.out;omega)).trans ((Lib.alloc_old _ _ _ (by omega)).trans HX2.out)
    · rw[qd (by omega), qd (by omega), qd (by omega), qd (by omega)]
      exact (hbA.block _ HZ4.out).trans ((Lib.alloc_old _ _ _ hZ3).trans hY2)
    · simp[World.setCell,Array.getElem?_modify,hV3]
    · refine hA3.bounded.carry fun b hb => ⟨⟨by have h1 : (W2.alloc (.cells #[.bool false, .string ⟨#[]⟩, .slice none 0 0, .slice none 0 0] 25)).drew.heap.size ≤ b := hb.1.1;have := HZ5.out;omega, by have h1 : (W2.alloc (.cells #[.bool false, .string ⟨#[]⟩, .slice none 0 0, .slice none 0 0] 25)).drew.heap.size ≤ b := hb.1.1;have := HZ5.out;omega, by have := hb.2;simpa using this⟩, ?_⟩
      have h1:(W2.alloc (.cells #[.bool false,.string ⟨#[]⟩,.slice none 0 0,.slice none 0 0] 25)).drew.heap.size≤b:=hb.1.1;have h2:=HZ5.out;rw[qd (by omega),qd (by omega),qd (by omega),qd (by omega)]
   generalize (((w3.setCell ⟨W2.heap.size,0,none⟩ (.bool x.text)).setCell ⟨W2.heap.size,1,none⟩ (.string x.s)).setCell ⟨W2.heap.size,2,none⟩ (.slice a3 x.attrs.length c3')).setCell ⟨W2.heap.size,3,none⟩ (.slice none 0 0)=W4 at hGS ⊢
   generalize W2.heap.size=b2 at hGS ⊢
   clear hb2 hbA hA3 HCL HWW HB4 HZ4 HZ5 HX2 HZ2 hZ3 hY2 y0 y1 y2 y4 hV3 g0 g1 g2 g3 k0 k1 k2 k3;have z4:W4.cell? ⟨w.heap.size+1,4,none⟩=some (.slice ka x.kids.length kc):=by rw[cH9 hGS.box];rfl
   have HGS:Hid _:=hGS;have hlo:=hGS.lo;clear hGS;go_wp2_with fail
   go_loopg [24] x.kids.length (fun g j wr=>∃ (i:Nat) (v:Value) (qs:List (Bool × ByteArray × Value × Value)),i+g=x.kids.length∧j=.int .i64 (i:Int)∧GS w #[.bool x.text,.string x.s,.slice aa x.attrs.length ac,.int .i64 x.parent,.slice ka x.kids.length kc] b2 W4.heap.size #[.bool x.text,.string x.s,.slice a3 x.attrs.length c3',v] (.slice a3 x.attrs.length c3') x.attrs wr∧W4.heap.size≤wr.heap.size∧qS (fun _=>False) f W4.heap.size wr v ((x.kids.take i).map fun k=>growF f ns k.toNat) qs)
   case atStart => exact ⟨0,.slice none 0 0,[],by omega,rfl,HGS.out,nR9 _,qS.nil _ _ _ _⟩
   case round =>
    obtain ⟨i,v,qs,hi,rfl,hG,hWs,hGr⟩:=hrel;have HG4:Hid _:=hG;have hB4:=hG.below;obtain ⟨ja,jc,rfl⟩:=hGr.shape;have HGR:Hid _:=hGr
    by_cases hil:i<x.kids.length
    · obtain ⟨k, hk⟩ : ∃ k, x.kids[i]? = some k := ⟨x.kids[i], by simp[hil]⟩
      have hkin:=hkr k (List.mem_of_getElem? hk);obtain ⟨kk,rfl⟩:∃ kk:Nat,k=(kk:Int):=⟨k.toNat,by omega⟩
      obtain ⟨kb,ko,kc2,hkv,hSk,hkb,e1⟩:=(HKI.out.later hB4).at hk
      injection hkv with hka _ hkc
      subst hka hkc
      have hsn:(x.kids.take (i+1)).map (fun k=>growF f ns k.toNat)=(x.kids.take i).map (fun k=>growF f ns k.toNat)++[growF f ns kk]:=by
       rw[List.take_succ_eq_append_getElem hil,List.map_append];have:x.kids[i]=(kk:Int):=by simpa[hil] using hk
       rw[this];rfl
      have HSN:Hid _:=hsn
      have HCALL:Hid (∀ W,Below w.heap.size w W→Calls Tryd.prog 69 #[.slice (some ⟨b,o,none⟩) ns.length cap,.int .i64 (kk:Int)] W fun e w'=>∃ r,e=.returned r∧∃ va vk,r=.agg #[.bool (growF f ns kk).text,.string (growF f ns kk).s,va,vk] ∧
       qe (fun b=>W.heap.size≤b) w' va (growF f ns kk).attrs∧qb (fun b=>W.heap.size≤b) w' f vk (growF f ns kk).kids∧Below W.heap.size W w'):=by
       intro W hW;refine (IH.out S _ ns kk W (HNN.out.later hW) hKI (by omega) (by omega)).mono ?_
       rintro e w' ⟨va,vk,rfl,h1,h2,h3⟩;exact ⟨_,rfl,va,vk,rfl,h1,h2,h3⟩
      have hln:((x.kids.take i).map fun k=>growF f ns k.toNat).length=i:=by rw[List.length_map,List.length_take];omega
      obtain ⟨us,hus⟩:∃ us,(x.kids.take i).map (fun k=>growF f ns k.toNat)=us:=⟨_,rfl⟩
      obtain ⟨t,ht⟩:∃ t,growF f ns kk=t:=⟨_,rfl⟩;rw[hus]at HGR HG4 HSN hln
      rw[ht]at HCALL HSN
      rw[hln]at HGR HG4
      have HLN:Hid (us.length=i):=hln;have hz3:wr.cell? ⟨b2,3,none⟩=some (.slice ja i jc):=by rw[cH9 HG4.out.tre];rfl
      have hf3:wr.frozen? ⟨b2,3,none⟩=false:=fH9 HG4.out.tre 3;have hili:(i:Int)<(x.kids.length:Int):=by omega
      have hi20:i≤1048576:=by omega
      have hwrs:=hB4.size;have hb2r:=qf HG4.out.tre;have HGD:Hid (qS (fun _=>False) f W4.heap.size wr.drew (.slice ja i jc) us qs):=HGR.out.later (Below.refl _ wr).drew
      have HCH:Hid (∀ (w5 w6:World) (X:Obj),Below wr.drew.heap.size wr.drew w5→(w5.alloc X).grownBy w6 (Value.slice ja i jc).ownBlock→w6.heap[b2]?=some (.cells #[.bool x.text,.string x.s,.slice a3 x.attrs.length c3',.slice ja i jc] 25 (0,0))):=by
       intro w5 w6 X h5 h6;have h7:b2<w5.heap.size:=Nat.lt_of_lt_of_le hb2r h5.size;rw[h6.block b2 (by simp;omega) (fun e=>by have:=(HGR.out.own.lt b2 e.symm).1;have:=HG4.out.hi;omega),Lib.alloc_old _ _ _ h7]
       exact (h5.block b2 hb2r).trans HG4.out.tre
      clear hG hGr hk hsn hln hus ht hkin z4;go_wp2_with fail
      go_region_law (first
       | (refine zU (by rfl) 69 #[.slice (some ⟨b,o,none⟩) ns.length cap,.int .i64 (kk:Int)] (by go_simp) _ (HCALL.out _ hB4.drew) ?_;intro r5 w5 hR5;obtain ⟨va5,vk5,rfl,hA5,hK5,hb5⟩:=hR5;obtain ⟨a5,c5,rfl⟩:=hA5.shape;obtain ⟨k5,d5,rfl,_,_⟩:=qb.shape f hK5;have z5:w5.cell? ⟨b2,3,none⟩=some (.slice ja i jc):=(hb5.cell (p:=⟨b2,3,none⟩) hb2r).trans hz3;have z5a:(w5.alloc (.cells #[.bool t.text,.string t.s,.slice a5 t.attrs.length c5,.slice k5 t.kids.length d5] 25)).cell? ⟨b2,3,none⟩=some (.slice ja i jc):=Lib.cell?_alloc_some _ z5)
       | (refine j7 (by rfl) (.tmp 29) (.tmp 33) (by rfl) W4.heap.size (.slice ja i jc) i (quadCells qs) (by simp[Act.eval]) (by have:=(qq HGD.out.own hb5).alloc (.cells #[.bool t.text,.string t.s,.slice a5 t.attrs.length c5,.slice k5 t.kids.length d5] 25);rw[HLN.out]at this;exact this) ⟨w5.heap.size,0,none⟩ t.text t.s a5 t.attrs.length c5 k5 t.kids.length d5 (by simp[Act.eval]) (yW _ _ _ _ _ _) hi20 (by have:=hb5.size;simp at this ⊢;omega) ?_;intro v6 w6 hown6 hgr6 hat6;obtain ⟨a6,n6,c6,rfl⟩:=qC hown6;have hk6:=HCH.out w5 w6 _ hb5 hgr6;have z6:=cH9 hk6 3;have f6:=fH9 hk6 3;simp at z6))
      all_goals
       have HG7:Hid _:=xN HG4.out HGD.out HLN.out hb5 hA5 hK5 hown6 hgr6 hat6;clear hown6 hgr6 hat6 hA5 hK5;go_wp2_with fail
       go_roundg (x.kids.length-(i+1))
       case measure => omega
       case rel => exact ⟨i+1,_,_,by omega,by go_num,HG7.out.1,HG7.out.2.1,by rw[HSN.out];exact HG7.out.2.2⟩
    · have hii : i = x.kids.length := by omega
      subst hii;have hili:¬ ((x.kids.length:Int)<(x.kids.length:Int)):=by omega
      have p0:wr.cell? ⟨w.heap.size,0,none⟩=some (.bool false):=by rw[cH9 HG4.out.res];rfl
      have p1:wr.cell? ⟨w.heap.size,1,none⟩=some (.string ⟨#[]⟩):=by rw[cH9 HG4.out.res];rfl
      have p2:wr.cell? ⟨w.heap.size,2,none⟩=some (.slice none 0 0):=by rw[cH9 HG4.out.res];rfl
      have p3:wr.cell? ⟨w.heap.size,3,none⟩=some (.slice none 0 0):=by rw[cH9 HG4.out.res];rfl
      have f0:wr.frozen? ⟨w.heap.size,0,none⟩=false:=fH9 HG4.out.res 0;have f1:wr.frozen? ⟨w.heap.size,1,none⟩=false:=fH9 HG4.out.res 1;have f2:wr.frozen? ⟨w.heap.size,2,none⟩=false:=fH9 HG4.out.res 2;have f3:wr.frozen? ⟨w.heap.size,3,none⟩=false:=fH9 HG4.out.res 3;have q0:wr.cell? ⟨b2,0,none⟩=some (.bool x.text):=by rw[cH9 HG4.out.tre];rfl
      have q1:wr.cell? ⟨b2,1,none⟩=some (.string x.s):=by rw[cH9 HG4.out.tre];rfl
      have q2:wr.cell? ⟨b2,2,none⟩=some (.slice a3 x.attrs.length c3'):=by rw[cH9 HG4.out.tre];rfl
      have q3:wr.cell? ⟨b2,3,none⟩=some (.slice ja ((x.kids.take x.kids.length).map fun k=>growF f ns k.toNat).length jc):=by rw[cH9 HG4.out.tre];rfl
      clear hG hGr z4
      generalize hvv:Value.slice ja ((x.kids.take x.kids.length).map fun k=>growF f ns k.toNat).length jc=vv at HGR HG4 q3
      obtain ⟨va7,vn7,vc7,rfl⟩:∃ a n c,vv=.slice a n c:=⟨_,_,_,hvv.symm⟩;clear hvv;rw[List.take_length]at HGR
      go_wp2_with fail;refine bodyPost_ret (v:=.agg #[.bool x.text,.string x.s,.slice a3 x.attrs.length c3',.slice va7 vn7 vc7]) (by simp[results,Tryd.results69,go_sem,qg,p0,p1,p2,p3,World.cell?_setCell_other]) rfl ⟨.slice a3 x.attrs.length c3',.slice va7 vn7 vc7,?_,?_,?_,?_⟩
      · rw[HG.out]
      · rw[HG.out];refine HG4.out.att.carry fun b hb=>⟨by have:=hb.1;omega,?_⟩
        rw[qd (by have:=hb.1;omega),qd (by have:=hb.1;omega),qd (by have:=hb.1;omega),qd (by have:=hb.1;omega)]
      · rw[HG.out];have hW:=HG4.out.hi;refine qb.carry (fun b hb=>⟨?_,?_⟩) (f+1) HGR.out.done
        · rcases hb with hb | hb
          · exact hb.elim
          · omega
        · rcases hb with hb | hb
          · exact hb.elim
          · rw[qd (by omega),qd (by omega),qd (by omega),qd (by omega)]
      · exact (((hB4.setCell (p:=⟨w.heap.size,0,none⟩) (nR9 _) _).setCell (p:=⟨w.heap.size,1,none⟩) (nR9 _) _).setCell (p:=⟨w.heap.size,2,none⟩) (nR9 _) _).setCell (p:=⟨w.heap.size,3,none⟩) (nR9 _) _
theorem Qz (f:Nat):xw f:=by
 induction f with
 | zero=>intro S v ns n w _ _ hn hf;omega
 | succ f ih=>exact Ys f ih
end
def qM (l:List Int):List Value:=l.map (Value.int .i64)
theorem xn (l:List Int):(qM l).length=l.length:=List.length_map _
theorem Q4 {l:List Int}{i:Nat}{x:Int}(h:l[i]?=some x):(qM l)[i]?=some (.int .i64 x):=by
 unfold qM;rw[List.getElem?_map,h];rfl
theorem yF (l m:List Int):qM (l++m)=qM l++qM m:=List.map_append
theorem Q5 (l:List Int):∀ u∈qM l,u.oneCell'=true:=by
 intro u hu;obtain ⟨x,_,rfl⟩:=List.mem_map.1 hu;rfl
def zm (B:Nat)(w:World)(v:Value)(l:List Int):Prop:=w.ownsRow B 3 1 v l.length (qM l)
theorem zm.nil (B:Nat)(w:World):zm B w (.slice none 0 0) []:=World.ownsRow_nil _ _ _ _
theorem zm.shape {B:Nat}{w:World}{v:Value}{l:List Int}(h:zm B w v l):∃ a c,v=.slice a l.length c∧l.length≤c∧c≤maxLen:=by
 rcases h.2 with ⟨rfl,h0⟩|⟨g,cap,cur,rfl,hg,hh,hc,hm,hs,ht⟩
 · exact ⟨none,0,by rw[h0],by omega,nZ9 _⟩
 · exact ⟨_,cap,rfl,hc,hm⟩
theorem zm.ints {B:Nat}{w:World}{v:Value}{l:List Int}(h:zm B w v l):qX (fun b=>B≤b) w v l:=by
 rcases h.2 with ⟨rfl,h0⟩|⟨g,cap,cur,rfl,hg,hh,hc,hm,hs,ht⟩
 · have : l = [] := List.eq_nil_of_length_eq_zero h0;subst this;exact qX.nil
 · refine ⟨_, cap, rfl, hc, hm, fun _ => ⟨g, 0, rfl, hg, fun i x hx => ?_⟩⟩
   have hi:i<l.length:=by
    rcases Nat.lt_or_ge i l.length with h'|h'
    · exact h'
    · rw[List.getElem?_eq_none h']at hx;cases hx
   rw[Nat.zero_add,World.ownsRow.cellAt h i (by omega)]
   exact Q4 hx
theorem qX.cells {S:Nat→Prop}{w:World}{a:Addr}{n c:Nat}{l:List Int}(h:qX S w (.slice (some a) n c) l):∀ j u,(qM l)[j]?=some u→w.cell? (a.add j)=some u:=by
 intro j u hj;obtain ⟨a',cap,h1,h2,h3,h4⟩:=h;unfold qM at hj
 rw[List.getElem?_map]at hj
 obtain ⟨x,hx,rfl⟩:=Option.map_eq_some_iff.1 hj;have hne:l≠[]:=by intro e;subst e;simp at hx
 obtain ⟨b,o,ha,_,hc⟩:=h4 hne
 injection h1 with h1
 rw[ha]at h1
 injection h1 with h1
 subst h1;rw[Addr.add_lit];exact hc j x hx
theorem intInfoR:(Tryd.prog.info? 3).map (fun i=>(i.zero,i.size,i.bytes))=some (some (.int .i64 0),1,8):=by kernel_rfl
theorem Jb (w:World)(u:Int)(e:TypeId):∀ (j:Nat) (x:Value),([.int .i64 u]:List Value)[j]?=some x→(w.alloc (.cells #[.int .i64 u] e)).cell? ((⟨w.heap.size,0,none⟩:Addr).add j)=some x:=by
 intro j x hj
 match j,hj with
 | 0,hj=>simp at hj;subst hj;simp[Addr.add]
theorem zm.lt {B:Nat}{w:World}{v:Value}{l:List Int}(h:zm B w v l):∀ k,v.ownBlock=some k→B≤k∧k<w.heap.size:=fun k hk=>World.ownsRow.lt h k hk
section
attribute [local go_sem] qg
def lastF:Nat→List Nd→Nat→Nat
 | 0,_,n=>n
 | f + 1, ns, n => match ns[n]? with
   | none=>n
   | some x => match x.kids.getLast? with
     | none=>n
     | some k=>lastF f ns k.toNat
set_option maxHeartbeats 1000000 in
theorem Yw (S:Nat→Prop)(v:Value)(ns:List Nd)(n:Nat)(w:World)(hN:qr S w v ns)(hKI:yK ns)(hn:n<ns.length) :
 Calls Tryd.prog 72 #[v,.int .i64 (n:Int)] w fun e w'=>e=.returned (.int .i64 (lastF ns.length ns n:Int))∧w'=w:=by
 obtain ⟨b0,o0,cap0,_,_,hv,hlc,hcm,_⟩:=hN.at (i:=n) (x:=ns[n]) (by simp[hn])
 subst hv;have HN:Hid (qr S w (.slice (some ⟨b0,o0,none⟩) ns.length cap0) ns):=hN;unfold maxLen at hcm
 clear hN
 go_enter Tryd.func72,Tryd.ntmps72
 go_wp2_with fail
 go_loopg [1] (ns.length-n) (fun g j wr=>∃ (m f:Nat),ns.length-m=g∧j=.int .i64 (m:Int)∧wr=w∧m<ns.length∧ns.length≤m+f∧lastF ns.length ns n=lastF f ns m)
 case atStart => exact ⟨n,ns.length,rfl,rfl,rfl,hn,by omega,rfl⟩
 case round =>
  obtain ⟨m,f,hg,rfl,hwr,hm,hmf,hL⟩:=hrel;subst hwr;obtain ⟨x,hx⟩:∃ x,ns[m]?=some x:=⟨ns[m],by simp[hm]⟩
  obtain ⟨b,o,cap,va,vk,hv,_,_,hSb,hbw,c0,c1,c2,c3,c4,hAt,hKi⟩:=HN.out.at hx
  injection hv with hv1 _ hv2
  injection hv1 with hv1
  injection hv1 with hv3 hv4
  subst hv3 hv4 hv2;obtain ⟨ka,kc,rfl,hkl2,hkm⟩:=hKi.shape;unfold maxLen at hkm
  obtain ⟨_,hkl,hkr⟩:=hKI m x hx;obtain ⟨f',rfl⟩:∃ f',f=f'+1:=⟨f-1,by omega⟩
  have HL:Hid (lastF ns.length ns n=match x.kids.getLast? with|none=>m|some k=>lastF f' ns k.toNat):=by show _=_;rw[hL,lastF,hx]
  have hmi:(m:Int)<(ns.length:Int):=by omega
  by_cases hk0:x.kids=[]
  · have HE : Hid (lastF ns.length ns n = m) := by show _ = _;rw[HL.out, hk0];rfl
    have hz:x.kids.length=0:=by rw[hk0];rfl
    rw[hz]at c4
    clear HL hx hL c0 c1 c2 c3 hk0 hz hkl hkr hAt hKi hkl2;go_wp2_with fail;go_ret;exact ⟨by rw[HE.out];rfl,rfl⟩
  · obtain ⟨k, hk⟩ : ∃ k, x.kids.getLast? = some k := ⟨x.kids.getLast hk0, List.getLast?_eq_some_getLast hk0⟩;have hpos:0<x.kids.length:=List.length_pos_iff.2 hk0;have hki:x.kids[x.kids.length-1]?=some k:=by rw[←List.getLast?_eq_getElem?];exact hk
    have hkin:=hkr k (List.mem_of_getElem? hki);obtain ⟨kk,rfl⟩:∃ kk:Nat,k=(kk:Int):=⟨k.toNat,by omega⟩
    obtain ⟨kb,ko,kc2,hkv,_,_,e1⟩:=hKi.at hki
    injection hkv with hka _ hkc
    subst hka hkc;have HE:Hid (lastF ns.length ns n=lastF f' ns kk):=by show _=_;rw[HL.out,hk];rfl
    have hposi:(0:Int)<(x.kids.length:Int):=by omega
    have hsub:((x.kids.length:Int)-1).toNat=x.kids.length-1:=by omega
    clear HL hx hL c0 c1 c2 c3 hk0 hki hkr hAt hKi hk;go_wp2_with fail
    go_roundg (ns.length-kk)
    case measure => omega
    case rel => exact ⟨kk,f',rfl,rfl,rfl,by omega,by omega,HE.out⟩
end
end Go.Proofs.YtfdbipeidmpciaaDoor
