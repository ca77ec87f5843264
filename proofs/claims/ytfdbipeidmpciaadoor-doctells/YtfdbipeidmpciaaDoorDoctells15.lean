/- Bundled: TreeO CopyD RefSize SameN SameR RefSame SameDR WithR IsDocR DocsL StrR StrG. What each says stands ahead of it. -/
import Derived.Test.YtfdbipeidmpciaaDoorDoctells14
namespace Go.Proofs.YtfdbipeidmpciaaDoor
open Go.ChangeShapes Go.WideShapes Go.ChangeAt Go.RowKit
set_option maxRecDepth 100000
section
attribute [local go_sem] qg
theorem zC {ops:Array Oper}{o:Oper}{a:Act}{w:World}{K:Act→World→Prop}{Q:Exit→Act→World→Prop}{E:Prop}
 (hg:o.guard=none) (x:Operand) (hop:o.op=Op.call { callee:=Callee.builtin Builtin.append,args:=#[.const (.slice none 0 0),x],argTypes:=#[22,22] })
 (S:Nat→Prop) (v:Value) (l:List (ByteArray × ByteArray)) (hx:a.eval x=v) (h:qe S w v l) (hl:l.length≤4398046511104)
 (hK:∀ v' w',qe (qY w.heap.size 69 w') w' v' l→Below w.heap.size w w'→K (a.put o.dst v') w') :
 if Region.wanted o (yielded ops a.tmps)=true then Oper.wp Tryd.prog o a w K Q else E:=by
 have hw:Region.wanted o (yielded ops a.tmps)=true:=by simp[Region.wanted,hg]
 rw[if_pos hw];obtain ⟨i0,hi,hz0,hz1,hz2⟩:=info_parts attrInfo;obtain ⟨ad,cap,rfl,h2,h3,h4⟩:=h;have hs:a.eval (.const (.slice none 0 0))=.slice none 0 0:=rfl;cases ad with
 | none =>
   have hn:l=[]:=by
    apply Classical.byContradiction;intro hne
    obtain ⟨b,o,ha,_⟩:=h4 hne;cases ha
   subst hn
   have hrun:(Builtin.append_ #[22,22] o.type #[.slice none 0 0,.slice none 0 cap]).run Tryd.prog w=.ok (.slice none 0 0) w:=by
    simp[Builtin.append_,run_underlying Tryd.underlying22,sizeOf,typeInfo,hi,Builtin.lenOf,Builtin.firstCells]
   simp only[List.length_nil]at hx
   unfold Oper.wp;simp[execOp,hop,resolve,invoke,builtin,hs,hx,hrun,Result.andThen];exact hK _ _ ⟨none,0,rfl,nR9 _,nZ9 _,fun hne=>absurd rfl hne⟩ (Below.refl _ _)
 | some ad =>
   have hcells:∀ j u,(attrCells l)[j]?=some u→w.cell? (ad.add j)=some u:=by
    by_cases hne:l=[]
    · subst hne;intro j u hj;simp[attrCells]at hj
    · obtain ⟨b, o, ha, _, hc⟩ := h4 hne;cases ha;intro j u hj;rw[Addr.add_lit];exact qe.cells hc j u hj
   obtain ⟨v',w',hrun,r1,r2,_⟩:=run_append_own (P:=Tryd.prog) w w.heap.size 22 o.type 69 i0 _ 2 32 Tryd.underlying22 hi hz0 hz1 hz2 rfl (by decide) (.slice none 0 0) 0 [] (World.ownsRow_nil w _ _ _) ad l.length cap (attrCells l) (qL l) hcells (yb l) (by unfold maxLen;omega) (by omega) (nR9 _)
   unfold Oper.wp;simp[execOp,hop,resolve,invoke,builtin,hs,hx,hrun,Result.andThen];refine hK _ _ (qe.of_owns (by simpa using r1)) ((Below.refl _ w).grown r2 (nR9 _) (fun k hk=>by simp[Value.ownBlock]at hk))
def jF (f:Nat):Prop:=∀ (S:Nat→Prop) (v:Value) (ns:List Nd) (n:Nat) (w:World),qr S w v ns→(∀ x∈ns,x.attrs.length≤4398046511104)→ns.length≤80→n<ns.length→ns.length≤n+f →
 Calls Tryd.prog 70 #[.agg #[v],.int .i64 (n:Int)] w fun e w'=>∃ va vk,e=.returned (.agg #[.bool (treeF f ns n).text,.string (treeF f ns n).s,va,vk]) ∧
  qe (fun b=>w.heap.size≤b) w' va (treeF f ns n).attrs∧qb (fun b=>w.heap.size≤b) w' f vk (treeF f ns n).kids∧Below w.heap.size w w'
theorem YS (ns:List Nd)(n:Nat):∀ m,m≤n+1→qK ns n m=[]:=by
 intro m
 induction m with
 | zero=>intro _;rfl
 | succ m ih =>
   intro h;rw[qK,ih (by omega),if_neg (by omega)]
   rfl
theorem JP (ns:List Nd)(n:Nat):∀ m,(qK ns n m).length≤m:=by
 intro m
 induction m with
 | zero=>exact nR9 _
 | succ m ih =>
   rw[qK,List.length_append]
   split
   · simp;exact ih
   · simp;omega
structure GT (w:World) (dv:Value) (b2 M:Nat) (tr:Array Value) (va:Value) (l:List (ByteArray × ByteArray)) (W:World):Prop where
 below:Below w.heap.size w W
 box:W.heap[w.heap.size]?=some (.cells #[dv] 47 (0,0))
 res:W.heap[w.heap.size+1]?=some (.cells #[.bool false,.string ⟨#[]⟩,.slice none 0 0,.slice none 0 0] 25 (0,0))
 tre:W.heap[b2]?=some (.cells tr 25 (0,0))
 lo:w.heap.size+2≤b2
 hi:b2<M
 le:M≤W.heap.size
 att:qe (fun b=>w.heap.size+2≤b∧b≠b2∧b<M) W va l
theorem Kb {w W2 w3:World}{dv:Value}{x:Nd}{a3:Option Addr}{c3':Nat}(hb3:Below w.heap.size w W2)(hbB:Below W2.drew.heap.size W2.drew w3)(HZ2:W2.heap.size=w.heap.size+3)(HD3:W2.heap[w.heap.size]?=some (.cells #[dv] 47 (0,0)))(HX3:W2.heap[w.heap.size+1]?=some (.cells #[.bool false,.string ⟨#[]⟩,.slice none 0 0,.slice none 0 0] 25 (0,0)))(hA3:qe (qY W2.drew.heap.size 69 w3) w3 (.slice a3 x.attrs.length c3') x.attrs) :
 GT w dv w3.heap.size (w3.alloc (.cells #[.bool x.text,.string x.s,.slice a3 x.attrs.length c3',.slice none 0 0] 25)).heap.size #[.bool x.text,.string x.s,.slice a3 x.attrs.length c3',.slice none 0 0] (.slice a3 x.attrs.length c3') x.attrs (w3.alloc (.cells #[.bool x.text,.string x.s,.slice a3 x.attrs.length c3',.slice none 0 0] 25)):=by
 have hB3:Below w.heap.size w w3:=hb3.drew.trans (hbB.mono (by have:=HZ2;show w.heap.size≤W2.heap.size;omega))
 have hs3:W2.heap.size≤w3.heap.size:=hbB.size;have hz:=HZ2;refine ⟨hB3.alloc hB3.size _,?_,?_,heap_alloc_new _ _,by omega,by simp,nR9 _,?_⟩
 · rw[Lib.alloc_old _ _ _ (by omega)];exact (hbB.block _ (by show w.heap.size<W2.heap.size;omega)).trans HD3
 · rw[Lib.alloc_old _ _ _ (by omega)];exact (hbB.block _ (by show w.heap.size+1<W2.heap.size;omega)).trans HX3
 · exact (hA3.later (Below.alloc1 w3 _)).bounded.carry fun b hb=>⟨⟨by have h1:W2.heap.size≤b:=hb.1.1;omega,by have:=hb.1.lt;omega,hb.2⟩,rfl⟩
theorem Kc {w W2 w3:World}{dv:Value}{x:Nd}{a3:Option Addr}{c3':Nat}(HB4:Below w.heap.size w (W2.alloc (.cells #[.bool false,.string ⟨#[]⟩,.slice none 0 0,.slice none 0 0] 25)).drew)(hbA:Below (W2.alloc (.cells #[.bool false,.string ⟨#[]⟩,.slice none 0 0,.slice none 0 0] 25)).drew.heap.size (W2.alloc (.cells #[.bool false,.string ⟨#[]⟩,.slice none 0 0,.slice none 0 0] 25)).drew w3)(HZ2:W2.heap.size=w.heap.size+3)(HD3:W2.heap[w.heap.size]?=some (.cells #[dv] 47 (0,0)))(HX3:W2.heap[w.heap.size+1]?=some (.cells #[.bool false,.string ⟨#[]⟩,.slice none 0 0,.slice none 0 0] 25 (0,0)))(HZ4:w.heap.size+2<(W2.alloc (.cells #[.bool false,.string ⟨#[]⟩,.slice none 0 0,.slice none 0 0] 25)).drew.heap.size)(HZ5:W2.heap.size<(W2.alloc (.cells #[.bool false,.string ⟨#[]⟩,.slice none 0 0,.slice none 0 0] 25)).drew.heap.size)(hV3:w3.heap[W2.heap.size]?=some (.cells #[.bool false,.string ⟨#[]⟩,.slice none 0 0,.slice none 0 0] 25 (0,0)))(hA3:qe (qY (W2.alloc (.cells #[.bool false,.string ⟨#[]⟩,.slice none 0 0,.slice none 0 0] 25)).drew.heap.size 69 w3) w3 (.slice a3 x.attrs.length c3') x.attrs) :
 GT w dv W2.heap.size ((((w3.setCell ⟨W2.heap.size,0,none⟩ (.bool x.text)).setCell ⟨W2.heap.size,1,none⟩ (.string x.s)).setCell ⟨W2.heap.size,2,none⟩ (.slice a3 x.attrs.length c3')).setCell ⟨W2.heap.size,3,none⟩ (.slice none 0 0)).heap.size #[.bool x.text,.string x.s,.slice a3 x.attrs.length c3',.slice none 0 0] (.slice a3 x.attrs.length c3') x.attrs ((((w3.setCell ⟨W2.heap.size,0,none⟩ (.bool x.text)).setCell ⟨W2.heap.size,1,none⟩ (.string x.s)).setCell ⟨W2.heap.size,2,none⟩ (.slice a3 x.attrs.length c3')).setCell ⟨W2.heap.size,3,none⟩ (.slice none 0 0)):=by
 have hB3:Below w.heap.size w w3:=HB4.trans (hbA.mono HB4.size);have hz:=HZ2;have hle:w.heap.size≤W2.heap.size:=by omega
 refine ⟨(((hB3.setCell (p:=⟨W2.heap.size,0,none⟩) hle _).setCell (p:=⟨W2.heap.size,1,none⟩) hle _).setCell (p:=⟨W2.heap.size,2,none⟩) hle _).setCell (p:=⟨W2.heap.size,3,none⟩) hle _,?_,?_,?_,by omega,by have:=qf hV3;simpa using this,nR9 _,?_⟩
 · rw[qd (by omega), qd (by omega), qd (by omega), qd (by omega)]
   exact (hbA.block _ (by have:=HZ4;omega)).trans ((Lib.alloc_old _ _ _ (by omega)).trans HD3)
 · rw[qd (by omega), qd (by omega), qd (by omega), qd (by omega)]
   exact (hbA.block _ (by have:=HZ4;omega)).trans ((Lib.alloc_old _ _ _ (by omega)).trans HX3)
 · simp[World.setCell,Array.getElem?_modify,hV3]
 · refine hA3.bounded.carry fun b hb => ⟨⟨by have h1 : (W2.alloc (.cells #[.bool false, .string ⟨#[]⟩, .slice none 0 0, .slice none 0 0] 25)).drew.heap.size ≤ b := hb.1.1;have := HZ5;omega, by have h1 : (W2.alloc (.cells #[.bool false, .string ⟨#[]⟩, .slice none 0 0, .slice none 0 0] 25)).drew.heap.size ≤ b := hb.1.1;have := HZ5;omega, by have := hb.2;simpa using this⟩, ?_⟩
   have h1:(W2.alloc (.cells #[.bool false,.string ⟨#[]⟩,.slice none 0 0,.slice none 0 0] 25)).drew.heap.size≤b:=hb.1.1;have h2:=HZ5;rw[qd (by omega),qd (by omega),qd (by omega),qd (by omega)]
theorem Z8 {w:World}{dv:Value}{b2 M f i:Nat}{c0 c1 c2:Value}{va:Value}{l:List (ByteArray × ByteArray)}{wr w5 w6:World}{ja:Option Addr}{jc:Nat}{us:List Tr}{qs:List (Bool × ByteArray × Value × Value)}{t:Tr}{a5 k5:Option Addr}{d5 e5:Nat}{a6:Option Addr}{n6 c6:Nat}
 (hG:GT w dv b2 M #[c0,c1,c2,.slice ja i jc] va l wr) (hR:qS (fun _=>False) f M wr.drew (.slice ja i jc) us qs) (hi:us.length=i) (hb5:Below wr.drew.heap.size wr.drew w5)
 (hA:qe (fun b=>wr.drew.heap.size≤b) w5 (.slice a5 t.attrs.length d5) t.attrs) (hK:qb (fun b=>wr.drew.heap.size≤b) w5 f (.slice k5 t.kids.length e5) t.kids)
 (hown:w6.ownsRow M 25 4 (.slice a6 n6 c6) (i+1) (quadCells qs++[.bool t.text,.string t.s,.slice a5 t.attrs.length d5,.slice k5 t.kids.length e5]))
 (hgr:(w5.alloc (.cells #[.bool t.text,.string t.s,.slice a5 t.attrs.length d5,.slice k5 t.kids.length e5] 25)).grownBy w6 (Value.slice ja i jc).ownBlock)
 (hat:(Value.slice a6 n6 c6).ownBlock=(Value.slice ja i jc).ownBlock∨(Value.slice a6 n6 c6).ownBlock=some (w5.alloc (.cells #[.bool t.text,.string t.s,.slice a5 t.attrs.length d5,.slice k5 t.kids.length e5] 25)).heap.size) :
 GT w dv b2 M #[c0,c1,c2,.slice a6 n6 c6] va l (w6.setCell ⟨b2,3,none⟩ (.slice a6 n6 c6))∧M≤(w6.setCell ⟨b2,3,none⟩ (.slice a6 n6 c6)).heap.size ∧
  qS (fun _=>False) f M (w6.setCell ⟨b2,3,none⟩ (.slice a6 n6 c6)) (.slice a6 n6 c6) (us++[t]) (qs++[(t.text,t.s,.slice a5 t.attrs.length d5,.slice k5 t.kids.length e5)]):=by
 have hs5:wr.heap.size≤w5.heap.size:=hb5.size;have hMr:=hG.le;have hhi:=hG.hi;have hs6:=hgr.size;simp only[World.size_alloc]at hs6
 have hkeep:∀ b,b<wr.heap.size→b<M→w6.heap[b]?=wr.heap[b]?:=by
  intro b h1 h2;rw[hgr.block b (by simp;omega) (fun e=>by have:=(hR.own.lt b e.symm).1;omega),Lib.alloc_old _ _ _ (by omega)]
  exact hb5.block b h1
 have hB6:Below w.heap.size w w6:=((hG.below.drew.trans (hb5.mono hG.below.size)).alloc (by have:=hG.below.size;omega) _).grown hgr (by simp;have:=hG.below.size;omega) (fun k hk=>by have:=(hR.own.lt k hk).1;have:=hG.lo;omega)
 have hsz:(w6.setCell ⟨b2,3,none⟩ (.slice a6 n6 c6)).heap.size=w6.heap.size:=by simp
 have hlo:=hG.lo;have hres:=qf hG.res;have hbox:=qf hG.box;have htre:=qf hG.tre;refine ⟨⟨hB6.setCell (p:=⟨b2,3,none⟩) (by show w.heap.size≤b2;omega) _,?_,?_,?_,hlo,hhi,by rw[hsz];omega,?_⟩,by rw[hsz];omega,?_⟩
 · rw[qd (by omega),hkeep _ hbox (by omega)];exact hG.box
 · rw[qd (by omega),hkeep _ hres (by omega)];exact hG.res
 · have := (hkeep b2 htre hhi).trans hG.tre;simp[World.setCell,Array.getElem?_modify,this]
 · refine hG.att.bounded.carry fun b hb => ⟨hb.1, ?_⟩
   rw[qd hb.1.2.1,hkeep b hb.2 hb.1.2.2]
 · have hfr := hR.fresh (w' := w5.alloc (.cells #[.bool t.text, .string t.s, .slice a5 t.attrs.length d5, .slice k5 t.kids.length e5] 25)) (nR9 _) hMr;have hG3:=(hR.later hb5).later (Below.alloc1 w5 (.cells #[.bool t.text,.string t.s,.slice a5 t.attrs.length d5,.slice k5 t.kids.length e5] 25))
   have hG4:=hG3.snoc (t:=t) (q:=(t.text,t.s,.slice a5 t.attrs.length d5,.slice k5 t.kids.length e5)) (by rw[hi];exact hown) hgr hat rfl rfl
    ((hA.later (Below.alloc1 w5 _)).bounded.carry (fun b hb=>⟨hfr b ⟨hb.1,hb.2⟩,rfl⟩))
    (qb.carry (fun b hb=>⟨hfr b ⟨hb.1,hb.2⟩,rfl⟩) f (qb.bounded f (qb.later (Below.alloc1 w5 _) f hK)))
   have hne:∀ b,M≤b→b≠b2:=fun b h=>by omega
   refine ⟨hG4.len,qo hG4.own (fun b hb=>qd (hne b (hG4.own.lt b hb).1)),fun j q u hq hu=>?_⟩
   obtain ⟨x1,x2,x3,x4⟩:=hG4.each j q u hq hu
   have carry:∀ b,Oth (fun _=>False) M w6 (.slice a6 n6 c6) b→Oth (fun _=>False) M (w6.setCell ⟨b2,3,none⟩ (.slice a6 n6 c6)) (.slice a6 n6 c6) b∧(w6.setCell ⟨b2,3,none⟩ (.slice a6 n6 c6)).heap[b]?=w6.heap[b]?:=by
    intro b hb;refine ⟨⟨hb.1,by rw[hsz];exact hb.2.1,hb.2.2⟩,qd (hne b ?_)⟩
    rcases hb.1 with h1|h1
    · exact h1.elim
    · exact h1
   exact ⟨x1,x2,x3.carry carry,qb.carry carry f x4⟩
set_option maxHeartbeats 2000000 in
theorem Z9 (f:Nat)(ih:jF f):jF (f+1):=by
 intro S v ns n w hN hfew h80 hn hf;obtain ⟨x,hx⟩:∃ x,ns[n]?=some x:=⟨ns[n],by simp[hn]⟩
 have HG:Hid (treeF (f+1) ns n=⟨x.text,x.s,x.attrs,(qK ns n ns.length).map fun k=>treeF f ns k.toNat⟩):=by show _=_;rw[treeF,hx]
 have hal:=hfew x (List.mem_of_getElem? hx);obtain ⟨b,o,cap,va,vk,rfl,hlc,hcm,hSb,hbw,c0,c1,c2,c3,c4,hAt,hKi⟩:=hN.at hx
 obtain ⟨aa,ac,rfl⟩:=hAt.shape;obtain ⟨ka,kc,rfl,hkl2,hkm⟩:=hKi.shape;unfold maxLen at hcm hkm
 have hb3:Below w.heap.size w (((w.alloc (.cells #[.slice (some ⟨b,o,none⟩) ns.length cap] 47)).alloc (.cells #[.bool false,.string ⟨#[]⟩,.slice none 0 0,.slice none 0 0] 25)).alloc (.cells #[.bool x.text,.string x.s,.slice aa x.attrs.length ac,.int .i64 x.parent,.slice ka x.kids.length kc] 90)):=((Below.alloc1 w _).alloc (by simp) _).alloc (by simp;omega) _
 have IH:Hid (jF f):=ih;have hni:(n:Int)<(ns.length:Int):=by omega
 clear ih
 go_enter Tryd.func70,Tryd.ntmps70
 go_wp2_with fail
 have hD3:(((w.alloc (.cells #[.slice (some ⟨b,o,none⟩) ns.length cap] 47)).alloc (.cells #[.bool false,.string ⟨#[]⟩,.slice none 0 0,.slice none 0 0] 25)).alloc (.cells #[.bool x.text,.string x.s,.slice aa x.attrs.length ac,.int .i64 x.parent,.slice ka x.kids.length kc] 90)).heap[w.heap.size]?=some (.cells #[(.slice (some ⟨b,o,none⟩) ns.length cap)] 47 (0,0)):=by
  rw[Lib.alloc_old _ _ _ (by simp;omega),Lib.alloc_old _ _ _ (by simp)];exact heap_alloc_new _ _
 have hX3:(((w.alloc (.cells #[.slice (some ⟨b,o,none⟩) ns.length cap] 47)).alloc (.cells #[.bool false,.string ⟨#[]⟩,.slice none 0 0,.slice none 0 0] 25)).alloc (.cells #[.bool x.text,.string x.s,.slice aa x.attrs.length ac,.int .i64 x.parent,.slice ka x.kids.length kc] 90)).heap[w.heap.size+1]?=some (.cells #[.bool false,.string ⟨#[]⟩,.slice none 0 0,.slice none 0 0] 25 (0,0)):=by
  rw[Lib.alloc_old _ _ _ (by simp)]
  have e:=heap_alloc_new (w.alloc (.cells #[(.slice (some ⟨b,o,none⟩) ns.length cap)] 47)) (.cells #[.bool false,.string ⟨#[]⟩,.slice none 0 0,.slice none 0 0] 25);rw[World.size_alloc]at e
  exact e
 have hY3:(((w.alloc (.cells #[.slice (some ⟨b,o,none⟩) ns.length cap] 47)).alloc (.cells #[.bool false,.string ⟨#[]⟩,.slice none 0 0,.slice none 0 0] 25)).alloc (.cells #[.bool x.text,.string x.s,.slice aa x.attrs.length ac,.int .i64 x.parent,.slice ka x.kids.length kc] 90)).heap[w.heap.size+2]?=some (.cells #[.bool x.text,.string x.s,.slice aa x.attrs.length ac,.int .i64 x.parent,.slice ka x.kids.length kc] 90 (0,0)):=by
  have e:=heap_alloc_new ((w.alloc (.cells #[(.slice (some ⟨b,o,none⟩) ns.length cap)] 47)).alloc (.cells #[.bool false,.string ⟨#[]⟩,.slice none 0 0,.slice none 0 0] 25)) (.cells #[.bool x.text,.string x.s,.slice aa x.attrs.length ac,.int .i64 x.parent,.slice ka x.kids.length kc] 90);rw[World.size_alloc,World.size_alloc]at e
  exact e
 have hZ:(((w.alloc (.cells #[.slice (some ⟨b,o,none⟩) ns.length cap] 47)).alloc (.cells #[.bool false,.string ⟨#[]⟩,.slice none 0 0,.slice none 0 0] 25)).alloc (.cells #[.bool x.text,.string x.s,.slice aa x.attrs.length ac,.int .i64 x.parent,.slice ka x.kids.length kc] 90)).heap.size=w.heap.size+3:=by simp
 generalize ((w.alloc (.cells #[.slice (some ⟨b,o,none⟩) ns.length cap] 47)).alloc (.cells #[.bool false,.string ⟨#[]⟩,.slice none 0 0,.slice none 0 0] 25)).alloc (.cells #[.bool x.text,.string x.s,.slice aa x.attrs.length ac,.int .i64 x.parent,.slice ka x.kids.length kc] 90)=W2 at hb3 hD3 hX3 hY3 hZ ⊢
 have HZ2:Hid (W2.heap.size=w.heap.size+3):=hZ;have hZ3:w.heap.size+2<W2.heap.size:=by omega
 clear hZ;have HAT:Hid (∀ W,Below w.heap.size w W→qe S W (.slice aa x.attrs.length ac) x.attrs):=fun W hW=>hAt.later hW
 have HNN:Hid (qr S w (.slice (some ⟨b,o,none⟩) ns.length cap) ns):=hN
 have HWW:Hid (∀ W':World,W'.heap[w.heap.size+2]?=W2.heap[w.heap.size+2]?→W'.cell? ⟨w.heap.size+2,0,none⟩=some (.bool x.text)∧W'.cell? ⟨w.heap.size+2,1,none⟩=some (.string x.s)∧W'.cell? ⟨w.heap.size+2,2,none⟩=some (.slice aa x.attrs.length ac)):=by
  intro W' h2;rw[hY3]at h2
  exact ⟨by rw[cH9 h2];rfl,by rw[cH9 h2];rfl,by rw[cH9 h2];rfl⟩
 obtain ⟨y0,y1,y2⟩:=HWW.out W2 rfl;have HB4:Hid (Below w.heap.size w (W2.alloc (.cells #[.bool false,.string ⟨#[]⟩,.slice none 0 0,.slice none 0 0] 25)).drew):=(hb3.alloc (by omega) _).drew
 have HZ4:Hid (w.heap.size+2<(W2.alloc (.cells #[.bool false,.string ⟨#[]⟩,.slice none 0 0,.slice none 0 0] 25)).drew.heap.size):=by show w.heap.size+2<(W2.alloc (.cells #[.bool false,.string ⟨#[]⟩,.slice none 0 0,.slice none 0 0] 25)).heap.size;rw[World.size_alloc];omega
 have HZ5:Hid (W2.heap.size<(W2.alloc (.cells #[.bool false,.string ⟨#[]⟩,.slice none 0 0,.slice none 0 0] 25)).drew.heap.size):=by show W2.heap.size<(W2.alloc (.cells #[.bool false,.string ⟨#[]⟩,.slice none 0 0,.slice none 0 0] 25)).heap.size;rw[World.size_alloc];omega
 have HD3:Hid (W2.heap[w.heap.size]?=some (.cells #[(.slice (some ⟨b,o,none⟩) ns.length cap)] 47 (0,0))):=hD3;have HX3:Hid (W2.heap[w.heap.size+1]?=some (.cells #[.bool false,.string ⟨#[]⟩,.slice none 0 0,.slice none 0 0] 25 (0,0))):=hX3;clear c0 c1 c2 c3 c4 hAt hKi hN hx hX3 hD3 hY3
 go_region_held3 (fun W:World=>W.cell? ⟨w.heap.size+2,0,none⟩=some (.bool x.text)∧W.cell? ⟨w.heap.size+2,1,none⟩=some (.string x.s)∧W.cell? ⟨w.heap.size+2,2,none⟩=some (.slice aa x.attrs.length ac))
  (first
   | exact HWW.out w3 (hbB.block _ hZ3)
   | exact HWW.out (w3.alloc (.cells #[.bool false,.string ⟨#[]⟩,.slice none 0 0,.slice none 0 0] 25)) ((Lib.alloc_old _ _ _ (Nat.lt_of_lt_of_le hZ3 hbB.size)).trans (hbB.block _ hZ3))
   | exact HWW.out (w3.alloc (.cells #[.bool x.text,.string x.s,.slice a3 x.attrs.length c3',.slice none 0 0] 25)) ((Lib.alloc_old _ _ _ (Nat.lt_of_lt_of_le hZ3 hbB.size)).trans (hbB.block _ hZ3))
   | exact HWW.out w3 ((hbA.block _ HZ4.out).trans (Lib.alloc_old _ _ _ hZ3))
   | exact HWW.out _ (by rw[qd (Nat.ne_of_lt hZ3),qd (Nat.ne_of_lt hZ3),qd (Nat.ne_of_lt hZ3),qd (Nat.ne_of_lt hZ3)];exact (hbA.block _ HZ4.out).trans (Lib.alloc_old _ _ _ hZ3))
   | exact HWW.out W2.drew rfl
   | exact HWW.out (W2.alloc (.cells #[.bool false,.string ⟨#[]⟩,.slice none 0 0,.slice none 0 0] 25)).drew (Lib.alloc_old _ _ _ hZ3))
  (first
   | (refine zC (by rfl) (.tmp 18) (by rfl) S (.slice aa x.attrs.length ac) x.attrs (by simp[Act.eval]) (HAT.out (W2.alloc (.cells #[.bool false,.string ⟨#[]⟩,.slice none 0 0,.slice none 0 0] 25)).drew HB4.out) hal ?_;intro va3 w3 hA3 hbA;obtain ⟨a3,c3',rfl⟩:=hA3.shape;have hV3:w3.heap[W2.heap.size]?=some (.cells #[.bool false,.string ⟨#[]⟩,.slice none 0 0,.slice none 0 0] 25 (0,0)):=(hbA.block _ HZ5.out).trans (heap_alloc_new _ _);have g0:=cH9 hV3 0;have g1:=cH9 hV3 1;have g2:=cH9 hV3 2;have g3:=cH9 hV3 3;have k0:=fH9 hV3 0;have k1:=fH9 hV3 1;have k2:=fH9 hV3 2;have k3:=fH9 hV3 3;simp at g0 g1 g2 g3)
   | (refine zC (by rfl) (.tmp 18) (by rfl) S (.slice aa x.attrs.length ac) x.attrs (by simp[Act.eval]) (HAT.out W2.drew hb3.drew) hal ?_;intro va3 w3 hA3 hbB;obtain ⟨a3,c3',rfl⟩:=hA3.shape))
 all_goals
  first
   | (have hGS:=Kb (dv:=.slice (some ⟨b,o,none⟩) ns.length cap) (x:=x) hb3 hbB HZ2.out HD3.out HX3.out hA3;generalize w3.alloc (.cells #[.bool x.text,.string x.s,.slice a3 x.attrs.length c3',.slice none 0 0] 25)=W4 at hGS ⊢;generalize w3.heap.size=b2 at hGS ⊢;clear hb3 hbB hA3 HAT HWW HB4 HZ4 HZ5 HX3 HD3 HZ2 hZ3 y0 y1 y2)
   | (have hGS:=Kc (dv:=.slice (some ⟨b,o,none⟩) ns.length cap) (x:=x) HB4.out hbA HZ2.out HD3.out HX3.out HZ4.out HZ5.out hV3 hA3;generalize ((((w3.setCell ⟨W2.heap.size,0,none⟩ (.bool x.text)).setCell ⟨W2.heap.size,1,none⟩ (.string x.s)).setCell ⟨W2.heap.size,2,none⟩ (.slice a3 x.attrs.length c3')).setCell ⟨W2.heap.size,3,none⟩ (.slice none 0 0))=W4 at hGS ⊢;generalize W2.heap.size=b2 at hGS ⊢;clear hb3 hbA hA3 HAT HWW HB4 HZ4 HZ5 HX3 HD3 HZ2 hZ3 y0 y1 y2 hV3 g0 g1 g2 g3 k0 k1 k2 k3)
  have d4:W4.cell? ⟨w.heap.size,0,none⟩=some (.slice (some ⟨b,o,none⟩) ns.length cap):=by rw[cH9 hGS.box];rfl
  have HGS:Hid _:=hGS;have hlo:=hGS.lo;clear hGS;go_wp2_with fail
  go_loopg [7] (ns.length-(n+1)) (fun g j wr=>∃ (i:Nat) (v:Value) (qs:List (Bool × ByteArray × Value × Value)),i+g=ns.length∧n<i∧j=.int .i64 (i:Int)∧GT w (.slice (some ⟨b,o,none⟩) ns.length cap) b2 W4.heap.size #[.bool x.text,.string x.s,.slice a3 x.attrs.length c3',v] (.slice a3 x.attrs.length c3') x.attrs wr∧W4.heap.size≤wr.heap.size∧qS (fun _=>False) f W4.heap.size wr v ((qK ns n i).map fun k=>treeF f ns k.toNat) qs)
  case atStart => exact ⟨n+1,.slice none 0 0,[],by omega,by omega,by go_num,HGS.out,nR9 _,by rw[YS _ _ _ (nR9 _)];exact qS.nil _ _ _ _⟩
  case round =>
   obtain ⟨i,v,qs,hi,hni2,rfl,hG,hWs,hGr⟩:=hrel;have HG4:Hid _:=hG;have hB4:=hG.below;obtain ⟨ja,jc,rfl⟩:=hGr.shape;have HGR:Hid _:=hGr;have d5:wr.cell? ⟨w.heap.size,0,none⟩=some (.slice (some ⟨b,o,none⟩) ns.length cap):=by rw[cH9 HG4.out.box];rfl
   by_cases hil:i<ns.length
   · obtain ⟨y, hy⟩ : ∃ y, ns[i]? = some y := ⟨ns[i], by simp[hil]⟩
     obtain ⟨b',o',cap2,xva,xvk,hv,_,_,_,hbw2,_,_,_,c3,_,_,_⟩:=(HNN.out.later hB4).at hy
     cases hv;have hili:(i:Int)<(ns.length:Int):=by omega
     by_cases hp:y.parent=(n:Int)
     · have hsn:(qK ns n (i+1)).map (fun k=>treeF f ns k.toNat)=(qK ns n i).map (fun k=>treeF f ns k.toNat)++[treeF f ns i]:=by
        rw[qK,if_pos ⟨by omega,by unfold xU;rw[hy];simp[hp]⟩,List.map_append];rfl
       have HSN:Hid _:=hsn;rw[hp]at c3
       have HCALL:Hid (∀ W,Below w.heap.size w W→Calls Tryd.prog 70 #[.agg #[(.slice (some ⟨b,o,none⟩) ns.length cap)],.int .i64 (i:Int)] W fun e w'=>∃ r,e=.returned r∧∃ va vk,r=.agg #[.bool (treeF f ns i).text,.string (treeF f ns i).s,va,vk] ∧
        qe (fun b=>W.heap.size≤b) w' va (treeF f ns i).attrs∧qb (fun b=>W.heap.size≤b) w' f vk (treeF f ns i).kids∧Below W.heap.size W w'):=by
        intro W hW;refine (IH.out S _ ns i W (HNN.out.later hW) hfew h80 (by omega) (by omega)).mono ?_
        rintro e w' ⟨va,vk,rfl,h1,h2,h3⟩;exact ⟨_,rfl,va,vk,rfl,h1,h2,h3⟩
       have hln:((qK ns n i).map fun k=>treeF f ns k.toNat).length≤80:=by rw[List.length_map];have:=JP ns n i;omega
       obtain ⟨us,hus⟩:∃ us,(qK ns n i).map (fun k=>treeF f ns k.toNat)=us:=⟨_,rfl⟩
       obtain ⟨t,ht⟩:∃ t,treeF f ns i=t:=⟨_,rfl⟩;rw[hus]at HGR HG4 HSN hln
       rw[ht]at HCALL HSN
       obtain ⟨L,hL⟩:∃ L,us.length=L:=⟨_,rfl⟩;rw[hL]at HGR HG4 hln
       have HLN:Hid (us.length=L):=hL;have hz3:wr.cell? ⟨b2,3,none⟩=some (.slice ja L jc):=by rw[cH9 HG4.out.tre];rfl
       have hf3:wr.frozen? ⟨b2,3,none⟩=false:=fH9 HG4.out.tre 3;have hi20:L≤1048576:=by omega
       have hwrs:=hB4.size;have hb2r:=qf HG4.out.tre;have HGD:Hid (qS (fun _=>False) f W4.heap.size wr.drew (.slice ja L jc) us qs):=HGR.out.later (Below.refl _ wr).drew
       have HCH:Hid (∀ (w5 w6:World) (X:Obj),Below wr.drew.heap.size wr.drew w5→(w5.alloc X).grownBy w6 (Value.slice ja L jc).ownBlock→w6.heap[b2]?=some (.cells #[.bool x.text,.string x.s,.slice a3 x.attrs.length c3',.slice ja L jc] 25 (0,0))):=by
        intro w5 w6 X h5 h6;have h7:b2<w5.heap.size:=Nat.lt_of_lt_of_le hb2r h5.size;rw[h6.block b2 (by simp;omega) (fun e=>by have:=(HGR.out.own.lt b2 e.symm).1;have:=HG4.out.hi;omega),Lib.alloc_old _ _ _ h7]
        exact (h5.block b2 hb2r).trans HG4.out.tre
       clear hG hGr hy hsn hus ht d4 hL hp;go_wp2_with fail
       go_region_law (first
        | (refine zU (by rfl) 70 #[.agg #[(.slice (some ⟨b,o,none⟩) ns.length cap)],.int .i64 (i:Int)] (by go_simp) _ (HCALL.out _ hB4.drew) ?_;intro r5 w5 hR5;obtain ⟨va5,vk5,rfl,hA5,hK5,hb5⟩:=hR5;obtain ⟨a5,c5,rfl⟩:=hA5.shape;obtain ⟨k5,d5,rfl,_,_⟩:=qb.shape f hK5;have z5:w5.cell? ⟨b2,3,none⟩=some (.slice ja L jc):=(hb5.cell (p:=⟨b2,3,none⟩) hb2r).trans hz3;have z5a:(w5.alloc (.cells #[.bool t.text,.string t.s,.slice a5 t.attrs.length c5,.slice k5 t.kids.length d5] 25)).cell? ⟨b2,3,none⟩=some (.slice ja L jc):=Lib.cell?_alloc_some _ z5)
        | (refine j7 (by rfl) (.tmp 39) (.tmp 43) (by rfl) W4.heap.size (.slice ja L jc) L (quadCells qs) (by simp[Act.eval]) (by have:=(qq HGD.out.own hb5).alloc (.cells #[.bool t.text,.string t.s,.slice a5 t.attrs.length c5,.slice k5 t.kids.length d5] 25);rw[HLN.out]at this;exact this) ⟨w5.heap.size,0,none⟩ t.text t.s a5 t.attrs.length c5 k5 t.kids.length d5 (by simp[Act.eval]) (yW _ _ _ _ _ _) hi20 (by have:=hb5.size;simp at this ⊢;omega) ?_;intro v6 w6 hown6 hgr6 hat6;obtain ⟨a6,n6,c6,rfl⟩:=qC hown6;have hk6:=HCH.out w5 w6 _ hb5 hgr6;have z6:=cH9 hk6 3;have f6:=fH9 hk6 3;simp at z6))
       all_goals
        have HG7:Hid _:=Z8 HG4.out HGD.out HLN.out hb5 hA5 hK5 hown6 hgr6 hat6;clear hown6 hgr6 hat6 hA5 hK5;go_wp2_with fail
        go_roundg (ns.length-(i+1))
        case measure => omega
        case rel => exact ⟨i+1,_,_,by omega,by omega,by go_num,HG7.out.1,HG7.out.2.1,by rw[HSN.out];exact HG7.out.2.2⟩
     · have hpb : (y.parent == (n : Int)) = false := by simpa using hp
       have hsn:qK ns n (i+1)=qK ns n i:=by
        rw[qK,if_neg (fun h=>by have h2:=h.2;unfold xU at h2;rw[hy]at h2;simp at h2;exact hp h2),List.append_nil]
       have HSN:Hid _:=hsn;clear hG hGr hy hsn hp d4;go_wp2_with fail
       go_roundg (ns.length-(i+1))
       case measure => omega
       case rel => exact ⟨i+1,_,_,by omega,by omega,by go_num,HG4.out,hWs,by rw[HSN.out];exact HGR.out⟩
   · have hii : i = ns.length := by omega
     have HII:Hid (i=ns.length):=hii;have hili:¬ ((i:Int)<(ns.length:Int)):=by omega
     clear hii;have p0:wr.cell? ⟨w.heap.size+1,0,none⟩=some (.bool false):=by rw[cH9 HG4.out.res];rfl
     have p1:wr.cell? ⟨w.heap.size+1,1,none⟩=some (.string ⟨#[]⟩):=by rw[cH9 HG4.out.res];rfl
     have p2:wr.cell? ⟨w.heap.size+1,2,none⟩=some (.slice none 0 0):=by rw[cH9 HG4.out.res];rfl
     have p3:wr.cell? ⟨w.heap.size+1,3,none⟩=some (.slice none 0 0):=by rw[cH9 HG4.out.res];rfl
     have f0:wr.frozen? ⟨w.heap.size+1,0,none⟩=false:=fH9 HG4.out.res 0;have f1:wr.frozen? ⟨w.heap.size+1,1,none⟩=false:=fH9 HG4.out.res 1;have f2:wr.frozen? ⟨w.heap.size+1,2,none⟩=false:=fH9 HG4.out.res 2;have f3:wr.frozen? ⟨w.heap.size+1,3,none⟩=false:=fH9 HG4.out.res 3;have q0:wr.cell? ⟨b2,0,none⟩=some (.bool x.text):=by rw[cH9 HG4.out.tre];rfl
     have q1:wr.cell? ⟨b2,1,none⟩=some (.string x.s):=by rw[cH9 HG4.out.tre];rfl
     have q2:wr.cell? ⟨b2,2,none⟩=some (.slice a3 x.attrs.length c3'):=by rw[cH9 HG4.out.tre];rfl
     have q3:wr.cell? ⟨b2,3,none⟩=some (.slice ja ((qK ns n i).map fun k=>treeF f ns k.toNat).length jc):=by rw[cH9 HG4.out.tre];rfl
     clear hG hGr d4
     generalize hvv:Value.slice ja ((qK ns n i).map fun k=>treeF f ns k.toNat).length jc=vv at HGR HG4 q3
     obtain ⟨va7,vn7,vc7,rfl⟩:∃ a n c,vv=.slice a n c:=⟨_,_,_,hvv.symm⟩;clear hvv;rw[HII.out]at HGR
     go_wp2_with fail;refine bodyPost_ret (v:=.agg #[.bool x.text,.string x.s,.slice a3 x.attrs.length c3',.slice va7 vn7 vc7]) (by simp[results,Tryd.results70,go_sem,qg,p0,p1,p2,p3,World.cell?_setCell_other]) rfl ⟨.slice a3 x.attrs.length c3',.slice va7 vn7 vc7,?_,?_,?_,?_⟩
     · rw[HG.out]
     · rw[HG.out];refine HG4.out.att.carry fun b hb=>⟨by have:=hb.1;omega,?_⟩
       rw[qd (by have:=hb.1;omega),qd (by have:=hb.1;omega),qd (by have:=hb.1;omega),qd (by have:=hb.1;omega)]
     · rw[HG.out];have hW:=HG4.out.hi;refine qb.carry (fun b hb=>⟨?_,?_⟩) (f+1) HGR.out.done
       · rcases hb with hb | hb
         · exact hb.elim
         · omega
       · rcases hb with hb | hb
         · exact hb.elim
         · rw[qd (by omega),qd (by omega),qd (by omega),qd (by omega)]
     · exact (((hB4.setCell (p:=⟨w.heap.size+1,0,none⟩) (Nat.le_succ _) _).setCell (p:=⟨w.heap.size+1,1,none⟩) (Nat.le_succ _) _).setCell (p:=⟨w.heap.size+1,2,none⟩) (Nat.le_succ _) _).setCell (p:=⟨w.heap.size+1,3,none⟩) (Nat.le_succ _) _
theorem x7 (f:Nat):jF f:=by
 induction f with
 | zero=>intro S v ns n w _ _ _ hn hf;omega
 | succ f ih=>exact Z9 f ih
end
section
attribute [local go_sem] qg
theorem YW {ops:Array Oper}{o:Oper}{a:Act}{w:World}{K:Act→World→Prop}{Q:Exit→Act→World→Prop}{E:Prop}
 (hg:o.guard=none) (x:Operand) (hop:o.op=Op.call { callee:=Callee.builtin Builtin.append,args:=#[.const (.slice none 0 0),x],argTypes:=#[88,88] })
 (S:Nat→Prop) (v:Value) (l:List Int) (hx:a.eval x=v) (h:qX S w v l) (hl:l.length≤17592186044416)
 (hK:∀ v' w',zm w.heap.size w' v' l→Below w.heap.size w w'→K (a.put o.dst v') w') :
 if Region.wanted o (yielded ops a.tmps)=true then Oper.wp Tryd.prog o a w K Q else E:=by
 have hw:Region.wanted o (yielded ops a.tmps)=true:=by simp[Region.wanted,hg]
 rw[if_pos hw];obtain ⟨i0,hi,hz0,hz1,hz2⟩:=info_parts intInfoR;have h':=h;obtain ⟨ad,cap,rfl,h2,h3,h4⟩:=h;have hs:a.eval (.const (.slice none 0 0))=.slice none 0 0:=rfl;cases ad with
 | none =>
   have hn:l=[]:=by
    apply Classical.byContradiction;intro hne
    obtain ⟨b,o,ha,_⟩:=h4 hne;cases ha
   subst hn
   have hrun:(Builtin.append_ #[88,88] o.type #[.slice none 0 0,.slice none 0 cap]).run Tryd.prog w=.ok (.slice none 0 0) w:=by
    simp[Builtin.append_,run_underlying Tryd.underlying88,sizeOf,typeInfo,hi,Builtin.lenOf,Builtin.firstCells]
   simp only[List.length_nil]at hx
   unfold Oper.wp;simp[execOp,hop,resolve,invoke,builtin,hs,hx,hrun,Result.andThen];exact hK _ _ (zm.nil _ _) (Below.refl _ _)
 | some ad =>
   obtain ⟨v',w',hrun,r1,r2,_⟩:=run_append_own (P:=Tryd.prog) w w.heap.size 88 o.type 3 i0 _ 1 8 Tryd.underlying88 hi hz0 hz1 hz2 rfl (by decide) (.slice none 0 0) 0 [] (World.ownsRow_nil w _ _ _) ad l.length cap (qM l) (by rw[xn];omega) h'.cells (Q5 l) (by unfold maxLen;omega) (by omega) (nR9 _)
   unfold Oper.wp;simp[execOp,hop,resolve,invoke,builtin,hs,hx,hrun,Result.andThen];refine hK _ _ (by unfold zm;simpa using r1) ((Below.refl _ w).grown r2 (nR9 _) (fun k hk=>by simp[Value.ownBlock]at hk))
theorem nodeInfoC:(Tryd.prog.info? 90).map (fun i=>(i.zero,i.size,i.bytes))=some (some (.agg #[.bool false,.string ⟨#[]⟩,.slice none 0 0,.int .i64 0,.slice none 0 0]),5,80):=by kernel_rfl
theorem yV (w:World)(a b c d e:Value)(t:TypeId):∀ (j:Nat) (u:Value),([a,b,c,d,e]:List Value)[j]?=some u→(w.alloc (.cells #[a,b,c,d,e] t)).cell? ((⟨w.heap.size,0,none⟩:Addr).add j)=some u:=by
 intro j u hj
 match j,hj with
 | 0,hj|1,hj|2,hj|3,hj|4,hj=>simp at hj;subst hj;simp[Addr.add]
structure CD (w:World) (dv:Value) (v:Value) (l:List Nd) (ms:List Rw) (W:World):Prop where
 below:Below w.heap.size w W
 box:W.heap[w.heap.size]?=some (.cells #[dv] 47 (0,0))
 res:W.heap[w.heap.size+1]?=some (.cells #[.slice none 0 0] 47 (0,0))
 out:W.heap[w.heap.size+2]?=some (.cells #[v] 47 (0,0))
 row:qV (w.heap.size+3) W v l ms
theorem QY {w wr w3 w4:World}{dv:Value}{ja:Option Addr}{jc k:Nat}{l:List Nd}{ms:List Rw}{x:Nd}{va vk v':Value}
 (hC:CD w dv (.slice ja k jc) l ms wr) (hk:l.length=k) (hb:Below wr.heap.size wr w3)
 (hA:qe (qY (wr.heap.size) 69 w3) w3 va x.attrs) (hK:zm wr.heap.size w3 vk x.kids)
 (hown:w4.ownsRow (w.heap.size+3) 90 5 v' (k+1) (rawCells ms++[.bool x.text,.string x.s,va,.int .i64 x.parent,vk]))
 (hgr:(w3.alloc (.cells #[.bool x.text,.string x.s,va,.int .i64 x.parent,vk] 90)).grownBy w4 (Value.slice ja k jc).ownBlock) :
 CD w dv v' (l++[x]) (ms++[⟨x.text,x.s,va,x.parent,vk⟩]) (w4.setCell ⟨w.heap.size+2,0,none⟩ v'):=by
 have hs3:=hb.size;have hlo:=qf hC.out;have hsr:=hC.below.size;have hs4:=hgr.size;simp only[World.size_alloc]at hs4
 have hB3:w.heap.size+3≤wr.heap.size:=by omega
 have hB4:Below w.heap.size w w4:=(hC.below.trans (hb.mono hsr)).alloc (by omega) _ |>.grown hgr (by simp;omega) (fun g hg=>by have:=(hC.row.own.lt g hg).1;omega)
 have hkeep:∀ b,b<w.heap.size+3→b<wr.heap.size→w4.heap[b]?=wr.heap[b]?:=by
  intro b h1 h2;rw[hgr.block b (by simp;omega) (fun e=>by have:=(hC.row.own.lt b e.symm).1;omega),Lib.alloc_old _ _ _ (by omega)]
  exact hb.block b h2
 have hR3:=(hC.row.later hb).later (Below.alloc1 w3 (.cells #[.bool x.text,.string x.s,va,.int .i64 x.parent,vk] 90))
 have hG:=hR3.snoc (r:=⟨x.text,x.s,va,x.parent,vk⟩) (x:=x) (by rw[hk];exact hown) hgr
  ⟨rfl,rfl,rfl,(hA.own_later (Below.alloc1 w3 _)).carry (fun b hb'=>⟨hb'.to hB3 rfl,rfl⟩),zJ (World.ownsRow.alloc hK _) hB3⟩
  (fun i q b hq hb' e=>by
   obtain ⟨y,hy⟩:∃ y,l[i]?=some y:=⟨l[i]'(by rw[←hC.row.len];exact (List.getElem?_eq_some_iff.1 hq).1),by simp⟩
   have h1:=(zm.lt (hC.row.each i q y hq hy).2.2.2.2 b hb').2;have h2:=(zm.lt hK b e).1;omega)
 refine ⟨hB4.setCell (p:=⟨w.heap.size+2,0,none⟩) (by show w.heap.size≤w.heap.size+2;omega) _,?_,?_,?_,?_⟩
 · rw[qd (by omega),hkeep _ (by omega) (qf hC.box)];exact hC.box
 · rw[qd (by omega),hkeep _ (by omega) (qf hC.res)];exact hC.res
 · have := (hkeep _ (by omega) hlo).trans hC.out
   simp[World.setCell,Array.getElem?_modify,this]
 · exact hG.keep (fun b hs=>qd (by have:=hs.1;omega)) (fun b hs=>qd (by have:=hs.1;omega)) (fun b hs=>qd (by have:=(hG.own.lt b hs).1;omega))
set_option maxHeartbeats 2000000 in
theorem ZD (S:Nat→Prop)(v:Value)(ns:List Nd)(w:World)(hN:qr S w v ns)(hfew:∀ x∈ns,x.attrs.length≤4398046511104∧x.kids.length≤17592186044416)(hlen:ns.length≤1759218604441) :
 Calls Tryd.prog 37 #[.agg #[v]] w fun e w'=>∃ v',e=.returned (.agg #[v'])∧qr (fun b=>w.heap.size≤b) w' v' ns∧Below w.heap.size w w':=by
 obtain ⟨i0,hi,hz0,hz1,hz2⟩:=info_parts nodeInfoC;obtain ⟨a,cap,rfl,hlc,hcm⟩:=hN.shape;unfold maxLen at hcm
 have HN:Hid (qr S w (.slice a ns.length cap) ns):=hN
 have hC0:CD w (.slice a ns.length cap) (.slice none 0 0) [] [] (((w.alloc (.cells #[.slice a ns.length cap] 47)).alloc (.cells #[.slice none 0 0] 47)).alloc (.cells #[.slice none 0 0] 47)):=by
  refine ⟨((Below.alloc1 w _).alloc (by simp) _).alloc (by simp;omega) _,?_,?_,?_,qV.nil _ _⟩
  · rw[Lib.alloc_old _ _ _ (by simp;omega),Lib.alloc_old _ _ _ (by simp)];exact heap_alloc_new _ _
  · rw[Lib.alloc_old _ _ _ (by simp)]
    have e:=heap_alloc_new (w.alloc (.cells #[.slice a ns.length cap] 47)) (.cells #[.slice none 0 0] 47);rw[World.size_alloc]at e
    exact e
  · have e := heap_alloc_new ((w.alloc (.cells #[.slice a ns.length cap] 47)).alloc (.cells #[.slice none 0 0] 47)) (.cells #[.slice none 0 0] 47);rw[World.size_alloc,World.size_alloc]at e
    exact e
 have HC0:Hid _:=hC0;clear hN
 go_enter Tryd.func37,Tryd.ntmps37
 go_wp2_with fail
 generalize (((w.alloc (.cells #[.slice a ns.length cap] 47)).alloc (.cells #[.slice none 0 0] 47)).alloc (.cells #[.slice none 0 0] 47))=W0 at *
 clear hC0
 go_loopg [9] ns.length (fun g j wr=>∃ (k:Nat) (v:Value) (ms:List Rw),k+g=ns.length∧j=.int .i64 (k:Int)∧CD w (.slice a ns.length cap) v (ns.take k) ms wr)
 case atStart => exact ⟨0,_,[],by omega,rfl,HC0.out⟩
 case round =>
  obtain ⟨k,v,ms,hk,rfl,hC⟩:=hrel;have HC:Hid _:=hC;have hB:=hC.below;have hwr:=qf hC.out;obtain ⟨ja,jc,rfl,hjl,hjm⟩:=hC.row.shape
  by_cases hlt:k<ns.length
  · obtain ⟨x, hx⟩ : ∃ x, ns[k]? = some x := ⟨ns[k], by simp[hlt]⟩
    obtain ⟨b,o,cap',va,vk,hv,_,_,hSb,hbw,c0,c1,c2,c3,c4,hAt,hKi⟩:=(HN.out.later hB).at hx
    cases hv;obtain ⟨hal,hkl⟩:=hfew x (List.mem_of_getElem? hx);obtain ⟨aa,ac,rfl⟩:=hAt.shape;obtain ⟨ka,kc,rfl,_,_⟩:=hKi.shape
    have hsn:ns.take (k+1)=ns.take k++[x]:=by
     rw[List.take_succ_eq_append_getElem hlt];congr 2;simpa[hlt] using hx
    have HS:Hid (ns.take (k+1)=ns.take k++[x]):=hsn;have hlk:(ns.take k).length=k:=by rw[List.length_take];omega
    obtain ⟨us,hus⟩:∃ us,ns.take k=us:=⟨_,rfl⟩;rw[hus]at HC hlk HS hjl
    rw[hlk]at HC hjl
    have HL:Hid (us.length=k):=hlk;have hki:(k:Int)<(ns.length:Int):=by omega
    have o0:wr.cell? ⟨w.heap.size+1+1,0,none⟩=some (.slice ja k jc):=by rw[cH9 HC.out.out];rfl
    have of0:wr.frozen? ⟨w.heap.size+1+1,0,none⟩=false:=fH9 HC.out.out 0;have hbx:=heap_alloc_new wr (.cells #[.bool x.text,.string x.s,.slice aa x.attrs.length ac,.int .i64 x.parent,.slice ka x.kids.length kc] 90);have hb1:=Below.alloc1 wr (.cells #[.bool x.text,.string x.s,.slice aa x.attrs.length ac,.int .i64 x.parent,.slice ka x.kids.length kc] 90);have hwl:wr.heap.size<(wr.alloc (.cells #[.bool x.text,.string x.s,.slice aa x.attrs.length ac,.int .i64 x.parent,.slice ka x.kids.length kc] 90)).heap.size:=by simp
    clear hC hx hsn hus hlk;go_wp2_with fail
    generalize wr.alloc (.cells #[.bool x.text,.string x.s,.slice aa x.attrs.length ac,.int .i64 x.parent,.slice ka x.kids.length kc] 90)=W1 at *
    have n2:W1.cell? ⟨wr.heap.size,2,none⟩=some (.slice aa x.attrs.length ac):=by rw[cH9 hbx];rfl
    have n4:W1.cell? ⟨wr.heap.size,4,none⟩=some (.slice ka x.kids.length kc):=by rw[cH9 hbx];rfl
    have HAT:Hid (qe S wr (.slice aa x.attrs.length ac) x.attrs):=hAt;have HKI:Hid (qX S wr (.slice ka x.kids.length kc) x.kids):=hKi;clear hAt hKi c0 c1 c2 c3 c4
    go_region_law (first
     | (refine zC (by rfl) (.tmp 14) (by rfl) S (.slice aa x.attrs.length ac) x.attrs (by first|rfl|simp[Act.eval]) (HAT.out.later hb1.drew) hal ?_;intro v1 w1 hA1 hB1;obtain ⟨a1,c1',rfl⟩:=hA1.shape;have hx1:=(hB1.block wr.heap.size hwl).trans hbx;have n4a:w1.cell? ⟨wr.heap.size,4,none⟩=some (.slice ka x.kids.length kc):=by (rw[cH9 hx1];rfl))
     | (refine YW (by rfl) (.tmp 17) (by rfl) S (.slice ka x.kids.length kc) x.kids (by first|rfl|simp[Act.eval]) (HKI.out.later (hb1.drew.trans (hB1.mono (by exact hb1.size)))) hkl ?_;intro v2 w2 hI2 hB2;obtain ⟨a2,c2',rfl,_,_⟩:=hI2.shape;have hx2:=(hB2.block _ (qf hx1)).trans hx1;have n2b:=cH9 hx2 2;have n4b:=cH9 hx2 4;have f2b:=fH9 hx2 2;have f4b:=fH9 hx2 4;simp at n2b n4b))
    all_goals
     have hW4:(((w2.setCell ⟨wr.heap.size,2,none⟩ (.slice a1 x.attrs.length c1')).setCell ⟨wr.heap.size,4,none⟩ (.slice a2 x.kids.length c2'))).heap[wr.heap.size]?=some (.cells #[.bool x.text,.string x.s,.slice a1 x.attrs.length c1',.int .i64 x.parent,.slice a2 x.kids.length c2'] 90 (0,0)):=by
      simp[World.setCell,Array.getElem?_modify,hx2]
     have hk4:∀ b,wr.heap.size<b→(((w2.setCell ⟨wr.heap.size,2,none⟩ (.slice a1 x.attrs.length c1')).setCell ⟨wr.heap.size,4,none⟩ (.slice a2 x.kids.length c2'))).heap[b]?=w2.heap[b]?:=fun b hb=>by rw[qd (by omega),qd (by omega)]
     have hs12:W1.heap.size≤w1.heap.size:=hB1.size;have hs22:=hB2.size;have hB4:Below wr.heap.size wr (((w2.setCell ⟨wr.heap.size,2,none⟩ (.slice a1 x.attrs.length c1')).setCell ⟨wr.heap.size,4,none⟩ (.slice a2 x.kids.length c2'))):=(((hb1.drew.trans (hB1.mono hb1.size)).trans (hB2.mono (by omega))).setCell (p:=⟨wr.heap.size,2,none⟩) (nR9 _) _).setCell (p:=⟨wr.heap.size,4,none⟩) (nR9 _) _
     have hA4:qe (qY wr.heap.size 69 (((w2.setCell ⟨wr.heap.size,2,none⟩ (.slice a1 x.attrs.length c1')).setCell ⟨wr.heap.size,4,none⟩ (.slice a2 x.kids.length c2')))) (((w2.setCell ⟨wr.heap.size,2,none⟩ (.slice a1 x.attrs.length c1')).setCell ⟨wr.heap.size,4,none⟩ (.slice a2 x.kids.length c2'))) (.slice a1 x.attrs.length c1') x.attrs :=
      (hA1.own_later hB2).carry fun b hb=>by
       have h1:W1.heap.size≤b:=hb.1;exact ⟨hb.to (by show wr.heap.size≤W1.heap.size;omega) (hk4 b (by omega)),hk4 b (by omega)⟩
     have hI4:zm wr.heap.size (((w2.setCell ⟨wr.heap.size,2,none⟩ (.slice a1 x.attrs.length c1')).setCell ⟨wr.heap.size,4,none⟩ (.slice a2 x.kids.length c2'))) (.slice a2 x.kids.length c2') x.kids :=
      zJ (qo hI2 fun b hb=>hk4 b (by have:=(zm.lt hI2 b hb).1;omega)) (by omega)
     generalize ((w2.setCell ⟨wr.heap.size,2,none⟩ (.slice a1 x.attrs.length c1')).setCell ⟨wr.heap.size,4,none⟩ (.slice a2 x.kids.length c2'))=W4 at hW4 hB4 hA4 hI4 ⊢
     have m0:W4.cell? ⟨wr.heap.size,0,none⟩=some (.bool x.text):=by rw[cH9 hW4];rfl
     have m1:W4.cell? ⟨wr.heap.size,1,none⟩=some (.string x.s):=by rw[cH9 hW4];rfl
     have m2:W4.cell? ⟨wr.heap.size,2,none⟩=some (.slice a1 x.attrs.length c1'):=by rw[cH9 hW4];rfl
     have m3:W4.cell? ⟨wr.heap.size,3,none⟩=some (.int .i64 x.parent):=by rw[cH9 hW4];rfl
     have m4:W4.cell? ⟨wr.heap.size,4,none⟩=some (.slice a2 x.kids.length c2'):=by rw[cH9 hW4];rfl
     have hd4:=(hB4.block _ hwr).trans HC.out.out;have o4:W4.cell? ⟨w.heap.size+1+1,0,none⟩=some (.slice ja k jc):=by rw[cH9 hd4];rfl
     have hown4:=(HC.out.row.later hB4).own;rw[HL.out]at hown4
     have hs4:=hB4.size;clear hk4 n2 n4 n4a n2b n4b f2b f4b hx1 hx2 hbx hA1 hB1 hI2 hB2 hb1 hwl hs12 hs22;go_wp2_with (at_builtin;refine wpList_append_own_at _ rfl _ _ 45 rfl (w.heap.size+3) 90 i0 _ 5 80 Tryd.underlying45 hi hz0 hz1 hz2 rfl (by decide) _ _ _ rfl (World.ownsRow.alloc hown4 _) ⟨W4.heap.size,0,none⟩ 1 1 [.bool x.text,.string x.s,.slice a1 x.attrs.length c1',.int .i64 x.parent,.slice a2 x.kids.length c2'] rfl ?qc1 ?qc2 ?qc3 ?qc4 ?qc5 ?qc6 ?_)
     case qc1 => rfl
     case qc2 => exact yV _ _ _ _ _ _ _
     case qc3 => intro u hu;simp at hu;rcases hu with rfl|rfl|rfl|rfl|rfl<;>rfl
     case qc4 => unfold maxLen;omega
     case qc5 => omega
     case qc6 => simp;omega
     intro v' w5 hown' hgrow _ _;obtain ⟨a5,n5,c5,rfl⟩:=qC hown';have HST:Hid _:=QY HC.out HL.out hB4 hA4 hI4 hown' hgrow
     have hd5:w5.heap[w.heap.size+1+1]?=some (.cells #[.slice ja k jc] 47 (0,0)):=by
      have h1:w.heap.size+1+1<wr.heap.size:=hwr;rw[hgrow.block _ (by simp;omega) (fun e=>by have:=(HC.out.row.own.lt _ e.symm).1;omega),Lib.alloc_old _ _ _ (by omega)]
      exact hd4
     have o5:w5.cell? ⟨w.heap.size+1+1,0,none⟩=some (.slice ja k jc):=by rw[cH9 hd5];rfl
     have f5:w5.frozen? ⟨w.heap.size+1+1,0,none⟩=false:=fH9 hd5 0;clear hown' hgrow hA4 hI4;go_wp2_with fail
     go_roundg (ns.length-(k+1))
     case measure => omega
     case rel => exact ⟨k+1,_,_,by omega,by go_num,by rw[HS.out];exact HST.out⟩
  · have hki : ¬ ((k : Int) < (ns.length : Int)) := by omega
    have hkk:k=ns.length:=by omega
    have HKK:Hid (ns.take k=ns):=by show _=_;rw[hkk,List.take_length]
    have hlk:(ns.take k).length=ns.length:=by rw[HKK.out]
    rw[hlk]at HC hjl
    have o0:wr.cell? ⟨w.heap.size+1+1,0,none⟩=some (.slice ja ns.length jc):=by rw[cH9 HC.out.out];rfl
    have r0:wr.cell? ⟨w.heap.size+1,0,none⟩=some (.slice none 0 0):=by rw[cH9 HC.out.res];rfl
    have rf0:wr.frozen? ⟨w.heap.size+1,0,none⟩=false:=fH9 HC.out.res 0;clear hC hkk hlk;go_wp2_with fail;refine bodyPost_ret (v:=.agg #[.slice ja ns.length jc]) (by simp[results,Tryd.results37,go_sem,qg,r0]) rfl ⟨_,rfl,?_,?_⟩
    · have := HC.out.row.done;rw[HKK.out]at this
      exact this.carry fun b hb=>⟨by omega,qd (by omega)⟩
    · exact hB.setCell (p:=⟨w.heap.size+1,0,none⟩) (Nat.le_succ _) _
end
theorem qb.pred {S:Nat→Prop}{w:World}{m:Nat}{v:Value}{ts:List Tr}(h:qb S w m v ts):qb S w (m.pred+1) v ts:=by
 cases m with
 | zero=>exact qb.deeper 0 h
 | succ m=>exact h
theorem qb.back {S:Nat→Prop}{w:World}{m:Nat}{v:Value}{ts:List Tr}(h:qb S w (m.pred+1) v ts)(hd:Deep m ts):qb S w m v ts:=by
 cases m with
 | zero =>
   have:ts=[]:=hd;subst this;obtain ⟨a,c,e,_,hc⟩:=qb.shape 1 h;exact ⟨rfl,a,c,e,hc⟩
 | succ m=>exact h
theorem YR (S:Nat→Prop)(n:Nat)(va vk:Value)(t:Tr)(w:World)(h:qe S w va t.attrs)(hk:qb S w n vk t.kids)(hc:cnt (n+1) [t]≤1048576) :
 Calls Tryd.prog 12 #[.agg #[.bool t.text,.string t.s,va,vk]] w fun e w'=>e=.returned (.tuple #[.int .i64 (dep (n+1) [t]:Int),.int .i64 (cnt (n+1) [t]:Int)])∧Below w.heap.size w w':=by
 obtain ⟨aa,ac,rfl⟩:=h.shape;obtain ⟨ka,kc,rfl,_,_⟩:=qb.shape n hk;have hb:∀ X Y,Below w.heap.size w ((w.alloc X).alloc Y):=fun X Y=>(Below.alloc1 w X).alloc (by simp) Y
 have hT:qb (fun _=>True) ((w.alloc (.cells #[.bool t.text,.string t.s,.slice aa t.attrs.length ac,.slice ka t.kids.length kc] 25)).alloc (.cells #[.bool t.text,.string t.s,.slice aa t.attrs.length ac,.slice ka t.kids.length kc] 25)) (n+1) (.slice (some ⟨w.heap.size+1,0,none⟩) 1 1) [t]:=by
  refine qb.carry (fun b _=>⟨trivial,rfl⟩) (n+1) (qb.of_block (S:=S) (e:=25) (fz:=(0,0)) (qs:=[(t.text,t.s,.slice aa t.attrs.length ac,.slice ka t.kids.length kc)]) ?_ rfl rfl rfl (nR9 _) (by unfold maxLen;simp) ?_)
  · have := heap_alloc_new (w.alloc (.cells #[.bool t.text, .string t.s, .slice aa t.attrs.length ac, .slice ka t.kids.length kc] 25)) (.cells #[.bool t.text, .string t.s, .slice aa t.attrs.length ac, .slice ka t.kids.length kc] 25);rw[World.size_alloc]at this
    exact this
  · intro i q t' hq ht';cases i with
    | zero =>
      simp at hq ht'
      subst hq ht';exact ⟨rfl,rfl,h.later (hb _ _),qb.later (hb _ _) n hk⟩
    | succ i=>simp at ht'
 have HT:Hid _:=hT;have HB:Hid (∀ X Y,Below w.heap.size w ((w.alloc X).alloc Y)):=hb;clear hT hb h hk;obtain ⟨D,hD⟩:∃ D,dep (n+1) [t]=D:=⟨_,rfl⟩;obtain ⟨C,hC⟩:∃ C,cnt (n+1) [t]=C:=⟨_,rfl⟩;rw[hD,hC];rw[hC]at hc
 have HD:Hid (dep (n+1) [t]=D):=hD;have HC:Hid (cnt (n+1) [t]=C):=hC;clear hD hC;have hDC:D≤1048576:=by have:=dep_cnt (n+1) [t];rw[HD.out,HC.out]at this;omega
 go_enter Tryd.func12,Tryd.ntmps12
 go_wp2_with fail
 go_loopg [4,5,6] (n+1) (fun g d c v wr=>∃ (dd cc:Nat) (lv:List Tr),d=.int .i64 (dd:Int)∧c=.int .i64 (cc:Int)∧qb (fun _=>True) wr g v lv∧dd+dep g lv=D∧cc+cnt g lv=C∧Below w.heap.size w wr)
 case atStart => exact ⟨0,0,[t],rfl,rfl,HT,by rw[HD.out];omega,by rw[HC.out];omega,HB _ _⟩
 case round =>
  obtain ⟨dd,cc,lv,rfl,rfl,hlv,hd,hcn,hB⟩:=hrel;have hsz:=hB.size
  by_cases hne:lv=[]
  · subst hne;rw[q5]at hd
    rw[qH]at hcn
    obtain ⟨la,lc,rfl,_,_⟩:=qb.shape _ hlv;have hd':dd=D:=by omega
    have hc':cc=C:=by omega
    subst hd' hc';clear hlv HT HD HC;simp only[List.length_nil];go_wp2_with fail
    go_ret2
    exact ⟨rfl,hB⟩
  · cases gk with
    | zero=>exact absurd hlv.1 hne
    | succ m =>
      obtain ⟨wo,hwo⟩:∃ x,x=wr:=⟨_,rfl⟩;subst hwo;rw[Yo m lv hne]at hd
      rw[xH m lv]at hcn
      have hdeep:Deep m (nx lv):=(qb.deep (m+1) hlv).nx;have hlen:=hdeep.len;have HDp:Hid (Deep m (nx lv)):=hdeep;have hlv':=qb.bounded (m+1) hlv;obtain ⟨la,lc,rfl,hlc,hlm⟩:=qb.shape _ hlv;obtain ⟨_,_,hve,_,_,h4⟩:=hlv';have hl0:0<lv.length:=List.length_pos_iff.2 hne;obtain ⟨b,o,hao,hs,hcc⟩:=h4 hne
      injection hve with e1 e2 e3
      subst e1;subst hao;have Hd:Hid (dd+(1+dep m (nx lv))=D):=hd;have Hc:Hid (cc+(lv.length+cnt m (nx lv))=C):=hcn;have HCC:Hid _:=hcc;have hcb:cc+lv.length≤1048576:=by omega
      have hdb:dd≤1048576:=by omega
      have hnb:(nx lv).length≤1048576:=by omega
      clear hdeep h4 e2 hd hcn hcc hlen hs e3 HT HD HC hlv;unfold maxLen at hlm
      go_wp2_with fail
      go_loopg [7,23] lv.length (fun g v i wr=>∃ (k:Nat) (qs:List (Bool × ByteArray × Value × Value)),k+g=lv.length∧i=.int .i64 k∧qS (fun b=>b<wo.heap.size) m.pred wo.heap.size wr v (nx (lv.take k)) qs∧Below wo.heap.size wo wr)
      case atStart => exact ⟨0,[],by omega,rfl,qS.nil _ _ _ _,Below.refl _ _⟩
      case round =>
       obtain ⟨k,qs,hk,rfl,hG,hBq⟩:=hrel;have hszq:=hBq.size
       by_cases hlt:k<lv.length
       · obtain ⟨x, hx⟩ : ∃ x, lv[k]? = some x := ⟨lv[k], by simp[hlt]⟩
         obtain ⟨va,vk,c0,c1,c2,c3,hat,hkt⟩:=HCC.out k x hx;obtain ⟨xa,xc,rfl⟩:=hat.shape;obtain ⟨ya,yc,rfl,_,_⟩:=qb.shape m hkt;have hbl:b<wo.heap.size:=World.block_lt_of_cell? wo _ c0;rw[←hBq.cell (p:=⟨b,o+k*4,none⟩) hbl]at c0
         rw[←hBq.cell (p:=⟨b,o+k*4+1,none⟩) hbl]at c1
         rw[←hBq.cell (p:=⟨b,o+k*4+2,none⟩) hbl]at c2
         rw[←hBq.cell (p:=⟨b,o+k*4+3,none⟩) hbl]at c3
         have hsn:nx (lv.take (k+1))=nx (lv.take k)++x.kids:=by
          have e:lv.take (k+1)=lv.take k++[x]:=by
           rw[List.take_succ_eq_append_getElem hlt];congr 2;simpa[hlt] using hx
          rw[e,yo,yz,nx_nil,List.append_nil]
         have HS:Hid (nx (lv.take (k+1))=nx (lv.take k)++x.kids):=hsn
         have hle:(nx (lv.take k)++x.kids).length≤1048576:=by
          rw[←hsn];have e:nx lv=nx (lv.take (k+1))++nx (lv.drop (k+1)):=by rw[←yo,List.take_append_drop]
          rw[e,List.length_append]at hnb
          omega
         rw[List.length_append]at hle
         have hblq:b<wr.heap.size:=by omega
         have hG1:=hG.later (Below.alloc1 wr (.cells #[.bool x.text,.string x.s,.slice xa x.attrs.length xc,.slice ya x.kids.length yc] 25));have hB1:Below wo.heap.size wo (wr.alloc (.cells #[.bool x.text,.string x.s,.slice xa x.attrs.length xc,.slice ya x.kids.length yc] 25)):=hBq.alloc hszq _;have hK1:=(qb.later hB1 m hkt).pred;obtain ⟨us,hus⟩:∃ us,nx (lv.take k)=us:=⟨_,rfl⟩;rw[hus]at hG1 hle HS hG
         obtain ⟨ja,jc,rfl⟩:=hG1.shape;clear hx hsn hus hG hat hkt;go_wp2_with (at_builtin;refine ji rfl _ _ rfl (fun b=>b<wo.heap.size) _ m.pred wo.heap.size _ _ us x.kids qs rfl hG1 rfl hK1 ?qc1 hle ?qc2 ?_)
         case qc1 =>
          intro b hb;refine ⟨Or.inl hb.2,Nat.lt_of_lt_of_le hb.2 (by simp;omega),fun e=>?_⟩
          have:=(hG1.own.lt b e).1;have:=hb.2;omega
         case qc2 => simp;omega
         intro v' w2 qs' hG2 hb2;have hB2:Below wo.heap.size wo w2:=hB1.trans hb2;go_wp2_with fail
         go_roundg (lv.length-(k+1))
         case measure => omega
         case rel => exact ⟨k+1,qs',by omega,by go_num,by rw[HS.out];exact hG2,hB2⟩
       · have hkk : k = lv.length := by omega
         subst hkk;rw[List.take_length]at hG
         have hT2:qb (fun _=>True) wr m _ (nx lv):=qb.carry (fun b _=>⟨trivial,rfl⟩) m (hG.done.back HDp.out)
         have hBw:Below w.heap.size w wr:=hB.trans (hBq.mono hsz);go_wp2_with fail
         go_roundg m
         case measure => omega
         case rel => exact ⟨dd+1,cc+lv.length,nx lv,by go_num,by go_num,hT2,by have:=Hd.out;omega,by have:=Hc.out;omega,hBw⟩
section
attribute [local go_sem] qg
set_option maxHeartbeats 2000000 in
theorem yY (S T:Nat→Prop)(va vb:Value)(l m:List Int)(w:World)(h1:qX S w va l)(h2:qX T w vb m) :
 Calls Tryd.prog 67 #[va,vb] w fun e w'=>e=.returned (.bool (decide (l=m)))∧Below w.heap.size w w':=by
 have H1:Hid (qX S w va l):=h1;have H2:Hid (qX T w vb m):=h2;obtain ⟨a,ca,rfl,_,hcm⟩:=h1.shape;obtain ⟨b,cb,rfl,_,hcm2⟩:=h2.shape;unfold maxLen at hcm hcm2
 clear h1 h2
 by_cases hlm:l.length=m.length
 · have hne : ((l.length : Int) != (m.length : Int)) = false := by simp[hlm]
   have HLM:Hid (l.length=m.length):=hlm;clear hlm
   go_enter Tryd.func67,Tryd.ntmps67
   go_wp2_with fail
   go_loopg [13] l.length (fun g j wr=>∃ (i:Nat),i+g=l.length∧j=.int .i64 (i:Int)∧Below w.heap.size w wr∧l.take i=m.take i)
   case atStart => exact ⟨0,by omega,rfl,Below.refl _ _,rfl⟩
   case round =>
    obtain ⟨i,hi,rfl,hB,hT⟩:=hrel;have HT:Hid (l.take i=m.take i):=hT;clear hT
    by_cases hil:i<l.length
    · have him : i < m.length := by have := HLM.out;omega
      obtain ⟨u,hu⟩:∃ u,l[i]?=some u:=⟨l[i],by simp[hil]⟩
      obtain ⟨v,hv⟩:∃ v,m[i]?=some v:=⟨m[i],by simp[him]⟩
      obtain ⟨b1,o1,c1,hv1,_,hbw1,e0⟩:=(H1.out.later hB).at hu
      injection hv1 with hv1 hvl hv2
      subst hv1 hv2;clear hvl;obtain ⟨b2,o2,c2,hv3,_,hbw2,g0⟩:=(H2.out.later hB).at hv
      injection hv3 with hv3 hvl hv4
      subst hv3 hv4;clear hvl;have hili:(i:Int)<(l.length:Int):=by omega
      have himi:(i:Int)<(m.length:Int):=by omega
      have hbn:Below wr.heap.size wr wr.drew:=(Below.refl _ _).drew
      have HC:Hid (∀ W,Below wr.heap.size wr W→Below wr.heap.size wr W∧W.cell? ⟨b1,o1+i,none⟩=some (.int .i64 u)∧W.cell? ⟨b2,o2+i,none⟩=some (.int .i64 v)):=by
       intro W h;refine ⟨h,?_,?_⟩
       · rw[h.cell (p:=⟨b1,o1+i,none⟩) hbw1];exact e0
       · rw[h.cell (p:=⟨b2,o2+i,none⟩) hbw2];exact g0
      have el:l[i]=u:=by simpa[hil] using hu
      have em:m[i]=v:=by simpa[him] using hv
      by_cases huv:u=v
      · have huvb : (u != v) = false := by simp[huv]
        have HT2:Hid (l.take (i+1)=m.take (i+1)):=by
         show _=_
         rw[List.take_succ_eq_append_getElem hil,List.take_succ_eq_append_getElem him,el,em,HT.out,huv]
        clear hu hv el em huv;go_wp2_with fail
        go_region_held3 (fun W:World=>Below wr.heap.size wr W∧W.cell? ⟨b1,o1+i,none⟩=some (.int .i64 u)∧W.cell? ⟨b2,o2+i,none⟩=some (.int .i64 v))
         (with_reducible exact HC.out _ hbn)
         (fail)
        go_wp2_with fail
        go_roundg (l.length-(i+1))
        case measure => omega
        case rel => exact ⟨i+1,by omega,by go_num,hB.trans (hbn.mono hB.size),HT2.out⟩
      · have huvb : (u != v) = true := by simpa using huv
        have HE:Hid (decide (l=m)=false):=by
         refine decide_eq_false ?_;intro e;subst e;exact huv (by rw[←el,←em])
        clear hu hv el em huv;go_wp2_with fail
        go_region_held3 (fun W:World=>Below wr.heap.size wr W∧W.cell? ⟨b1,o1+i,none⟩=some (.int .i64 u)∧W.cell? ⟨b2,o2+i,none⟩=some (.int .i64 v))
         (with_reducible exact HC.out _ hbn)
         (fail)
        go_wp2_with fail;go_ret;exact ⟨by rw[HE.out];rfl,hB.trans (hbn.mono hB.size)⟩
    · have hili : ¬ (i : Int) < (l.length : Int) := by omega
      have HE:Hid (decide (l=m)=true):=by
       refine decide_eq_true ?_;have:=HT.out;rw[List.take_of_length_le (by omega),List.take_of_length_le (by have:=HLM.out;omega)]at this
       exact this
      go_wp2_with fail;go_ret;exact ⟨by rw[HE.out];rfl,hB⟩
 · have hne : ((l.length : Int) != (m.length : Int)) = true := by simp;omega
   have HE:Hid (decide (l=m)=false):=decide_eq_false (fun e=>hlm (by rw[e]))
   clear hlm
   go_enter Tryd.func67,Tryd.ntmps67
   go_wp2_with fail;go_ret;exact ⟨by rw[HE.out];rfl,Below.refl _ _⟩
def ndB (x y:Nd):Bool:=(x.text==y.text)&&decide (x.s=y.s)&&decide (x.parent=y.parent)&&decide (x.attrs=y.attrs)&&decide (x.kids=y.kids)
def ndsB:List Nd→List Nd→Bool
 | [],[]=>true
 | x::a,y::b=>ndB x y&&ndsB a b
 | _,_=>false
theorem XU {x y:Nd}:ndB x y=true↔x=y:=by
 obtain ⟨a,b,c,d,e⟩:=x;obtain ⟨a',b',c',d',e'⟩:=y;unfold ndB;simp
 constructor
 · rintro ⟨⟨⟨⟨h1,h2⟩,h3⟩,h4⟩,h5⟩;exact ⟨h1,h2,h4,h3,h5⟩
 · rintro ⟨h1,h2,h3,h4,h5⟩;exact ⟨⟨⟨⟨h1,h2⟩,h4⟩,h3⟩,h5⟩
theorem ndsB_iff:∀ {a b:List Nd},ndsB a b=true↔a=b:=by
 intro a
 induction a with
 | nil=>intro b;cases b<;>simp[ndsB]
 | cons x a ih => intro b;cases b with
   | nil=>simp[ndsB]
   | cons y b=>simp[ndsB,XU,ih]
end
theorem Qo (S S':Nat→Prop)(v v':Value)(l:List (ByteArray × ByteArray))(w:World)(h1:qe S w v l)(h2:qe S' w v' l) :
 Calls Tryd.prog 58 #[v,v'] w fun e w'=>e=.returned (.bool true)∧Below w.heap.size w w':=by
 obtain ⟨a,cap,rfl,_,hm,h5⟩:=h1;obtain ⟨a',cap',rfl,_,_,h5'⟩:=h2;unfold maxLen at hm
 have hne:((l.length:Int) != l.length)=false:=by simp
 go_enter Tryd.func58,Tryd.ntmps58
 go_wp2_with fail
 go_loopg [13] l.length (fun g i wr=>∃ k:Nat,k+g=l.length∧i=.int .i64 k∧Below w.heap.size w wr)
 case atStart => exact ⟨0,by omega,rfl,Below.refl _ _⟩
 case round =>
  obtain ⟨k,hk,rfl,hB⟩:=hrel
  by_cases hlt:k<l.length
  · have hne : l ≠ [] := by intro e;subst e;simp at hlt
    obtain ⟨b,o,rfl,hs,hcc⟩:=h5 hne;obtain ⟨b',o',rfl,hs',hcc'⟩:=h5' hne;obtain ⟨x,hx⟩:∃ x,l[k]?=some x:=⟨l[k],by simp[hlt]⟩
    obtain ⟨c0,c1⟩:=hcc k x hx;obtain ⟨c0',c1'⟩:=hcc' k x hx;have hbl:b<w.heap.size:=World.block_lt_of_cell? w _ c0;have hbl':b'<w.heap.size:=World.block_lt_of_cell? w _ c0';rw[←hB.cell (p:=⟨b,o+k*2,none⟩) hbl]at c0
    rw[←hB.cell (p:=⟨b,o+k*2+1,none⟩) hbl]at c1
    rw[←hB.cell (p:=⟨b',o'+k*2,none⟩) hbl']at c0'
    rw[←hB.cell (p:=⟨b',o'+k*2+1,none⟩) hbl']at c1'
    have hlti:(k:Int)<(l.length:Int):=by omega
    clear hcc hcc' h5 h5' hx;go_wp2_with fail
    go_quiet (fail)
    go_wp2_with fail
    go_roundg (l.length-(k+1))
    case measure => omega
    case rel => exact ⟨k+1,by omega,by go_num,below_drewN hB nq⟩
  · go_wp2_with fail;go_ret;exact ⟨rfl,hB⟩
def zy (n:Nat):Prop:=∀ (S S':Nat→Prop) (v v':Value) (ts:List Tr) (w:World),qb S w n v ts→qb S' w n v' ts →
 Calls Tryd.prog 59 #[v,v'] w fun e w'=>e=.returned (.bool true)∧Below w.heap.size w w'
def js (n:Nat):Prop:=∀ (S S':Nat→Prop) (tx:Bool) (s:ByteArray) (va va' vk vk':Value) (l:List (ByteArray × ByteArray)) (ts:List Tr) (w:World),qe S w va l→qe S' w va' l→qb S w n vk ts→qb S' w n vk' ts →
 Calls Tryd.prog 25 #[.agg #[.bool tx,.string s,va,vk],.agg #[.bool tx,.string s,va',vk']] w fun e w'=>e=.returned (.bool true)∧Below w.heap.size w w'
theorem Zg (n:Nat)(h:js n):zy (n+1):=by
 intro S S' v v' ts w h1 h2;obtain ⟨a,cap,rfl,_,hm,h4⟩:=h1;obtain ⟨a',cap',rfl,_,_,h4'⟩:=h2;unfold maxLen at hm
 have hne:((ts.length:Int) != ts.length)=false:=by simp
 have H:Hid (js n):=h;clear h
 go_enter Tryd.func59,Tryd.ntmps59
 go_wp2_with fail
 go_loopg [13] ts.length (fun g i wr=>∃ k:Nat,k+g=ts.length∧i=.int .i64 k∧Below w.heap.size w wr)
 case atStart => exact ⟨0,by omega,rfl,Below.refl _ _⟩
 case round =>
  obtain ⟨k,hk,rfl,hB⟩:=hrel
  by_cases hlt:k<ts.length
  · have hne : ts ≠ [] := by intro e;subst e;simp at hlt
    obtain ⟨b,o,rfl,hs,hcc⟩:=h4 hne;obtain ⟨b',o',rfl,hs',hcc'⟩:=h4' hne;obtain ⟨t,ht⟩:∃ t,ts[k]?=some t:=⟨ts[k],by simp[hlt]⟩
    obtain ⟨va,vk,c0,c1,c2,c3,hat,hkt⟩:=hcc k t ht;obtain ⟨va',vk',c0',c1',c2',c3',hat',hkt'⟩:=hcc' k t ht;have hbl:b<w.heap.size:=World.block_lt_of_cell? w _ c0;have hbl':b'<w.heap.size:=World.block_lt_of_cell? w _ c0';rw[←hB.cell (p:=⟨b,o+k*4,none⟩) hbl]at c0
    rw[←hB.cell (p:=⟨b,o+k*4+1,none⟩) hbl]at c1
    rw[←hB.cell (p:=⟨b,o+k*4+2,none⟩) hbl]at c2
    rw[←hB.cell (p:=⟨b,o+k*4+3,none⟩) hbl]at c3
    rw[←hB.cell (p:=⟨b',o'+k*4,none⟩) hbl']at c0'
    rw[←hB.cell (p:=⟨b',o'+k*4+1,none⟩) hbl']at c1'
    rw[←hB.cell (p:=⟨b',o'+k*4+2,none⟩) hbl']at c2'
    rw[←hB.cell (p:=⟨b',o'+k*4+3,none⟩) hbl']at c3'
    have hlti:(k:Int)<(ts.length:Int):=by omega
    clear hcc hcc' h4 h4' ht;go_wp2_with fail
    go_region_with (go_at_call 25;refine (H.out S S' t.text t.s va va' vk vk' t.attrs t.kids wr.drew (hat.later hB.drew) (hat'.later hB.drew) (qb.later hB.drew n hkt) (qb.later hB.drew n hkt')).mono ?_;rintro e w1 ⟨rfl,hb1⟩)
    all_goals
     go_wp2_with fail
     go_roundg (ts.length-(k+1))
     case measure => omega
     case rel => exact ⟨k+1,by omega,by go_num,hB.drew.trans (hb1.mono hB.size)⟩
  · go_wp2_with fail;go_ret;exact ⟨rfl,hB⟩
theorem yZ (n:Nat)(h:zy n):js n:=by
 intro S S' tx s va va' vk vk' l ts w h1 h2 h3 h4;have H:Hid (zy n):=h;clear h;obtain ⟨ka,kc,rfl,_,_⟩:=qb.shape n h3;obtain ⟨ka',kc',rfl,_,_⟩:=qb.shape n h4;obtain ⟨aa,ac,rfl⟩:=h1.shape;obtain ⟨aa',ac',rfl⟩:=h2.shape;have htx:(tx==tx)=true:=by simp
 go_enter Tryd.func25,Tryd.ntmps25
 go_wp2_with fail;have hb0:∀ X Y,Below w.heap.size w ((w.alloc X).alloc Y):=fun X Y=>(Below.alloc1 w X).alloc (by simp) Y
 refine (Qo S S' _ _ l _ (h1.later (hb0 _ _)) (h2.later (hb0 _ _))).mono ?_;rintro e w1 ⟨rfl,hb1⟩
 have q3:w1.cell? ⟨w.heap.size,3,none⟩=some (.slice ka ts.length kc):=by
  rw[hb1.cell (p:=⟨w.heap.size,3,none⟩) (by simp;omega)];simp[go_sem]
 have q3':w1.cell? ⟨w.heap.size+1,3,none⟩=some (.slice ka' ts.length kc'):=by
  rw[hb1.cell (p:=⟨w.heap.size+1,3,none⟩) (by simp)];simp[go_sem]
 have hB1:Below w.heap.size w w1:=(hb0 _ _).trans (hb1.mono (by simp;omega))
 go_wp2_with fail;refine (H.out S S' _ _ ts _ (qb.later hB1 n h3) (qb.later hB1 n h4)).mono ?_;rintro e w2 ⟨rfl,hb2⟩;go_wp2_with fail;go_ret;exact ⟨rfl,hB1.trans (hb2.mono hB1.size)⟩
theorem sameTrees_zero:zy 0:=by
 intro S S' v v' ts w h1 h2;obtain ⟨rfl,a,cap,rfl,_⟩:=h1;obtain ⟨_,a',cap',rfl,_⟩:=h2
 go_enter Tryd.func59,Tryd.ntmps59
 go_wp2_with fail;go_rounds 1;go_ret;exact ⟨rfl,Below.refl _ _⟩
theorem jo (n:Nat):zy n:=by
 induction n with
 | zero=>exact sameTrees_zero
 | succ n ih=>exact Zg n (yZ n ih)
theorem XD {α:Type}{l m:List α}(hl:l.length=m.length)(h:l.take l.length=m.take l.length):l=m:=by
 rw[List.take_length,hl,List.take_length]at h;exact h
theorem jS (S S':Nat→Prop)(v v':Value)(l m:List (ByteArray × ByteArray))(w:World)(h1:qe S w v l)(h2:qe S' w v' m) :
 Calls Tryd.prog 58 #[v,v'] w fun e w'=>e=.returned (.bool (decide (l=m)))∧Below w.heap.size w w':=by
 obtain ⟨a,cap,rfl,_,hm,h5⟩:=h1;obtain ⟨a',cap',rfl,_,_,h5'⟩:=h2;unfold maxLen at hm
 by_cases hlen:l.length=m.length
 · have hne : ((l.length : Int) != m.length) = false := by simp[hlen]
   have HL:Hid (l.length=m.length):=hlen;clear hlen
   go_enter Tryd.func58,Tryd.ntmps58
   go_wp2_with fail
   go_loopg [13] l.length (fun g i wr=>∃ k:Nat,k+g=l.length∧i=.int .i64 k∧Below w.heap.size w wr∧l.take k=m.take k)
   case atStart => exact ⟨0,by omega,rfl,Below.refl _ _,by simp⟩
   case round =>
    obtain ⟨k,hk,rfl,hB,htk⟩:=hrel;have HTK:Hid (l.take k=m.take k):=htk;clear htk
    by_cases hlt:k<l.length
    · have hne1 : l ≠ [] := by intro e;subst e;simp at hlt
      have hlt':k<m.length:=by have:=HL.out;omega
      have hne2:m≠[]:=by intro e;subst e;simp at hlt'
      obtain ⟨b,o,rfl,hs,hcc⟩:=h5 hne1;obtain ⟨b',o',rfl,hs',hcc'⟩:=h5' hne2;obtain ⟨x,hx⟩:∃ x,l[k]?=some x:=⟨l[k],by simp[hlt]⟩
      obtain ⟨y,hy⟩:∃ y,m[k]?=some y:=⟨m[k],by simp[hlt']⟩
      obtain ⟨c0,c1⟩:=hcc k x hx;obtain ⟨c0',c1'⟩:=hcc' k y hy;have hbl:b<w.heap.size:=World.block_lt_of_cell? w _ c0;have hbl':b'<w.heap.size:=World.block_lt_of_cell? w _ c0';rw[←hB.cell (p:=⟨b,o+k*2,none⟩) hbl]at c0
      rw[←hB.cell (p:=⟨b,o+k*2+1,none⟩) hbl]at c1
      rw[←hB.cell (p:=⟨b',o'+k*2,none⟩) hbl']at c0'
      rw[←hB.cell (p:=⟨b',o'+k*2+1,none⟩) hbl']at c1'
      have hlti:(k:Int)<(l.length:Int):=by omega
      have hlti':(k:Int)<(m.length:Int):=by omega
      have hstep:x=y→l.take (k+1)=m.take (k+1):=by
       intro e;have e1:l.take (k+1)=l.take k++[x]:=by rw[List.take_succ_eq_append_getElem hlt];congr 2;simpa[hlt] using hx
       have e2:m.take (k+1)=m.take k++[y]:=by rw[List.take_succ_eq_append_getElem hlt'];congr 2;simpa[hlt'] using hy
       rw[e1,e2,HTK.out,e]
      have hno:x≠y→decide (l=m)=false:=by
       intro e;simp only[decide_eq_false_iff_not];rintro rfl;rw[hx]at hy;exact e (by cases hy;rfl)
      have HSTEP:Hid (x=y→l.take (k+1)=m.take (k+1)):=hstep;have HNO:Hid (x≠y→decide (l=m)=false):=hno;clear hcc hcc' h5 h5' hx hy hstep hno;obtain ⟨x1,x2⟩:=x;obtain ⟨y1,y2⟩:=y;simp only at c0 c1 c0' c1'
      by_cases he:x1=y1
      · by_cases he2 : x2 = y2
        · subst he;subst he2;have HS2:Hid (l.take (k+1)=m.take (k+1)):=HSTEP.out rfl;clear HSTEP HNO;go_wp2_with fail
          go_quiet (fail)
          go_wp2_with fail
          go_roundg (l.length-(k+1))
          case measure => omega
          case rel => exact ⟨k+1,by omega,by go_num,below_drewN hB nq,HS2.out⟩
        · have hb : (x2.toList == y2.toList) = false := jI he2;have HQ:Hid (decide (l=m)=false):=HNO.out (by intro e;cases e;exact he2 rfl)
          subst he;clear HSTEP HNO he2;go_wp2_with fail
          go_quiet (fail)
          go_wp2_with fail;go_ret;exact ⟨by rw[HQ.out];rfl,below_drewN hB nq⟩
      · have hb : (x1.toList == y1.toList) = false := jI he;have HQ:Hid (decide (l=m)=false):=HNO.out (by intro e;cases e;exact he rfl)
        clear HSTEP HNO he;go_wp2_with fail
        go_quiet (fail)
        go_wp2_with fail;go_ret;exact ⟨by rw[HQ.out];rfl,below_drewN hB nq⟩
    · have hkk : k = l.length := by omega
      subst hkk;have HQ:Hid (decide (l=m)=true):=decide_eq_true (XD HL.out HTK.out);go_wp2_with fail;go_ret;exact ⟨by rw[HQ.out];rfl,hB⟩
 · have hne:((l.length:Int) != m.length)=true:=by
    have:(l.length:Int)≠m.length:=by omega
    simpa using this
   have hq:decide (l=m)=false:=by
    simp only[decide_eq_false_iff_not];rintro rfl;exact hlen rfl
   rw[hq]
   go_enter Tryd.func58,Tryd.ntmps58
   go_wp2_with fail;go_ret;exact ⟨rfl,Below.refl _ _⟩
section
attribute [local go_sem] qg
theorem ndsB_len:∀ {a b:List Nd},a.length≠b.length→ndsB a b=false:=by
 intro a b h;cases hq:ndsB a b with
 | false=>rfl
 | true=>exact absurd (by rw[ndsB_iff.1 hq]) h
theorem JB {a b:List Nd}{i:Nat}{x y:Nd}(hx:a[i]?=some x)(hy:b[i]?=some y):ndsB (a.drop i) (b.drop i)=(ndB x y&&ndsB (a.drop (i+1)) (b.drop (i+1))):=by
 have ha:i<a.length:=by
  rcases Nat.lt_or_ge i a.length with h'|h'
  · exact h'
  · rw[List.getElem?_eq_none h']at hx;cases hx
 have hb:i<b.length:=by
  rcases Nat.lt_or_ge i b.length with h'|h'
  · exact h'
  · rw[List.getElem?_eq_none h']at hy;cases hy
 have e1:a.drop i=x::a.drop (i+1):=by rw[List.drop_eq_getElem_cons ha];congr 1;simpa[ha] using hx
 have e2:b.drop i=y::b.drop (i+1):=by rw[List.drop_eq_getElem_cons hb];congr 1;simpa[hb] using hy
 rw[e1,e2,ndsB]
set_option maxHeartbeats 4000000 in
theorem jA (S T:Nat→Prop)(va vb:Value)(ns ms:List Nd)(w:World)(h1:qr S w va ns)(h2:qr T w vb ms) :
 Calls Tryd.prog 35 #[.agg #[va],.agg #[vb]] w fun e w'=>e=.returned (.bool (ndsB ns ms))∧Below w.heap.size w w':=by
 have H1:Hid (qr S w va ns):=h1;have H2:Hid (qr T w vb ms):=h2;obtain ⟨a,ca,rfl,_,hcm⟩:=h1.shape;obtain ⟨b,cb,rfl,_,hcm2⟩:=h2.shape;unfold maxLen at hcm hcm2
 have hb0:Below w.heap.size w ((w.alloc (.cells #[.slice a ns.length ca] 47)).alloc (.cells #[.slice b ms.length cb] 47)):=(Below.alloc1 w _).alloc (by simp) _
 have hx0:((w.alloc (.cells #[.slice a ns.length ca] 47)).alloc (.cells #[.slice b ms.length cb] 47)).heap[w.heap.size]?=some (.cells #[.slice a ns.length ca] 47 (0,0)):=by
  rw[Lib.alloc_old _ _ _ (by simp)];exact heap_alloc_new _ _
 have hy0:((w.alloc (.cells #[.slice a ns.length ca] 47)).alloc (.cells #[.slice b ms.length cb] 47)).heap[w.heap.size+1]?=some (.cells #[.slice b ms.length cb] 47 (0,0)):=by
  have e:=heap_alloc_new (w.alloc (.cells #[.slice a ns.length ca] 47)) (.cells #[.slice b ms.length cb] 47);rw[World.size_alloc]at e
  exact e
 clear h1 h2
 by_cases hlm:ns.length=ms.length
 · have hne : ((ns.length : Int) != (ms.length : Int)) = false := by simp[hlm]
   have HLM:Hid (ns.length=ms.length):=hlm;clear hlm
   go_enter Tryd.func35,Tryd.ntmps35
   go_wp2_with fail
   generalize ((w.alloc (.cells #[.slice a ns.length ca] 47)).alloc (.cells #[.slice b ms.length cb] 47))=W1 at *
   go_loopg [18] ns.length (fun g j wr=>∃ (i:Nat),i+g=ns.length∧j=.int .i64 (i:Int)∧Below W1.heap.size W1 wr∧ndsB ns ms=ndsB (ns.drop i) (ms.drop i))
   case atStart => exact ⟨0,by omega,rfl,Below.refl _ _,rfl⟩
   case round =>
    obtain ⟨i,hi,rfl,hB,hT⟩:=hrel;have HT:Hid (ndsB ns ms=ndsB (ns.drop i) (ms.drop i)):=hT;clear hT;have hBw:Below w.heap.size w wr:=hb0.trans (hB.mono hb0.size);have hxr:=(hB.block _ (qf hx0)).trans hx0;have hyr:=(hB.block _ (qf hy0)).trans hy0;have dx:wr.cell? ⟨w.heap.size,0,none⟩=some (.slice a ns.length ca):=by rw[cH9 hxr];rfl
    have dy:wr.cell? ⟨w.heap.size+1,0,none⟩=some (.slice b ms.length cb):=by rw[cH9 hyr];rfl
    by_cases hil:i<ns.length
    · have him : i < ms.length := by have := HLM.out;omega
      obtain ⟨x,hx⟩:∃ x,ns[i]?=some x:=⟨ns[i],by simp[hil]⟩
      obtain ⟨y,hy⟩:∃ y,ms[i]?=some y:=⟨ms[i],by simp[him]⟩
      obtain ⟨b1,o1,c1,xva,xvk,hv1,_,_,_,hbw1,p0,p1,p2,p3,p4,hxA,hxK⟩:=(H1.out.later hBw).at hx
      injection hv1 with hv1 hvl hv2
      subst hv1 hv2;clear hvl;obtain ⟨b2,o2,c2,yva,yvk,hv3,_,_,_,hbw2,q0,q1,q2,q3,q4,hyA,hyK⟩:=(H2.out.later hBw).at hy
      injection hv3 with hv3 hvl hv4
      subst hv3 hv4;clear hvl;obtain ⟨xaa,xac,rfl⟩:=hxA.shape;obtain ⟨xka,xkc,rfl,_,_⟩:=hxK.shape;obtain ⟨yaa,yac,rfl⟩:=hyA.shape;obtain ⟨yka,ykc,rfl,_,_⟩:=hyK.shape;have HTD:Hid _:=JB hx hy;have hili:(i:Int)<(ns.length:Int):=by omega
      have himi:(i:Int)<(ms.length:Int):=by omega
      have hlt0:w.heap.size<wr.heap.size:=qf hxr;have hlt1:w.heap.size+1<wr.heap.size:=qf hyr;have hne0:wr.heap.size≠w.heap.size:=by omega
      have hne1:wr.heap.size≠w.heap.size+1:=by omega
      have hne2:wr.heap.size≠b1:=by omega
      have hne3:wr.heap.size≠b2:=by omega
      clear hx hy hxr hyr;go_wp2_with fail
      go_region
      · have hW2 : Below wr.heap.size wr ((wr.alloc (.cells #[.bool x.text, .string x.s, .slice xaa x.attrs.length xac, .int .i64 x.parent, .slice xka x.kids.length xkc] 90)).alloc (.cells #[.bool y.text, .string y.s, .slice yaa y.attrs.length yac, .int .i64 y.parent, .slice yka y.kids.length ykc] 90)).drew := (((Below.refl _ wr).alloc (nR9 _) _).alloc (by simp) _).drew
        have hF:(((wr.alloc (.cells #[.bool x.text,.string x.s,.slice xaa x.attrs.length xac,.int .i64 x.parent,.slice xka x.kids.length xkc] 90)).alloc (.cells #[.bool y.text,.string y.s,.slice yaa y.attrs.length yac,.int .i64 y.parent,.slice yka y.kids.length ykc] 90)).drew).heap[wr.heap.size]?=some (.cells #[.bool x.text,.string x.s,.slice xaa x.attrs.length xac,.int .i64 x.parent,.slice xka x.kids.length xkc] 90 (0,0)):=by
         show ((wr.alloc (.cells #[.bool x.text,.string x.s,.slice xaa x.attrs.length xac,.int .i64 x.parent,.slice xka x.kids.length xkc] 90)).alloc (.cells #[.bool y.text,.string y.s,.slice yaa y.attrs.length yac,.int .i64 y.parent,.slice yka y.kids.length ykc] 90)).heap[wr.heap.size]?=_
         rw[Lib.alloc_old _ _ _ (by simp)];exact heap_alloc_new _ _
        have hG:(((wr.alloc (.cells #[.bool x.text,.string x.s,.slice xaa x.attrs.length xac,.int .i64 x.parent,.slice xka x.kids.length xkc] 90)).alloc (.cells #[.bool y.text,.string y.s,.slice yaa y.attrs.length yac,.int .i64 y.parent,.slice yka y.kids.length ykc] 90)).drew).heap[wr.heap.size+1]?=some (.cells #[.bool y.text,.string y.s,.slice yaa y.attrs.length yac,.int .i64 y.parent,.slice yka y.kids.length ykc] 90 (0,0)):=by
         show ((wr.alloc (.cells #[.bool x.text,.string x.s,.slice xaa x.attrs.length xac,.int .i64 x.parent,.slice xka x.kids.length xkc] 90)).alloc (.cells #[.bool y.text,.string y.s,.slice yaa y.attrs.length yac,.int .i64 y.parent,.slice yka y.kids.length ykc] 90)).heap[wr.heap.size+1]?=_
         have e:=heap_alloc_new (wr.alloc (.cells #[.bool x.text,.string x.s,.slice xaa x.attrs.length xac,.int .i64 x.parent,.slice xka x.kids.length xkc] 90)) (.cells #[.bool y.text,.string y.s,.slice yaa y.attrs.length yac,.int .i64 y.parent,.slice yka y.kids.length ykc] 90);rw[World.size_alloc]at e
         exact e
        generalize ((wr.alloc (.cells #[.bool x.text,.string x.s,.slice xaa x.attrs.length xac,.int .i64 x.parent,.slice xka x.kids.length xkc] 90)).alloc (.cells #[.bool y.text,.string y.s,.slice yaa y.attrs.length yac,.int .i64 y.parent,.slice yka y.kids.length ykc] 90)).drew=W2 at *
        have x0:W2.cell? ⟨wr.heap.size,0,none⟩=some (.bool x.text):=by rw[cH9 hF];rfl
        have x1:W2.cell? ⟨wr.heap.size,1,none⟩=some (.string x.s):=by rw[cH9 hF];rfl
        have x2:W2.cell? ⟨wr.heap.size,2,none⟩=some (.slice xaa x.attrs.length xac):=by rw[cH9 hF];rfl
        have x3:W2.cell? ⟨wr.heap.size,3,none⟩=some (.int .i64 x.parent):=by rw[cH9 hF];rfl
        have x4:W2.cell? ⟨wr.heap.size,4,none⟩=some (.slice xka x.kids.length xkc):=by rw[cH9 hF];rfl
        have y0:W2.cell? ⟨wr.heap.size+1,0,none⟩=some (.bool y.text):=by rw[cH9 hG];rfl
        have y1:W2.cell? ⟨wr.heap.size+1,1,none⟩=some (.string y.s):=by rw[cH9 hG];rfl
        have y2:W2.cell? ⟨wr.heap.size+1,2,none⟩=some (.slice yaa y.attrs.length yac):=by rw[cH9 hG];rfl
        have y3:W2.cell? ⟨wr.heap.size+1,3,none⟩=some (.int .i64 y.parent):=by rw[cH9 hG];rfl
        have y4:W2.cell? ⟨wr.heap.size+1,4,none⟩=some (.slice yka y.kids.length ykc):=by rw[cH9 hG];rfl
        have HAT:Hid (∀ W,Below W2.heap.size W2 W→Calls Tryd.prog 58 #[.slice xaa x.attrs.length xac,.slice yaa y.attrs.length yac] W fun e w'=>e=.returned (.bool (decide (x.attrs=y.attrs)))∧Below W.heap.size W w'):=fun W h=>jS _ _ _ _ x.attrs y.attrs W ((hxA.later hW2).later h) ((hyA.later hW2).later h)
        have HKN:Hid (∀ W,Below W2.heap.size W2 W→Calls Tryd.prog 67 #[.slice xka x.kids.length xkc,.slice yka y.kids.length ykc] W fun e w'=>e=.returned (.bool (decide (x.kids=y.kids)))∧Below W.heap.size W w'):=fun W h=>yY _ _ _ _ x.kids y.kids W ((hxK.later hW2).later h) ((hyK.later hW2).later h)
        have hBW2:Below w.heap.size w W2:=hBw.trans (hW2.mono hBw.size);have hB12:Below W1.heap.size W1 W2:=hB.trans (hW2.mono hB.size)
        have KF:ndB x y=false→Hid (ndsB ns ms=false):=by
         intro hq
         show _=_
         rw[HT.out,HTD.out,hq];rfl
        clear p0 p1 p2 p3 p4 q0 q1 q2 q3 q4 dx dy hne0 hne1 hne2 hne3 hlt0 hlt1
        by_cases k1:x.text=y.text
        · have k1b : (x.text == y.text) = true := by simp[k1]
          by_cases k2:x.s=y.s
          · have k2b : (x.s.toList == y.s.toList) = true := by rw[k2];simp
            by_cases k3:x.parent=y.parent
            · have k3b : (x.parent != y.parent) = false := by simp[k3]
              have k3c:(x.parent==y.parent)=true:=by simp[k3]
              by_cases k4:x.attrs=y.attrs
              · have HAT2:Hid (∀ W,Below W2.heap.size W2 W→Calls Tryd.prog 58 #[.slice xaa x.attrs.length xac,.slice yaa y.attrs.length yac] W fun e w'=>e=.returned (.bool true)∧Below W.heap.size W w'):=by
                 intro W h;have:=HAT.out W h;rw[decide_eq_true k4]at this;exact this
                by_cases k5:x.kids=y.kids
                · have HKN2:Hid (∀ W,Below W2.heap.size W2 W→Calls Tryd.prog 67 #[.slice xka x.kids.length xkc,.slice yka y.kids.length ykc] W fun e w'=>e=.returned (.bool true)∧Below W.heap.size W w'):=by
                   intro W h;have:=HKN.out W h;rw[decide_eq_true k5]at this;exact this
                  have HN:Hid (ndsB ns ms=ndsB (ns.drop (i+1)) (ms.drop (i+1))):=by
                   show _=_
                   rw[HT.out,HTD.out,show ndB x y=true by unfold ndB;simp[k1,k2,k3,k4,k5]];rfl
                  clear KF k1 k2 k3 k4 k5 HAT HKN;go_wp2_with fail;refine (Calls.mono (HAT2.out _ (Below.refl _ _)) ?_);rintro e w3 ⟨rfl,hb3⟩;have hX3:=(hb3.block _ (qf hF)).trans hF;have hY3:=(hb3.block _ (qf hG)).trans hG;have hu4:w3.cell? ⟨wr.heap.size,4,none⟩=some (.slice xka x.kids.length xkc):=by rw[cH9 hX3];rfl
                  have hv4:w3.cell? ⟨wr.heap.size+1,4,none⟩=some (.slice yka y.kids.length ykc):=by rw[cH9 hY3];rfl
                  go_wp2_with fail;refine (Calls.mono (HKN2.out _ hb3) ?_);rintro e w4 ⟨rfl,hb4⟩;go_wp2_with fail
                  go_roundg (ns.length-(i+1))
                  case measure => omega
                  case rel => exact ⟨i+1,by omega,by go_num,hB12.trans ((hb3.trans (hb4.mono hb3.size)).mono hB12.size),HN.out⟩
                · have HKN2:Hid (∀ W,Below W2.heap.size W2 W→Calls Tryd.prog 67 #[.slice xka x.kids.length xkc,.slice yka y.kids.length ykc] W fun e w'=>e=.returned (.bool false)∧Below W.heap.size W w'):=by
                   intro W h;have:=HKN.out W h;rw[decide_eq_false k5]at this;exact this
                  have HE:=KF (by unfold ndB;simp[k5])
                  clear KF k1 k2 k3 k4 k5 HAT HKN;go_wp2_with fail;refine (Calls.mono (HAT2.out _ (Below.refl _ _)) ?_);rintro e w3 ⟨rfl,hb3⟩;have hX3:=(hb3.block _ (qf hF)).trans hF;have hY3:=(hb3.block _ (qf hG)).trans hG;have hu4:w3.cell? ⟨wr.heap.size,4,none⟩=some (.slice xka x.kids.length xkc):=by rw[cH9 hX3];rfl
                  have hv4:w3.cell? ⟨wr.heap.size+1,4,none⟩=some (.slice yka y.kids.length ykc):=by rw[cH9 hY3];rfl
                  go_wp2_with fail;refine (Calls.mono (HKN2.out _ hb3) ?_);rintro e w4 ⟨rfl,hb4⟩;go_wp2_with fail;go_ret;exact ⟨by rw[HE.out];rfl,hBW2.trans ((hb3.trans (hb4.mono hb3.size)).mono hBW2.size)⟩
              · have HAT2:Hid (∀ W,Below W2.heap.size W2 W→Calls Tryd.prog 58 #[.slice xaa x.attrs.length xac,.slice yaa y.attrs.length yac] W fun e w'=>e=.returned (.bool false)∧Below W.heap.size W w'):=by
                 intro W h;have:=HAT.out W h;rw[decide_eq_false k4]at this;exact this
                have HE:=KF (by unfold ndB;simp[k4])
                clear KF k1 k2 k3 k4 HAT HKN;go_wp2_with fail;refine (Calls.mono (HAT2.out _ (Below.refl _ _)) ?_);rintro e w3 ⟨rfl,hb3⟩;go_wp2_with fail;go_ret;exact ⟨by rw[HE.out];rfl,hBW2.trans (hb3.mono hBW2.size)⟩
            · have k3b : (x.parent != y.parent) = true := by simpa using k3
              have k3c:(x.parent==y.parent)=false:=by simpa using k3
              have HE:=KF (by unfold ndB;simp[k3])
              clear KF k1 k2 k3 HAT HKN;go_wp2_with fail;go_ret;exact ⟨by rw[HE.out];rfl,hBW2⟩
          · have k2b : (x.s.toList == y.s.toList) = false := jI k2;have HE:=KF (by unfold ndB;simp[k2])
            clear KF k1 k2 HAT HKN;go_wp2_with fail;go_ret;exact ⟨by rw[HE.out];rfl,hBW2⟩
        · have k1b : (x.text == y.text) = false := by simpa using k1
          have HE:=KF (by unfold ndB;simp[k1])
          clear KF k1 HAT HKN;go_wp2_with fail;go_ret;exact ⟨by rw[HE.out];rfl,hBW2⟩
      · have hW2 : Below wr.heap.size wr ((wr.alloc (.cells #[.bool y.text, .string y.s, .slice yaa y.attrs.length yac, .int .i64 y.parent, .slice yka y.kids.length ykc] 90)).alloc (.cells #[.bool x.text, .string x.s, .slice xaa x.attrs.length xac, .int .i64 x.parent, .slice xka x.kids.length xkc] 90)).drew := (((Below.refl _ wr).alloc (nR9 _) _).alloc (by simp) _).drew
        have hF:(((wr.alloc (.cells #[.bool y.text,.string y.s,.slice yaa y.attrs.length yac,.int .i64 y.parent,.slice yka y.kids.length ykc] 90)).alloc (.cells #[.bool x.text,.string x.s,.slice xaa x.attrs.length xac,.int .i64 x.parent,.slice xka x.kids.length xkc] 90)).drew).heap[wr.heap.size]?=some (.cells #[.bool y.text,.string y.s,.slice yaa y.attrs.length yac,.int .i64 y.parent,.slice yka y.kids.length ykc] 90 (0,0)):=by
         show ((wr.alloc (.cells #[.bool y.text,.string y.s,.slice yaa y.attrs.length yac,.int .i64 y.parent,.slice yka y.kids.length ykc] 90)).alloc (.cells #[.bool x.text,.string x.s,.slice xaa x.attrs.length xac,.int .i64 x.parent,.slice xka x.kids.length xkc] 90)).heap[wr.heap.size]?=_
         rw[Lib.alloc_old _ _ _ (by simp)];exact heap_alloc_new _ _
        have hG:(((wr.alloc (.cells #[.bool y.text,.string y.s,.slice yaa y.attrs.length yac,.int .i64 y.parent,.slice yka y.kids.length ykc] 90)).alloc (.cells #[.bool x.text,.string x.s,.slice xaa x.attrs.length xac,.int .i64 x.parent,.slice xka x.kids.length xkc] 90)).drew).heap[wr.heap.size+1]?=some (.cells #[.bool x.text,.string x.s,.slice xaa x.attrs.length xac,.int .i64 x.parent,.slice xka x.kids.length xkc] 90 (0,0)):=by
         show ((wr.alloc (.cells #[.bool y.text,.string y.s,.slice yaa y.attrs.length yac,.int .i64 y.parent,.slice yka y.kids.length ykc] 90)).alloc (.cells #[.bool x.text,.string x.s,.slice xaa x.attrs.length xac,.int .i64 x.parent,.slice xka x.kids.length xkc] 90)).heap[wr.heap.size+1]?=_
         have e:=heap_alloc_new (wr.alloc (.cells #[.bool y.text,.string y.s,.slice yaa y.attrs.length yac,.int .i64 y.parent,.slice yka y.kids.length ykc] 90)) (.cells #[.bool x.text,.string x.s,.slice xaa x.attrs.length xac,.int .i64 x.parent,.slice xka x.kids.length xkc] 90);rw[World.size_alloc]at e
         exact e
        generalize ((wr.alloc (.cells #[.bool y.text,.string y.s,.slice yaa y.attrs.length yac,.int .i64 y.parent,.slice yka y.kids.length ykc] 90)).alloc (.cells #[.bool x.text,.string x.s,.slice xaa x.attrs.length xac,.int .i64 x.parent,.slice xka x.kids.length xkc] 90)).drew=W2 at *
        have x0:W2.cell? ⟨wr.heap.size+1,0,none⟩=some (.bool x.text):=by rw[cH9 hG];rfl
        have x1:W2.cell? ⟨wr.heap.size+1,1,none⟩=some (.string x.s):=by rw[cH9 hG];rfl
        have x2:W2.cell? ⟨wr.heap.size+1,2,none⟩=some (.slice xaa x.attrs.length xac):=by rw[cH9 hG];rfl
        have x3:W2.cell? ⟨wr.heap.size+1,3,none⟩=some (.int .i64 x.parent):=by rw[cH9 hG];rfl
        have x4:W2.cell? ⟨wr.heap.size+1,4,none⟩=some (.slice xka x.kids.length xkc):=by rw[cH9 hG];rfl
        have y0:W2.cell? ⟨wr.heap.size,0,none⟩=some (.bool y.text):=by rw[cH9 hF];rfl
        have y1:W2.cell? ⟨wr.heap.size,1,none⟩=some (.string y.s):=by rw[cH9 hF];rfl
        have y2:W2.cell? ⟨wr.heap.size,2,none⟩=some (.slice yaa y.attrs.length yac):=by rw[cH9 hF];rfl
        have y3:W2.cell? ⟨wr.heap.size,3,none⟩=some (.int .i64 y.parent):=by rw[cH9 hF];rfl
        have y4:W2.cell? ⟨wr.heap.size,4,none⟩=some (.slice yka y.kids.length ykc):=by rw[cH9 hF];rfl
        have HAT:Hid (∀ W,Below W2.heap.size W2 W→Calls Tryd.prog 58 #[.slice xaa x.attrs.length xac,.slice yaa y.attrs.length yac] W fun e w'=>e=.returned (.bool (decide (x.attrs=y.attrs)))∧Below W.heap.size W w'):=fun W h=>jS _ _ _ _ x.attrs y.attrs W ((hxA.later hW2).later h) ((hyA.later hW2).later h)
        have HKN:Hid (∀ W,Below W2.heap.size W2 W→Calls Tryd.prog 67 #[.slice xka x.kids.length xkc,.slice yka y.kids.length ykc] W fun e w'=>e=.returned (.bool (decide (x.kids=y.kids)))∧Below W.heap.size W w'):=fun W h=>yY _ _ _ _ x.kids y.kids W ((hxK.later hW2).later h) ((hyK.later hW2).later h)
        have hBW2:Below w.heap.size w W2:=hBw.trans (hW2.mono hBw.size);have hB12:Below W1.heap.size W1 W2:=hB.trans (hW2.mono hB.size)
        have KF:ndB x y=false→Hid (ndsB ns ms=false):=by
         intro hq
         show _=_
         rw[HT.out,HTD.out,hq];rfl
        clear p0 p1 p2 p3 p4 q0 q1 q2 q3 q4 dx dy hne0 hne1 hne2 hne3 hlt0 hlt1
        by_cases k1:x.text=y.text
        · have k1b : (x.text == y.text) = true := by simp[k1]
          by_cases k2:x.s=y.s
          · have k2b : (x.s.toList == y.s.toList) = true := by rw[k2];simp
            by_cases k3:x.parent=y.parent
            · have k3b : (x.parent != y.parent) = false := by simp[k3]
              have k3c:(x.parent==y.parent)=true:=by simp[k3]
              by_cases k4:x.attrs=y.attrs
              · have HAT2:Hid (∀ W,Below W2.heap.size W2 W→Calls Tryd.prog 58 #[.slice xaa x.attrs.length xac,.slice yaa y.attrs.length yac] W fun e w'=>e=.returned (.bool true)∧Below W.heap.size W w'):=by
                 intro W h;have:=HAT.out W h;rw[decide_eq_true k4]at this;exact this
                by_cases k5:x.kids=y.kids
                · have HKN2:Hid (∀ W,Below W2.heap.size W2 W→Calls Tryd.prog 67 #[.slice xka x.kids.length xkc,.slice yka y.kids.length ykc] W fun e w'=>e=.returned (.bool true)∧Below W.heap.size W w'):=by
                   intro W h;have:=HKN.out W h;rw[decide_eq_true k5]at this;exact this
                  have HN:Hid (ndsB ns ms=ndsB (ns.drop (i+1)) (ms.drop (i+1))):=by
                   show _=_
                   rw[HT.out,HTD.out,show ndB x y=true by unfold ndB;simp[k1,k2,k3,k4,k5]];rfl
                  clear KF k1 k2 k3 k4 k5 HAT HKN;go_wp2_with fail;refine (Calls.mono (HAT2.out _ (Below.refl _ _)) ?_);rintro e w3 ⟨rfl,hb3⟩;have hX3:=(hb3.block _ (qf hG)).trans hG;have hY3:=(hb3.block _ (qf hF)).trans hF;have hu4:w3.cell? ⟨wr.heap.size+1,4,none⟩=some (.slice xka x.kids.length xkc):=by rw[cH9 hX3];rfl
                  have hv4:w3.cell? ⟨wr.heap.size,4,none⟩=some (.slice yka y.kids.length ykc):=by rw[cH9 hY3];rfl
                  go_wp2_with fail;refine (Calls.mono (HKN2.out _ hb3) ?_);rintro e w4 ⟨rfl,hb4⟩;go_wp2_with fail
                  go_roundg (ns.length-(i+1))
                  case measure => omega
                  case rel => exact ⟨i+1,by omega,by go_num,hB12.trans ((hb3.trans (hb4.mono hb3.size)).mono hB12.size),HN.out⟩
                · have HKN2:Hid (∀ W,Below W2.heap.size W2 W→Calls Tryd.prog 67 #[.slice xka x.kids.length xkc,.slice yka y.kids.length ykc] W fun e w'=>e=.returned (.bool false)∧Below W.heap.size W w'):=by
                   intro W h;have:=HKN.out W h;rw[decide_eq_false k5]at this;exact this
                  have HE:=KF (by unfold ndB;simp[k5])
                  clear KF k1 k2 k3 k4 k5 HAT HKN;go_wp2_with fail;refine (Calls.mono (HAT2.out _ (Below.refl _ _)) ?_);rintro e w3 ⟨rfl,hb3⟩;have hX3:=(hb3.block _ (qf hG)).trans hG;have hY3:=(hb3.block _ (qf hF)).trans hF;have hu4:w3.cell? ⟨wr.heap.size+1,4,none⟩=some (.slice xka x.kids.length xkc):=by rw[cH9 hX3];rfl
                  have hv4:w3.cell? ⟨wr.heap.size,4,none⟩=some (.slice yka y.kids.length ykc):=by rw[cH9 hY3];rfl
                  go_wp2_with fail;refine (Calls.mono (HKN2.out _ hb3) ?_);rintro e w4 ⟨rfl,hb4⟩;go_wp2_with fail;go_ret;exact ⟨by rw[HE.out];rfl,hBW2.trans ((hb3.trans (hb4.mono hb3.size)).mono hBW2.size)⟩
              · have HAT2:Hid (∀ W,Below W2.heap.size W2 W→Calls Tryd.prog 58 #[.slice xaa x.attrs.length xac,.slice yaa y.attrs.length yac] W fun e w'=>e=.returned (.bool false)∧Below W.heap.size W w'):=by
                 intro W h;have:=HAT.out W h;rw[decide_eq_false k4]at this;exact this
                have HE:=KF (by unfold ndB;simp[k4])
                clear KF k1 k2 k3 k4 HAT HKN;go_wp2_with fail;refine (Calls.mono (HAT2.out _ (Below.refl _ _)) ?_);rintro e w3 ⟨rfl,hb3⟩;go_wp2_with fail;go_ret;exact ⟨by rw[HE.out];rfl,hBW2.trans (hb3.mono hBW2.size)⟩
            · have k3b : (x.parent != y.parent) = true := by simpa using k3
              have k3c:(x.parent==y.parent)=false:=by simpa using k3
              have HE:=KF (by unfold ndB;simp[k3])
              clear KF k1 k2 k3 HAT HKN;go_wp2_with fail;go_ret;exact ⟨by rw[HE.out];rfl,hBW2⟩
          · have k2b : (x.s.toList == y.s.toList) = false := jI k2;have HE:=KF (by unfold ndB;simp[k2])
            clear KF k1 k2 HAT HKN;go_wp2_with fail;go_ret;exact ⟨by rw[HE.out];rfl,hBW2⟩
        · have k1b : (x.text == y.text) = false := by simpa using k1
          have HE:=KF (by unfold ndB;simp[k1])
          clear KF k1 HAT HKN;go_wp2_with fail;go_ret;exact ⟨by rw[HE.out];rfl,hBW2⟩
    · have hili : ¬ ((i : Int) < (ns.length : Int)) := by omega
      have HE:Hid (ndsB ns ms=true):=by
       show _=_
       rw[HT.out,List.drop_of_length_le (by omega),List.drop_of_length_le (by have:=HLM.out;omega)]
       rfl
      go_wp2_with fail;go_ret;exact ⟨by rw[HE.out];rfl,hBw⟩
 · have hne : ((ns.length : Int) != (ms.length : Int)) = true := by simp;omega
   have HE:Hid (ndsB ns ms=false):=ndsB_len hlm;clear hlm
   go_enter Tryd.func35,Tryd.ntmps35
   go_wp2_with fail;go_ret;exact ⟨by rw[HE.out];rfl,hb0⟩
end
section
attribute [local go_sem] qg
def IsDocOk:Prop:=∀ (S:Nat→Prop) (v:Value) (ns:List Nd) (w:World),zl S w v ns →
 Calls Tryd.prog 41 #[.agg #[v]] w fun e w'=>e=.returned (.bool (qi ns))∧Below w.heap.size w w'
theorem JX (f:Nat)(ns:List Nd)(m:Int):withF f ns (-1) m=false:=by
 cases f with
 | zero=>rfl
 | succ f=>rw[withF,if_pos (by omega)]
set_option maxHeartbeats 1000000 in
theorem Y1 (S:Nat→Prop)(v:Value)(ns:List Nd)(n:Nat)(m:Int)(w:World)(hD:zl S w v ns)(hg:qi ns=true)(hn:n<ns.length) :
 Calls Tryd.prog 73 #[.agg #[v],.int .i64 (n:Int),.int .i64 m] w fun e w'=>e=.returned (.bool (withF (n+1) ns (n:Int) m))∧Below w.heap.size w w':=by
 have hb1:=Below.alloc1 w (.cells #[v] 47);have hx1:=heap_alloc_new w (.cells #[v] 47);have HG:Hid (qi ns=true):=hg;have HN:Hid (qr S w v ns):=hD.nodes;obtain ⟨a,cap,rfl,hlc,hcm⟩:=hD.nodes.shape;unfold maxLen at hcm
 have HW:Hid (withF (n+1) ns (n:Int) m=withF (n+1) ns (n:Int) m):=rfl;clear hD hg
 go_enter Tryd.func73,Tryd.ntmps73
 go_wp2_with fail
 generalize w.alloc (.cells #[.slice a ns.length cap] 47)=W1 at *
 have d1:W1.cell? ⟨w.heap.size,0,none⟩=some (.slice a ns.length cap):=by rw[cH9 hx1];rfl
 have HN1:Hid (qr S W1 (.slice a ns.length cap) ns):=HN.out.later hb1;clear hx1 HN
 go_loopg [1] (n+1) (fun g j wr=>∃ (kk:Int) (f:Nat),(kk+1).toNat=g∧j=.int .i64 kk∧wr=W1∧withF (n+1) ns (n:Int) m=withF f ns kk m∧(kk=-1∨∃ q:Nat,kk=(q:Int)∧q<ns.length∧q<f))
 case atStart => exact ⟨(n:Int),n+1,by omega,rfl,rfl,rfl,Or.inr ⟨n,rfl,hn,by omega⟩⟩
 case round =>
  obtain ⟨kk,f,hgg,rfl,hwr,hE,hor⟩:=hrel;subst hwr;have HE:Hid (withF (n+1) ns (n:Int) m=withF f ns kk m):=hE;clear hE
  rcases hor with rfl|⟨q,rfl,hq,hqf⟩
  · have HE2 : Hid (withF (n + 1) ns (n : Int) m = false) := by show _ = _;rw[HE.out, JX]
    clear HE hgg;go_wp2_with fail;go_ret;exact ⟨by rw[HE2.out];rfl,hb1⟩
  · obtain ⟨f', rfl⟩ : ∃ f', f = f' + 1 := ⟨f - 1, by omega⟩
    obtain ⟨x,hx⟩:∃ x,ns[q]?=some x:=⟨ns[q],by simp[hq]⟩
    have hq0:(0:Int)≤(q:Int):=by omega
    have hqi:(q:Int)<(ns.length:Int):=by omega
    by_cases hqm:(q:Int)=m
    · have hqmb : ((q : Int) == m) = true := by simp[hqm]
      have HE2:Hid (withF (n+1) ns (n:Int) m=true):=by show _=_;rw[HE.out,withF,if_neg (by omega),if_pos hqm]
      clear HE hqm hgg;go_wp2_with fail;go_ret;exact ⟨by rw[HE2.out];rfl,hb1⟩
    · have hqmb : ((q : Int) == m) = false := by simpa using hqm
      have HE2:Hid (withF (n+1) ns (n:Int) m=withF f' ns x.parent m):=by
       show _=_
       rw[HE.out,withF,if_neg (by omega),if_neg hqm,Int.toNat_natCast,hx]
      obtain ⟨b,o,cap2,xva,xvk,hv,_,_,_,hbw,_,_,_,c3,_,_,_⟩:=HN1.out.at hx
      injection hv with hv1 hvl hv2
      subst hv1 hv2;clear hvl;have hpar:=(qF HG.out hx).par;clear HE hqm hx;go_wp2_with fail
      rcases hpar with ⟨_,hp⟩|⟨q2,y,hy,hp,hq2,_⟩
      · rw[hp]at HE2 ⊢
        go_roundg 0
        case measure => omega
        case rel => exact ⟨-1,f',by omega,rfl,rfl,HE2.out,Or.inl rfl⟩
      · have hy2 := qD hy;rw[hp]at HE2 ⊢
        go_roundg (q2+1)
        case measure => omega
        case rel => exact ⟨(q2:Int),f',by omega,rfl,rfl,HE2.out,Or.inr ⟨q2,rfl,hy2,by omega⟩⟩
theorem jK {ns:List Nd}{m:Int}(h:m<0∨(ns.length:Int)≤m):qy ns m=0:=by
 unfold qy qP
 rcases h with h|h
 · simp[show ¬ 0≤m by omega]
 · simp[show ¬ m<ns.length by omega]
theorem Q3 {ns:List Nd}(hg:qi ns=true)(m:Int):qy ns m≤ns.length:=by
 by_cases h:m<0∨(ns.length:Int)≤m
 · rw[jK h];omega
 · obtain ⟨k, rfl⟩ : ∃ k : Nat, m = (k : Int) := ⟨m.toNat, by omega⟩
   have hk:k<ns.length:=by omega
   exact (Jq hg (j:=k) (x:=ns[k]) (by simp[hk])).le
theorem QA {ns:List Nd}(n m:Int):inD ns n m=(qi ns&&decide (0≤n)&&decide (n<ns.length)&&decide (0≤m)&&withF (n.toNat+1) ns n m):=by
 cases hg:qi ns with
 | false =>
   have:qy ns m=0:=by unfold qy;rw[hg];rfl
   unfold inD;rw[this];simp
 | true =>
   have hle:=Q3 hg m
   by_cases hm:m<0
   · have : qy ns m = 0 := jK (Or.inl hm);unfold inD;rw[this];simp[show ¬ 0≤m by omega]
   · obtain ⟨M, rfl⟩ : ∃ M : Nat, m = (M : Int) := ⟨m.toNat, by omega⟩
     by_cases hn:0≤n∧n<ns.length
     · obtain ⟨N, rfl⟩ : ∃ N : Nat, n = (N : Int) := ⟨n.toNat, by omega⟩
       have hN:N<ns.length:=by omega
       rw[Int.toNat_natCast,(X8 hg M (N+1) N (by omega) hN).1]
       unfold inD
       by_cases h1:(M:Int)≤(N:Int)
       · by_cases h2 : (N : Int) < qy ns (M : Int)
         · have h3 : 0 < qy ns (M : Int) := by omega
           simp[h1,h2,h3];omega
         · simp[h2]
       · simp[h1]
     · have e1:(decide (0≤n)&&decide (n<(ns.length:Int)))=false:=by
        rcases Classical.not_and_iff_not_or_not.1 hn with h|h
        · simp[h]
        · simp[h]
       have e2:inD ns n (M:Int)=false:=by
        unfold inD
        rcases Classical.not_and_iff_not_or_not.1 hn with h|h
        · simp[show ¬ (M:Int)≤n by omega]
        · simp[show ¬ n<qy ns (M:Int) by omega]
       rw[e2,Bool.true_and,e1];rfl
set_option maxHeartbeats 1000000 in
theorem xO (hI:IsDocOk)(S:Nat→Prop)(v:Value)(ns:List Nd)(n m:Int)(w:World)(hD:zl S w v ns) :
 Calls Tryd.prog 45 #[.agg #[v],.int .i64 n,.int .i64 m] w fun e w'=>e=.returned (.bool (inD ns n m))∧Below w.heap.size w w':=by
 have hb1:=Below.alloc1 w (.cells #[v] 47);have hx1:=heap_alloc_new w (.cells #[v] 47);have HG:Hid _:=hI S v ns _ (hD.later hb1);have HD:Hid (zl S w v ns):=hD;have HC:Hid _:=QA (ns:=ns) n m;obtain ⟨a,cap,rfl,hlc,hcm⟩:=hD.nodes.shape;unfold maxLen at hcm
 clear hD hI
 go_enter Tryd.func45,Tryd.ntmps45
 go_wp2_with fail;refine (Calls.mono HG.out ?_);rintro e w2 ⟨rfl,hb2⟩;have hx2:=(hb2.block _ (qf hx1)).trans hx1;have hB2:Below w.heap.size w w2:=hb1.trans (hb2.mono hb1.size);have d2:w2.cell? ⟨w.heap.size,0,none⟩=some (.slice a ns.length cap):=by rw[cH9 hx2];rfl
 clear HG hb1 hx1 hb2;obtain ⟨q,hq⟩:∃ q,qi ns=q:=⟨_,rfl⟩;rw[hq];cases q with
 | false =>
   have HE:Hid (inD ns n m=false):=by show _=_;rw[HC.out,hq];rfl
   clear HC hq;go_wp2_with fail;go_ret;exact ⟨by rw[HE.out];rfl,hB2⟩
 | true =>
   have HQ:Hid (qi ns=true):=hq;clear hq
   by_cases h1:n<0
   · have HE : Hid (inD ns n m = false) := by show _ = _;rw[HC.out];simp[show ¬ 0 ≤ n by omega]
     clear HC;go_wp2_with fail;go_ret;exact ⟨by rw[HE.out];rfl,hB2⟩
   · by_cases h2 : (ns.length : Int) ≤ n
     · have HE : Hid (inD ns n m = false) := by show _ = _;rw[HC.out];simp[show ¬ n < ns.length by omega]
       clear HC;go_wp2_with fail;go_ret;exact ⟨by rw[HE.out];rfl,hB2⟩
     · by_cases h3 : m < 0
       · have HE : Hid (inD ns n m = false) := by show _ = _;rw[HC.out];simp[show ¬ 0 ≤ m by omega]
         clear HC;go_wp2_with fail;go_ret;exact ⟨by rw[HE.out];rfl,hB2⟩
       · obtain ⟨N, rfl⟩ : ∃ N : Nat, n = (N : Int) := ⟨n.toNat, by omega⟩
         have HE:Hid (inD ns (N:Int) m=withF (N+1) ns (N:Int) m):=by
          show _=_
          rw[HC.out,HQ.out,Int.toNat_natCast];simp[show (0:Int)≤m by omega,show (N:Int)<ns.length by omega]
         have HWI:Hid _:=Y1 S _ ns N m w2 (HD.out.later hB2) HQ.out (by omega)
         clear HC;go_wp2_with fail;refine (Calls.mono HWI.out ?_);rintro e w3 ⟨rfl,hb3⟩;go_wp2_with fail;go_ret;exact ⟨by rw[HE.out];rfl,hB2.trans (hb3.mono hB2.size)⟩
def yI (ns:List Nd)(n:Int):Nat→Int
 | 0=>0
 | k+1=>if inD ns (k:Int) n then (k:Int)+1 else yI ns n k
theorem ZF (ns:List Nd)(n:Int):∀ k,0≤yI ns n k∧yI ns n k≤k:=by
 intro k
 induction k with
 | zero=>exact ⟨Int.le_refl _,Int.le_refl _⟩
 | succ k ih =>
   rw[yI]
   split<;>omega
theorem Xb {ns:List Nd}(n:Int):yI ns n ns.length=qy ns n:=by
 by_cases hz:qy ns n=0
 · have:∀ k,yI ns n k=0:=by
    intro k
    induction k with
    | zero=>rfl
    | succ k ih =>
      rw[yI,ih];have:inD ns (k:Int) n=false:=by unfold inD;rw[hz];simp
      rw[this];rfl
   rw[this,hz]
 · have hg:qi ns=true:=by
    cases h:qi ns with
    | true=>rfl
    | false=>exact absurd (by unfold qy;rw[h];rfl) hz
   have hn:¬ (n<0∨(ns.length:Int)≤n):=fun h=>hz (jK h)
   obtain ⟨N,rfl⟩:∃ N:Nat,n=(N:Int):=⟨n.toNat,by omega⟩
   have hN:N<ns.length:=by omega
   have hgt:=(qF hg (j:=N) (x:=ns[N]) (by simp[hN])).gt
   have hle:=Q3 hg (N:Int)
   have key:∀ k:Nat,yI ns (N:Int) k=if (k:Int)≤N then 0 else min (k:Int) (qy ns (N:Int)):=by
    intro k
    induction k with
    | zero=>simp[yI]
    | succ k ih =>
      rw[yI,ih]
      have hin:inD ns (k:Int) (N:Int)=(decide ((N:Int)≤k)&&decide ((k:Int)<qy ns (N:Int))):=by
       unfold inD;have:0<qy ns (N:Int):=by omega
       simp[this]
      rw[hin]
      by_cases h1:(N:Int)≤k
      · by_cases h2 : (k : Int) < qy ns (N : Int)
        · simp only[h1, h2, decide_true, Bool.and_self, if_true];rw[if_neg (by omega)]
          push_cast
          omega
        · simp only[h1, h2, decide_true, decide_false, Bool.and_false];rw[if_neg (by simp),if_neg (by omega)]
          split
          · omega
          · push_cast;omega
      · simp only[h1, decide_false, Bool.false_and];rw[if_neg (by simp),if_pos (by omega)]
        split
        · rfl
        · push_cast at *;omega
   rw[key,if_neg (by omega)]
   omega
set_option maxHeartbeats 1000000 in
theorem Jn (hI:IsDocOk)(S:Nat→Prop)(v:Value)(ns:List Nd)(n:Int)(w:World)(hD:zl S w v ns) :
 Calls Tryd.prog 43 #[.agg #[v],.int .i64 n] w fun e w'=>e=.returned (.int .i64 (qy ns n))∧Below w.heap.size w w':=by
 have hb1:=Below.alloc1 w (.cells #[v] 47);have hx1:=heap_alloc_new w (.cells #[v] 47);have HII:Hid (∀ (k:Int) (W:World),Below w.heap.size w W→Calls Tryd.prog 45 #[.agg #[v],.int .i64 k,.int .i64 n] W fun e w'=>e=.returned (.bool (inD ns k n))∧Below W.heap.size W w'):=fun k W h=>xO hI S v ns k n W (hD.later h)
 have HE:Hid (yI ns n ns.length=qy ns n):=Xb n;obtain ⟨a,cap,rfl,hlc,hcm⟩:=hD.nodes.shape;unfold maxLen at hcm
 clear hD hI
 go_enter Tryd.func43,Tryd.ntmps43
 go_wp2_with fail
 generalize w.alloc (.cells #[.slice a ns.length cap] 47)=W1 at *
 have hz1:=qf hx1
 go_loopg [10,5] ns.length (fun g j z wr=>∃ (k:Nat),k+g=ns.length∧j=.int .i64 (k:Int)∧z=.int .i64 (yI ns n k)∧Below W1.heap.size W1 wr)
 case atStart => exact ⟨0,by omega,rfl,rfl,Below.refl _ _⟩
 case round =>
  obtain ⟨k,hk,rfl,rfl,hB⟩:=hrel;have hbd:=ZF ns n k;have hxr:=(hB.block _ hz1).trans hx1;have hBw:Below w.heap.size w wr:=hb1.trans (hB.mono hb1.size);have dr:wr.cell? ⟨w.heap.size,0,none⟩=some (.slice a ns.length cap):=by rw[cH9 hxr];rfl
  by_cases hkl:k<ns.length
  · have hkli : (k : Int) < (ns.length : Int) := by omega
    have HC:Hid _:=HII.out (k:Int) wr hBw;have HU:Hid (yI ns n (k+1)=if inD ns (k:Int) n then (k:Int)+1 else yI ns n k):=rfl
    obtain ⟨q,hq⟩:∃ q,inD ns (k:Int) n=q:=⟨_,rfl⟩;rw[hq]at HC HU
    obtain ⟨z,hz⟩:∃ z,yI ns n k=z:=⟨_,rfl⟩;rw[hz]at HU hbd ⊢
    clear hq hz hxr;cases q with
    | true =>
      have HU2:Hid (yI ns n (k+1)=(k:Int)+1):=HU.out;clear HU;go_wp2_with fail;refine (Calls.mono HC.out ?_);rintro e w3 ⟨rfl,hb3⟩;go_wp2_with fail
      go_roundg (ns.length-(k+1))
      case measure => omega
      case rel => exact ⟨k+1,by omega,by go_num,by rw[HU2.out],hB.trans (hb3.mono hB.size)⟩
    | false =>
      have HU2:Hid (yI ns n (k+1)=z):=HU.out;clear HU;go_wp2_with fail;refine (Calls.mono HC.out ?_);rintro e w3 ⟨rfl,hb3⟩;go_wp2_with fail
      go_roundg (ns.length-(k+1))
      case measure => omega
      case rel => exact ⟨k+1,by omega,by go_num,by rw[HU2.out],hB.trans (hb3.mono hB.size)⟩
  · have hkli : ¬ ((k : Int) < (ns.length : Int)) := by omega
    have hkk:k=ns.length:=by omega
    have HE2:Hid (yI ns n k=qy ns n):=by show _=_;rw[hkk,HE.out]
    clear hkk;go_wp2_with fail;go_ret;exact ⟨by rw[←HE2.out];rfl,hBw⟩
end
section
attribute [local go_sem] qg
def jV : Prop := ∀ (S : Nat → Prop) (n : Nat) (va vk : Value) (t : Tr) (w : World), qe S w va t.attrs → qb S w n vk t.kids → TextsN (n + 1) [t] → cnt (n + 1) [t] ≤ 1048576 → (∀ b, S b → b < w.heap.size) →
    Calls Tryd.prog 34 #[.agg #[.bool t.text,.string t.s,va,vk]] w fun e w'=>∃ v,e=.returned (.tuple #[.agg #[v],.int .i64 (ym t)])∧qr (fun b=>w.heap.size≤b) w' v (yl n t)∧Below w.heap.size w w'
theorem YY {ns:List Nd}(h:jW ns):∀ (f n:Nat),Zq (treeF f ns n)∧TextsN f (treeF f ns n).kids:=by
 intro f
 induction f with
 | zero=>intro n;exact ⟨⟨nZ9 _,by intro y hy;simp[treeF]at hy⟩,trivial⟩
 | succ f ih =>
   intro n;rw[treeF];cases hx:ns[n]? with
   | none=>exact ⟨⟨nZ9 _,by intro y hy;simp at hy⟩,by intro t ht;simp at ht⟩
   | some x =>
     refine ⟨h x (List.mem_of_getElem? hx),fun t ht=>?_⟩
     simp only[List.mem_map]at ht
     obtain ⟨k,_,rfl⟩:=ht;exact ih _
theorem cnt_depR:∀ (d e:Nat) (ks:List Tr),Deep d ks→Deep e ks→cnt d ks=cnt e ks:=by
 intro d
 induction d with
 | zero=>intro e ks h _;have h:ks=[]:=h;subst h;rw[qH,qH]
 | succ d ih =>
   intro e ks h1 h2;cases e with
   | zero=>have h:ks=[]:=h2;subst h;rw[qH,qH]
   | succ e =>
     induction ks with
     | nil=>rw[qH,qH]
     | cons k r ihr =>
       rw[zz,zz,ih e k.kids (h1 k List.mem_cons_self) (h2 k List.mem_cons_self),ihr (fun t ht=>h1 t (List.mem_cons_of_mem _ ht)) (fun t ht=>h2 t (List.mem_cons_of_mem _ ht))]
theorem YT (d e:Nat):∀ (ks:List Tr) (a:Nat),(∀ k∈ks,Deep d k.kids∧Deep e k.kids)→qh d a ks=qh e a ks:=by
 intro ks
 induction ks with
 | nil=>intro a _;rfl
 | cons k r ih =>
   intro a h;have hk:=h k List.mem_cons_self;rw[qh,qh,qp,qp,cnt_depR d e _ hk.1 hk.2,ih _ (fun t ht=>h t (List.mem_cons_of_mem _ ht))]
theorem Xj (d e:Nat)(f g:Tr→Int→Nat→List Nd)(par:Nat):∀ (ks:List Tr) (a:Nat),(∀ k∈ks,Deep d k.kids∧Deep e k.kids)→(∀ k∈ks,∀ p a,f k p a=g k p a)→qn d f par a ks=qn e g par a ks:=by
 intro ks
 induction ks with
 | nil=>intro a _ _;rfl
 | cons k r ih =>
   intro a h hfg;have hk:=h k List.mem_cons_self;rw[qn,qn,qp,qp,cnt_depR d e _ hk.1 hk.2,hfg k List.mem_cons_self,ih _ (fun t ht=>h t (List.mem_cons_of_mem _ ht)) (fun t ht=>hfg t (List.mem_cons_of_mem _ ht))]
theorem lay_dep:∀ (d e:Nat) (t:Tr) (par:Int) (a:Nat),Deep d t.kids→Deep e t.kids→layF d t par a=layF e t par a:=by
 intro d
 induction d with
 | zero =>
   intro e t par a h1 h2;have h:t.kids=[]:=h1;cases e with
   | zero=>rfl
   | succ e=>rw[layF,layF,h];rfl
 | succ d ih =>
   intro e t par a h1 h2;cases e with
   | zero =>
     have h:t.kids=[]:=h2;rw[layF,layF,h];rfl
   | succ e =>
     rw[layF,layF,YT d e _ _ (fun k hk=>⟨h1 k hk,h2 k hk⟩),Xj d e (layF d) (layF e) a _ _ (fun k hk=>⟨h1 k hk,h2 k hk⟩) (fun k hk p q=>ih e k p q (h1 k hk) (h2 k hk))]
theorem ZK {ns:List Nd}{x:Nd}{t:Tr}{n:Nat}(hx:ns[0]?=some x)(h80:ns.length≤80)(hp:x.parent=-1)(hps:zt ns ns.length=true)(ht:treeF ns.length ns 0=t)(hd:Deep n t.kids) :
 qi ns=(qw t&&ndsB (layF n t (-1) 0) ns):=by
 have hpos:0<ns.length:=qD hx;rw[Bool.eq_iff_iff,jZ,Bool.and_eq_true,ndsB_iff,ht]
 constructor
 · rintro ⟨_, _, _, _, hg, d, hd2, hl⟩;exact ⟨hg,by rw[lay_dep n d t (-1) 0 hd hd2];exact hl⟩
 · rintro ⟨hg, hl⟩;exact ⟨hpos,h80,⟨x,hx,hp⟩,hps,hg,n,hd,hl⟩
theorem zB {ns:List Nd}(h:¬ (0<ns.length∧ns.length≤80∧(∃ x,ns[0]?=some x∧x.parent=-1)∧zt ns ns.length=true)):qi ns=false:=by
 cases hg:qi ns with
 | false=>rfl
 | true =>
   have:=jZ.1 hg;exact absurd ⟨this.1,this.2.1,this.2.2.1,this.2.2.2.1⟩ h
theorem xV {ns:List Nd}{k:Nat}(h:zt ns k=false):∀ m,k≤m→zt ns m=false:=by
  intro m
  induction m with
  | zero => intro hm;have : k = 0 := by omega
            subst this;exact h
  | succ m ih =>
    intro hm
    by_cases hk:k=m+1
    · rw[←hk];exact h
    · rw[zt,ih (by omega)];rfl
set_option maxHeartbeats 2000000 in
theorem Jt (hM:jV):IsDocOk:=by
 intro S v ns w hD;have hb1:=Below.alloc1 w (.cells #[v] 47);have hx1:=heap_alloc_new w (.cells #[v] 47);have HD:Hid (zl S w v ns):=hD;have HM:Hid jV:=hM;have HN1:Hid (qr S (w.alloc (.cells #[v] 47)) v ns):=hD.nodes.later hb1;obtain ⟨a,cap,rfl,hlc,hcm⟩:=hD.nodes.shape;unfold maxLen at hcm
 clear hD hM
 by_cases h0:ns.length=0
 · have hn : ns = [] := List.eq_nil_of_length_eq_zero h0;subst hn;have HE:Hid (qi []=false):=zB (by simp)
   clear hx1
   go_enter Tryd.func41,Tryd.ntmps41
   go_wp2_with fail;go_ret;exact ⟨by rw[HE.out];rfl,hb1⟩
 obtain ⟨x0,hx0⟩:∃ x,ns[0]?=some x:=⟨ns[0]'(by omega),by simp[show 0<ns.length by omega]⟩
 obtain ⟨b,o,cap2,xva,xvk,hv,_,_,hSb,hbw,_,_,_,c3,_,_,_⟩:=HN1.out.at hx0
 injection hv with hv1 hvl hv2
 subst hv1 hv2;clear hvl;have h0b:((ns.length:Int)==0)=false:=by simpa using h0
 have hpos:(0:Int)<(ns.length:Int):=by omega
 have c3z:(w.alloc (.cells #[.slice (some ⟨b,o,none⟩) ns.length cap] 47)).cell? ⟨b,o+3,none⟩=some (.int .i64 x0.parent):=by simpa using c3
 clear c3
 go_enter Tryd.func41,Tryd.ntmps41
 by_cases h80:ns.length≤80
 · have h80i : ¬ (80 : Int) < (ns.length : Int) := by omega
   by_cases hp0:x0.parent=-1
   · rw[hp0]at c3z
     go_wp2_with fail;have HN2:Hid (qr S (w.alloc (.cells #[.slice (some ⟨b,o,none⟩) ns.length cap] 47)) (.slice (some ⟨b,o,none⟩) ns.length cap) ns):=HN1.out
     generalize w.alloc (.cells #[.slice (some ⟨b,o,none⟩) ns.length cap] 47)=W1 at hb1 hx1 HN2 ⊢
     have hz1:=qf hx1;clear c3z HN1
     go_loopg [28] ns.length (fun g j wr=>∃ (k:Nat),k+g=ns.length∧j=.int .i64 (k:Int)∧Below W1.heap.size W1 wr∧zt ns k=true)
     case atStart => exact ⟨0,by omega,rfl,Below.refl _ _,rfl⟩
     case round =>
      obtain ⟨k,hk,rfl,hB,hpk⟩:=hrel;have HPK:Hid (zt ns k=true):=hpk;clear hpk;have hxr:=(hB.block _ hz1).trans hx1;have hBw:Below w.heap.size w wr:=hb1.trans (hB.mono hb1.size);have dr:wr.cell? ⟨w.heap.size,0,none⟩=some (.slice (some ⟨b,o,none⟩) ns.length cap):=by rw[cH9 hxr];rfl
      by_cases hkl:k<ns.length
      · have hkli : (k : Int) < (ns.length : Int) := by omega
        obtain ⟨y,hy⟩:∃ y,ns[k]?=some y:=⟨ns[k],by simp[hkl]⟩
        have HPS:Hid (zt ns (k+1)=(decide (k=0)||(decide (0≤y.parent)&&decide (y.parent<(k:Int))))):=by show _=_;rw[zt,HPK.out,hy];rfl
        obtain ⟨b',o',cap3,yva,yvk,hv,_,_,_,hbw2,c0,c1,c2,c3,c4,hAt,hKi⟩:=(HN2.out.later hB).at hy
        cases hv;obtain ⟨aa,ac,rfl⟩:=hAt.shape;obtain ⟨ka,kc,rfl,_,_⟩:=hKi.shape;have hBa:∀ X,Below W1.heap.size W1 (wr.alloc X):=fun X=>hB.alloc hB.size X
        have hBwa:∀ X,Below w.heap.size w (wr.alloc X):=fun X=>hBw.alloc hBw.size X
        clear hAt hKi hy hxr
        by_cases hk0:k=0
        · have HP2 : Hid (zt ns (k + 1) = true) := by show _ = _;rw[HPS.out];simp[hk0]
          have hk0i:¬ (0:Int)<(k:Int):=by omega
          clear hk0 HPS;go_wp2_with fail
          go_roundg (ns.length-(k+1))
          case measure => omega
          case rel => exact ⟨k+1,by omega,by go_num,hBa _,HP2.out⟩
        · have hk0i : (0 : Int) < (k : Int) := by omega
          by_cases hneg:y.parent<0
          · have HE:Hid (qi ns=false):=zB (fun h=>by
             have h1:zt ns (k+1)=false:=by rw[HPS.out];simp[hk0];omega
             have h2:=xV h1 ns.length (by omega)
             rw[h2]at h;exact absurd h.2.2.2 (by simp))
            clear hk0 HPS;go_wp2_with fail;go_ret;exact ⟨by rw[HE.out];rfl,hBwa _⟩
          · by_cases hge : (k : Int) ≤ y.parent
            · have HE:Hid (qi ns=false):=zB (fun h=>by
               have h1:zt ns (k+1)=false:=by rw[HPS.out];simp[hk0];omega
               have h2:=xV h1 ns.length (by omega)
               rw[h2]at h;exact absurd h.2.2.2 (by simp))
              clear hk0 HPS;go_wp2_with fail;go_ret;exact ⟨by rw[HE.out];rfl,hBwa _⟩
            · have HP2 : Hid (zt ns (k + 1) = true) := by show _ = _;rw[HPS.out];simp[hk0];omega
              clear hk0 HPS;go_wp2_with fail
              go_roundg (ns.length-(k+1))
              case measure => omega
              case rel => exact ⟨k+1,by omega,by go_num,hBa _,HP2.out⟩
      · have hkli : ¬ ((k : Int) < (ns.length : Int)) := by omega
        have hkk:k=ns.length:=by omega
        have HPA:Hid (zt ns ns.length=true):=by show _=_;rw[←hkk];exact HPK.out
        have HT:Hid _:=x7 ns.length S _ ns 0 wr (HD.out.later hBw).nodes HD.out.few h80 (by omega) (by omega)
        rw[show ((0:Nat):Int)=0 from rfl]at HT
        obtain ⟨t,ht⟩:∃ t,treeF ns.length ns 0=t:=⟨_,rfl⟩
        have HX:Hid (TextsN (ns.length+1) [t]):=by
         show TextsN (ns.length+1) [t]
         intro u hu;rw[List.mem_singleton]at hu
         rw[hu,←ht];exact YY HD.out.short _ _
        have HCT:Hid (cnt (ns.length+1) [t]≤1048576):=by show cnt (ns.length+1) [t]≤1048576;rw[←ht];exact XE (by omega) h80 h80
        rw[ht]at HT
        have HPT:Hid (∀ n,Deep n t.kids→qi ns=(qw t&&ndsB (layF n t (-1) 0) ns)):=fun n hd=>ZK hx0 h80 hp0 HPA.out ht hd
        clear hkk ht hx0;go_wp2_with fail;refine (Calls.mono HT.out ?_);rintro e w3 ⟨va,vk,rfl,hA,hK,hb3⟩;have HTD:Hid _:=HPT.out _ (qb.deep _ hK);have HMM:Hid _:=HM.out _ _ _ _ t w3 hA.bounded (qb.bounded _ hK) HX.out HCT.out (fun b hb=>hb.2)
        obtain ⟨aa,ac,rfl⟩:=hA.shape;obtain ⟨ka,kc,rfl,_,_⟩:=qb.shape _ hK;have hB3:Below w.heap.size w w3:=hBw.trans (hb3.mono hBw.size);have hx3:=(hb3.block _ (qf hxr)).trans hxr;have d3:w3.cell? ⟨w.heap.size,0,none⟩=some (.slice (some ⟨b,o,none⟩) ns.length cap):=by rw[cH9 hx3];rfl
        clear hA hK HT;go_wp2_with fail;refine (Calls.mono HMM.out ?_);rintro e w4 ⟨v4,rfl,hN4,hb4⟩;have hB4:Below w.heap.size w w4:=hB3.trans (hb4.mono hB3.size);have hx4:=(hb4.block _ (qf hx3)).trans hx3;have d4:w4.cell? ⟨w.heap.size,0,none⟩=some (.slice (some ⟨b,o,none⟩) ns.length cap):=by rw[cH9 hx4];rfl
        have hb5:=Below.alloc1 w4 (.cells #[v4] 47);have HSD:Hid _:=jA _ S _ _ _ ns _ (hN4.later hb5) (HD.out.later (hB4.alloc hB4.size (.cells #[v4] 47))).nodes;have hx5:=(hb5.block _ (qf hx4)).trans hx4;have d5:(w4.alloc (.cells #[v4] 47)).cell? ⟨w.heap.size,0,none⟩=some (.slice (some ⟨b,o,none⟩) ns.length cap):=by rw[cH9 hx5];rfl
        have hB5:Below w.heap.size w (w4.alloc (.cells #[v4] 47)):=hB4.alloc hB4.size _;obtain ⟨a4,cap4,rfl,_,_⟩:=hN4.shape;obtain ⟨g,hg⟩:∃ g,qw t=g:=⟨_,rfl⟩;obtain ⟨q,hq⟩:∃ q,(yl ns.length t).length=q:=⟨_,rfl⟩;rw[hq]at HSD hB5 d5 ⊢
        unfold ym;unfold yl at HSD
        rw[hg]at HTD HSD ⊢
        clear hN4 HMM hg hxr hx3 hx4 hx5 hb5 hq;cases g with
        | false =>
          have HE:Hid (qi ns=false):=by show _=_;rw[HTD.out];rfl
          clear HTD HSD;go_wp2_with fail;go_ret;exact ⟨by rw[HE.out];rfl,hB5⟩
        | true =>
          have HE:Hid (qi ns=ndsB (layF ns.length t (-1) 0) ns):=by show _=_;rw[HTD.out];rfl
          clear HTD;simp only[if_true]at HSD
          go_wp2_with fail;refine (Calls.mono HSD.out ?_);rintro e w6 ⟨rfl,hb6⟩;go_wp2_with fail;go_ret;exact ⟨by rw[HE.out];rfl,hB5.trans (hb6.mono hB5.size)⟩
   · have hpb : (x0.parent == -1) = false := by simpa using hp0
     have HE:Hid (qi ns=false):=zB (fun h=>by obtain ⟨_,_,⟨x,hx,hp⟩,_⟩:=h;rw[hx0]at hx;cases hx;exact hp0 hp)
     clear hp0 hx0 HN1;go_wp2_with fail;go_ret;exact ⟨by rw[HE.out];rfl,hb1⟩
 · have h80i : (80 : Int) < (ns.length : Int) := by omega
   have HE:Hid (qi ns=false):=zB (fun h=>h80 h.2.1)
   clear h80 hx0 HN1;go_wp2_with fail;go_ret;exact ⟨by rw[HE.out];rfl,hb1⟩
set_option maxHeartbeats 2000000 in
theorem YX (hI:IsDocOk)(S:Nat→Prop)(v:Value)(ns:List Nd)(n:Int)(w:World)(h:zl S w v ns) :
 Calls Tryd.prog 39 #[.agg #[v],.int .i64 n] w fun e w'=>∃ va vk,e=.returned (.tuple #[.agg #[.bool (q8 ns n).1.text,.string (q8 ns n).1.s,va,vk],.int .i64 (q8 ns n).2]) ∧
  qe (fun b=>w.heap.size≤b) w' va (q8 ns n).1.attrs∧qb (fun b=>w.heap.size≤b) w' ns.length vk (q8 ns n).1.kids∧Below w.heap.size w w':=by
 have hb1:Below w.heap.size w ((w.alloc (.cells #[v] 47)).alloc (.cells #[.bool false,.string ⟨#[]⟩,.slice none 0 0,.slice none 0 0] 25)):=(Below.alloc1 w _).alloc (by simp) _
 have hx1:((w.alloc (.cells #[v] 47)).alloc (.cells #[.bool false,.string ⟨#[]⟩,.slice none 0 0,.slice none 0 0] 25)).heap[w.heap.size]?=some (.cells #[v] 47 (0,0)):=by
  rw[Lib.alloc_old _ _ _ (by simp)];exact heap_alloc_new _ _
 have hy1:((w.alloc (.cells #[v] 47)).alloc (.cells #[.bool false,.string ⟨#[]⟩,.slice none 0 0,.slice none 0 0] 25)).heap[w.heap.size+1]?=some (.cells #[.bool false,.string ⟨#[]⟩,.slice none 0 0,.slice none 0 0] 25 (0,0)):=by
  have e:=heap_alloc_new (w.alloc (.cells #[v] 47)) (.cells #[.bool false,.string ⟨#[]⟩,.slice none 0 0,.slice none 0 0] 25);rw[World.size_alloc]at e
  exact e
 have H:Hid (zl S w v ns):=h;have HG:Hid _:=hI S v ns _ (h.later hb1);have HE:Hid (q8 ns n=if qi ns then (if qP ns n then (growF ns.length ns n.toNat,0) else (noTr,3)) else (noTr,1)):=rfl
 obtain ⟨a,cap,rfl,hlc,hcm⟩:=h.nodes.shape;unfold maxLen at hcm
 clear h
 go_enter Tryd.func39,Tryd.ntmps39
 go_wp2_with fail;refine (Calls.mono HG.out ?_);rintro e w2 ⟨rfl,hb2⟩;have hx2:=(hb2.block _ (qf hx1)).trans hx1;have hy2:=(hb2.block _ (qf hy1)).trans hy1;have hB2:Below w.heap.size w w2:=hb1.trans (hb2.mono hb1.size);have d0:w2.cell? ⟨w.heap.size,0,none⟩=some (.slice a ns.length cap):=by rw[cH9 hx2];rfl
 have p0:w2.cell? ⟨w.heap.size+1,0,none⟩=some (.bool false):=by rw[cH9 hy2];rfl
 have p1:w2.cell? ⟨w.heap.size+1,1,none⟩=some (.string ⟨#[]⟩):=by rw[cH9 hy2];rfl
 have p2:w2.cell? ⟨w.heap.size+1,2,none⟩=some (.slice none 0 0):=by rw[cH9 hy2];rfl
 have p3:w2.cell? ⟨w.heap.size+1,3,none⟩=some (.slice none 0 0):=by rw[cH9 hy2];rfl
 have f0:w2.frozen? ⟨w.heap.size+1,0,none⟩=false:=fH9 hy2 0;have f1:w2.frozen? ⟨w.heap.size+1,1,none⟩=false:=fH9 hy2 1;have f2:w2.frozen? ⟨w.heap.size+1,2,none⟩=false:=fH9 hy2 2;have f3:w2.frozen? ⟨w.heap.size+1,3,none⟩=false:=fH9 hy2 3;clear HG hb1 hx1 hb2 hy1;obtain ⟨q,hq⟩:∃ q,qi ns=q:=⟨_,rfl⟩;rw[hq];have hle1:w.heap.size≤w.heap.size+1:=Nat.le_succ _;cases q with
 | false =>
   have HE2:Hid (q8 ns n=(noTr,1)):=by show _=_;rw[HE.out,hq];rfl
   clear HE hq;go_wp2_with fail;refine bodyPost_ret (v:=.tuple #[.agg #[.bool false,.string ⟨#[]⟩,.slice none 0 0,.slice none 0 0],.int .i64 1]) (by simp[results,Tryd.results39,go_sem,qg,p0,p1,p2,p3,World.cell?_setCell_other]) rfl ⟨.slice none 0 0,.slice none 0 0,by rw[HE2.out];rfl,by rw[HE2.out];exact qe.nil,by rw[HE2.out];exact qb.nil _ ⟨none,0,rfl,nZ9 _⟩,?_⟩
   exact (((hB2.setCell (p:=⟨w.heap.size+1,0,none⟩) hle1 _).setCell (p:=⟨w.heap.size+1,1,none⟩) hle1 _).setCell (p:=⟨w.heap.size+1,2,none⟩) hle1 _).setCell (p:=⟨w.heap.size+1,3,none⟩) hle1 _
 | true =>
   have HE2:Hid (q8 ns n=if qP ns n then (growF ns.length ns n.toNat,0) else (noTr,3)):=by show _=_;rw[HE.out,hq];rfl
   have HGQ:Hid (qi ns=true):=hq;clear HE hq;have HAB:Hid (qP ns n=(decide (0≤n)&&decide (n<ns.length))):=rfl;obtain ⟨q2,hq2⟩:∃ q,qP ns n=q:=⟨_,rfl⟩;rw[hq2]at HE2 HAB
   clear hq2;cases q2 with
   | false =>
     have HE3:Hid (q8 ns n=(noTr,3)):=by show _=_;rw[HE2.out];rfl
     clear HE2;have hr:=HAB.out.symm;simp only[Bool.and_eq_false_iff,decide_eq_false_iff_not]at hr
     by_cases hn0:n<0
     · clear hr HAB;go_wp2_with fail;refine bodyPost_ret (v:=.tuple #[.agg #[.bool false,.string ⟨#[]⟩,.slice none 0 0,.slice none 0 0],.int .i64 3]) (by simp[results,Tryd.results39,go_sem,qg,p0,p1,p2,p3,World.cell?_setCell_other]) rfl ⟨.slice none 0 0,.slice none 0 0,by rw[HE3.out];rfl,by rw[HE3.out];exact qe.nil,by rw[HE3.out];exact qb.nil _ ⟨none,0,rfl,nZ9 _⟩,?_⟩
       exact (((hB2.setCell (p:=⟨w.heap.size+1,0,none⟩) hle1 _).setCell (p:=⟨w.heap.size+1,1,none⟩) hle1 _).setCell (p:=⟨w.heap.size+1,2,none⟩) hle1 _).setCell (p:=⟨w.heap.size+1,3,none⟩) hle1 _
     · have hnl : (ns.length : Int) ≤ n := by omega
       clear hr HAB;go_wp2_with fail;refine bodyPost_ret (v:=.tuple #[.agg #[.bool false,.string ⟨#[]⟩,.slice none 0 0,.slice none 0 0],.int .i64 3]) (by simp[results,Tryd.results39,go_sem,qg,p0,p1,p2,p3,World.cell?_setCell_other]) rfl ⟨.slice none 0 0,.slice none 0 0,by rw[HE3.out];rfl,by rw[HE3.out];exact qe.nil,by rw[HE3.out];exact qb.nil _ ⟨none,0,rfl,nZ9 _⟩,?_⟩
       exact (((hB2.setCell (p:=⟨w.heap.size+1,0,none⟩) hle1 _).setCell (p:=⟨w.heap.size+1,1,none⟩) hle1 _).setCell (p:=⟨w.heap.size+1,2,none⟩) hle1 _).setCell (p:=⟨w.heap.size+1,3,none⟩) hle1 _
   | true =>
     have hr:=HAB.out.symm;simp only[Bool.and_eq_true,decide_eq_true_eq]at hr
     obtain ⟨m,rfl⟩:∃ m:Nat,n=(m:Int):=⟨n.toNat,by omega⟩
     have HE3:Hid (q8 ns (m:Int)=(growF ns.length ns m,0)):=by show _=_;rw[HE2.out];rfl
     have h80:ns.length≤80:=(jZ.1 HGQ.out).2.1;have HGR:Hid _:=x7 ns.length S _ ns m w2 (H.out.later hB2).nodes H.out.few h80 (by omega) (by omega)
     rw[QK HGQ.out]at HGR
     have hn0:¬ ((m:Int)<0):=by omega
     have hnl:¬ ((ns.length:Int)≤(m:Int)):=by omega
     clear HE2 HAB hr h80;go_wp2_with fail;refine (Calls.mono HGR.out ?_);rintro e w4 ⟨va4,vk4,rfl,hA4,hK4,hb4⟩;have hB4:Below w.heap.size w w4:=hB2.trans (hb4.mono hB2.size);obtain ⟨aa,ac,rfl⟩:=hA4.shape;obtain ⟨ka,kc,rfl,_,_⟩:=qb.shape ns.length hK4;have hy4:=(hb4.block _ (qf hy2)).trans hy2;have hs2:=qf hy2;clear p0 p1 p2 p3 f0 f1 f2 f3 HGR;have p0:w4.cell? ⟨w.heap.size+1,0,none⟩=some (.bool false):=by rw[cH9 hy4];rfl
     have p1:w4.cell? ⟨w.heap.size+1,1,none⟩=some (.string ⟨#[]⟩):=by rw[cH9 hy4];rfl
     have p2:w4.cell? ⟨w.heap.size+1,2,none⟩=some (.slice none 0 0):=by rw[cH9 hy4];rfl
     have p3:w4.cell? ⟨w.heap.size+1,3,none⟩=some (.slice none 0 0):=by rw[cH9 hy4];rfl
     have f0:w4.frozen? ⟨w.heap.size+1,0,none⟩=false:=fH9 hy4 0;have f1:w4.frozen? ⟨w.heap.size+1,1,none⟩=false:=fH9 hy4 1;have f2:w4.frozen? ⟨w.heap.size+1,2,none⟩=false:=fH9 hy4 2;have f3:w4.frozen? ⟨w.heap.size+1,3,none⟩=false:=fH9 hy4 3;obtain ⟨t,ht⟩:∃ t,growF ns.length ns m=t:=⟨_,rfl⟩;rw[ht]at hA4 hK4 HE3 ⊢
     clear ht;go_wp2_with fail;refine bodyPost_ret (v:=.tuple #[.agg #[.bool t.text,.string t.s,.slice aa t.attrs.length ac,.slice ka t.kids.length kc],.int .i64 0]) (by simp[results,Tryd.results39,go_sem,qg,p0,p1,p2,p3,World.cell?_setCell_other]) rfl ⟨.slice aa t.attrs.length ac,.slice ka t.kids.length kc,by rw[HE3.out],?_,?_,?_⟩
     · rw[HE3.out];refine hA4.carry fun b hb=>⟨by omega,?_⟩
       rw[qd (by omega),qd (by omega),qd (by omega),qd (by omega)]
     · rw[HE3.out];refine qb.carry (fun b hb=>⟨by omega,?_⟩) ns.length hK4
       rw[qd (by omega),qd (by omega),qd (by omega),qd (by omega)]
     · exact (((hB4.setCell (p:=⟨w.heap.size+1,0,none⟩) hle1 _).setCell (p:=⟨w.heap.size+1,1,none⟩) hle1 _).setCell (p:=⟨w.heap.size+1,2,none⟩) hle1 _).setCell (p:=⟨w.heap.size+1,3,none⟩) hle1 _
end
section
attribute [local go_sem] qg
set_option maxHeartbeats 1000000 in
theorem Qw (w:World):Calls Tryd.prog 36 #[] w fun e w'=>e=.returned (.bool true)∧Below w.heap.size w w':=by
 go_enter Tryd.func36,Tryd.ntmps36
 go_wp2_with fail;have hb1:Below w.heap.size w ((w.alloc (.cells #[.bool true,.string ⟨#[120]⟩,.slice none 0 0,.slice none 0 0] 25)).alloc (.cells #[.bool false,.string ⟨#[98]⟩,.slice none 0 0,.slice (some ⟨w.heap.size,0,none⟩) 1 1,.bool false,.string ⟨#[99]⟩,.slice none 0 0,.slice none 0 0] 25)):=(Below.alloc1 w _).alloc (by simp) _
 have hx1:((w.alloc (.cells #[.bool true,.string ⟨#[120]⟩,.slice none 0 0,.slice none 0 0] 25)).alloc (.cells #[.bool false,.string ⟨#[98]⟩,.slice none 0 0,.slice (some ⟨w.heap.size,0,none⟩) 1 1,.bool false,.string ⟨#[99]⟩,.slice none 0 0,.slice none 0 0] 25)).heap[w.heap.size]?=some (.cells #[.bool true,.string ⟨#[120]⟩,.slice none 0 0,.slice none 0 0] 25 (0,0)):=by
  rw[Lib.alloc_old _ _ _ (by simp)];exact heap_alloc_new _ _
 have hy1:((w.alloc (.cells #[.bool true,.string ⟨#[120]⟩,.slice none 0 0,.slice none 0 0] 25)).alloc (.cells #[.bool false,.string ⟨#[98]⟩,.slice none 0 0,.slice (some ⟨w.heap.size,0,none⟩) 1 1,.bool false,.string ⟨#[99]⟩,.slice none 0 0,.slice none 0 0] 25)).heap[w.heap.size+1]?=some (.cells #[.bool false,.string ⟨#[98]⟩,.slice none 0 0,.slice (some ⟨w.heap.size,0,none⟩) 1 1,.bool false,.string ⟨#[99]⟩,.slice none 0 0,.slice none 0 0] 25 (0,0)):=by
  have e:=heap_alloc_new (w.alloc (.cells #[.bool true,.string ⟨#[120]⟩,.slice none 0 0,.slice none 0 0] 25)) (.cells #[.bool false,.string ⟨#[98]⟩,.slice none 0 0,.slice (some ⟨w.heap.size,0,none⟩) 1 1,.bool false,.string ⟨#[99]⟩,.slice none 0 0,.slice none 0 0] 25);rw[World.size_alloc]at e
  exact e
 have hz1:((w.alloc (.cells #[.bool true,.string ⟨#[120]⟩,.slice none 0 0,.slice none 0 0] 25)).alloc (.cells #[.bool false,.string ⟨#[98]⟩,.slice none 0 0,.slice (some ⟨w.heap.size,0,none⟩) 1 1,.bool false,.string ⟨#[99]⟩,.slice none 0 0,.slice none 0 0] 25)).heap.size=w.heap.size+2:=by simp
 generalize ((w.alloc (.cells #[.bool true,.string ⟨#[120]⟩,.slice none 0 0,.slice none 0 0] 25)).alloc (.cells #[.bool false,.string ⟨#[98]⟩,.slice none 0 0,.slice (some ⟨w.heap.size,0,none⟩) 1 1,.bool false,.string ⟨#[99]⟩,.slice none 0 0,.slice none 0 0] 25))=W1 at hb1 hx1 hy1 hz1 ⊢
 have hT1:qb (fun b=>False∨b=w.heap.size) W1 1 (.slice (some ⟨w.heap.size,0,none⟩) 1 1) [⟨true,⟨#[120]⟩,[],[]⟩] :=
  qb.of_block (qs:=[(true,⟨#[120]⟩,.slice none 0 0,.slice none 0 0)]) hx1 rfl rfl rfl (nR9 _) (by unfold maxLen;omega) (by
   intro i q t hq ht
   match i,hq,ht with
   | 0, hq, ht =>
     simp at hq ht
     subst hq ht;exact ⟨rfl,rfl,qe.nil,rfl,none,0,rfl,nZ9 _⟩
   | i+1,hq,_=>simp at hq)
 have hT2:qb (fun b=>(False∨b=w.heap.size)∨b=w.heap.size+1) W1 2 (.slice (some ⟨w.heap.size+1,0,none⟩) 2 2) docsT.kids :=
  qb.of_block (qs:=[(false,⟨#[98]⟩,.slice none 0 0,.slice (some ⟨w.heap.size,0,none⟩) 1 1),(false,⟨#[99]⟩,.slice none 0 0,.slice none 0 0)]) hy1 rfl rfl rfl (nR9 _) (by unfold maxLen;omega) (by
   intro i q t hq ht
   match i,hq,ht with
   | 0, hq, ht =>
     simp[docsT]at hq ht
     subst hq ht;exact ⟨rfl,rfl,qe.nil,hT1⟩
   | 1, hq, ht =>
     simp[docsT]at hq ht
     subst hq ht;exact ⟨rfl,rfl,qe.nil,qb.nil _ ⟨none,0,rfl,nZ9 _⟩⟩
   | i+2,hq,_=>simp at hq)
 have hmk:=ZO _ 2 (.slice none 0 0) _ docsT W1 qe.nil hT2 docs_texts (by intro b hb;rw[hz1];rcases hb with (hb|hb)|hb;exact hb.elim;omega;omega)
 rw[docs_made,show ym docsT=0 by unfold ym;rw[docs_good];rfl]at hmk
 have HMK:Hid _:=hmk;clear hmk hT1 hT2 hx1 hy1;refine (Calls.mono HMK.out ?_);rintro e w2 ⟨v,rfl,hN2,hb2⟩;have hB2:Below w.heap.size w w2:=hb1.trans (hb2.mono hb1.size);obtain ⟨na,nc,rfl,_,_⟩:=hN2.shape;have hb3:=Below.alloc1 w2 (.cells #[.slice na docsN.length nc] 47);have hx3:=heap_alloc_new w2 (.cells #[.slice na docsN.length nc] 47);have hN3:=(hN2.later hb3).bounded;have hV3:=Ki hN3 (fun b hb=>hb.2)
 have hB3:Below w.heap.size w _:=hB2.trans (hb3.mono hB2.size);have hE:=yQ _ _ docsN 1 _ hV3;rw[docs_end]at hE
 have HE:Hid _:=hE;clear HMK hE hN2;go_wp2_with fail
 generalize w2.alloc (.cells #[.slice na docsN.length nc] 47)=W3 at *
 refine (Calls.mono HE.out ?_);rintro e w4 ⟨rfl,hb4⟩;have hx4:=(hb4.block _ (qf hx3)).trans hx3;have d4:w4.cell? ⟨w2.heap.size,0,none⟩=some (.slice na docsN.length nc):=by rw[cH9 hx4];rfl
 have hV4:=hV3.later hb4;have hB4:Below w.heap.size w w4:=hB3.trans (hb4.mono hB3.size);have hS:=Z5 _ _ docsN 0 w4 hV4 (by decide)
 rw[docs_str]at hS
 have HSS:Hid _:=hS;clear hS HE;go_wp2_with fail;refine (Calls.mono HSS.out ?_);rintro e w5 ⟨rfl,hb5⟩;have hx5:=(hb5.block _ (qf hx4)).trans hx4;have d5:w5.cell? ⟨w2.heap.size,0,none⟩=some (.slice na docsN.length nc):=by rw[cH9 hx5];rfl
 have hV5:=hV4.later hb5;have hB5:Below w.heap.size w w5:=hB4.trans (hb5.mono hB4.size);have hI:=Y9 _ _ docsN 2 1 w5 hV5;rw[docs_in]at hI
 have HI:Hid _:=hI;clear hI HSS;go_wp2_with fail;refine (Calls.mono HI.out ?_);rintro e w6 ⟨rfl,hb6⟩;have hB6:Below w.heap.size w w6:=hB5.trans (hb6.mono hB5.size);go_wp2_with fail;go_ret;exact ⟨rfl,hB6⟩
end
section
attribute [local go_sem] qg
def XZ (ns:List Nd)(n:Int)(k:Nat):List UInt8:=match ns[k]? with|some x=>if x.text&&inD ns (k:Int) n then x.s.data.toList else []|none=>[]
def yJ (ns:List Nd)(n:Int):Nat→List UInt8
 | 0=>[]
 | k+1=>yJ ns n k++XZ ns n k
theorem XA {ns:List Nd}(n:Int):yJ ns n ns.length=jb ns n:=by
 unfold jb
 by_cases hz:qy ns n=0
 · rw[if_pos hz]
   have:∀ k,yJ ns n k=[]:=by
    intro k
    induction k with
    | zero=>rfl
    | succ k ih =>
      rw[yJ,ih];have:inD ns (k:Int) n=false:=by unfold inD;rw[hz];simp
      unfold XZ;rw[this];cases ns[k]?<;>simp
   rw[this]
 · rw[if_neg hz]
   have hg:qi ns=true:=by
    cases h:qi ns with
    | true=>rfl
    | false=>exact absurd (by unfold qy;rw[h];rfl) hz
   have hn:¬ (n<0∨(ns.length:Int)≤n):=fun h=>hz (jK h)
   obtain ⟨N,rfl⟩:∃ N:Nat,n=(N:Int):=⟨n.toNat,by omega⟩
   have hN:N<ns.length:=by omega
   have hgt:=(qF hg (j:=N) (x:=ns[N]) (by simp[hN])).gt
   have hle:=Q3 hg (N:Int);obtain ⟨E,hE⟩:∃ E:Nat,qy ns (N:Int)=(E:Int):=⟨(qy ns (N:Int)).toNat,by omega⟩
   have key:∀ k:Nat,k≤ns.length→yJ ns (N:Int) k=((ns.take (min k E)).drop N).flatMap txt:=by
    intro k
    induction k with
    | zero=>intro _;simp[yJ]
    | succ k ih =>
      intro hk;obtain ⟨x,hx⟩:∃ x,ns[k]?=some x:=⟨ns[k]'(by omega),by simp⟩
      have hin:inD ns (k:Int) (N:Int)=(decide ((N:Int)≤k)&&decide ((k:Int)<(E:Int))):=by
       unfold inD;rw[hE];have:0<E:=by omega
       simp[this]
      rw[yJ,ih (by omega)]
      unfold XZ;rw[hx,hin];simp only
      by_cases h2:k<E
      · rw[Nat.min_eq_left (by omega), Nat.min_eq_left (by omega)]
        have ek:ns[k]'(by omega)=x:=by
         have:=hx;rw[List.getElem?_eq_getElem (by omega)]at this
         exact Option.some.inj this
        rw[List.take_succ_eq_append_getElem (by omega),ek]
        by_cases h1:N≤k
        · rw[List.drop_append_of_le_length (by rw[List.length_take];omega), List.flatMap_append]
          congr 1
          have h1':(N:Int)≤k:=by omega
          have h2':(k:Int)<E:=by omega
          simp[txt,h1',h2']
        · have h1' : ¬ (N : Int) ≤ k := by omega
          rw[List.drop_of_length_le (by rw[List.length_take];omega),List.drop_of_length_le (by rw[List.length_append,List.length_take];simp;omega)]
          simp[h1']
      · rw[Nat.min_eq_right (by omega), Nat.min_eq_right (by omega)]
        have h2':¬ (k:Int)<E:=by omega
        simp[h2']
   rw[key ns.length (nR9 _),hE,Int.toNat_natCast,Int.toNat_natCast,Nat.min_eq_right (by omega)]
theorem yw {ns:List Nd}(hg:qi ns=true){j:Nat}{x:Nd}(hx:ns[j]?=some x)(ht:x.text=true):x.s.size≤40:=by
 have hj:=qD hx;obtain ⟨d,t,hd,hs,hn,hr,_,_,_⟩:=zM hg;obtain ⟨d',t',par',g1,g2,g3,_⟩:=yn ns d t (-1) 0 hd hs hr j (nZ9 _) (by omega)
 have hx2:x=⟨t'.text,t'.s,t'.attrs,par',qh (d'-1) (j+1) t'.kids⟩:=by
  have:=g2 0 _ (by rw[zf g1 par' j];rfl)
  rw[Nat.add_zero,hx]at this
  exact Option.some.inj this
 rw[jR]at g3
 simp only[Bool.and_eq_true]at g3
 have ht':t'.text=true:=by rw[hx2]at ht;exact ht
 have h1:=g3.1;simp only[qu,ht',if_true,Bool.and_eq_true,qO,decide_eq_true_eq]at h1
 rw[hx2];exact h1.1.1.2.1
theorem Xe {ns:List Nd}{n m:Int}(h:inD ns n m=true):qi ns=true:=by
 rw[QA]at h
 simp only[Bool.and_eq_true]at h
 exact h.1.1.1.1
set_option maxHeartbeats 1000000 in
theorem Zk (hI:IsDocOk)(S:Nat→Prop)(v:Value)(ns:List Nd)(n:Int)(w:World)(hD:zl S w v ns) :
 Calls Tryd.prog 47 #[.agg #[v],.int .i64 n] w fun e w'=>e=.returned (.string ⟨(jb ns n).toArray⟩)∧Below w.heap.size w w':=by
 have hb1:=Below.alloc1 w (.cells #[v] 47);have hx1:=heap_alloc_new w (.cells #[v] 47);have HII:Hid (∀ (k:Int) (W:World),Below w.heap.size w W→Calls Tryd.prog 45 #[.agg #[v],.int .i64 k,.int .i64 n] W fun e w'=>e=.returned (.bool (inD ns k n))∧Below W.heap.size W w'):=fun k W h=>xO hI S v ns k n W (hD.later h)
 have HE:Hid (yJ ns n ns.length=jb ns n):=XA n;have HN:Hid (qr S w v ns):=hD.nodes;obtain ⟨a,cap,rfl,hlc,hcm⟩:=hD.nodes.shape;unfold maxLen at hcm
 clear hD hI
 go_enter Tryd.func47,Tryd.ntmps47
 go_wp2_with fail
 generalize w.alloc (.cells #[.slice a ns.length cap] 47)=W1 at *
 have hz1:=qf hx1
 go_loopg [11,5] ns.length (fun g j z wr=>∃ (k:Nat) (B:ByteArray),k+g=ns.length∧j=.int .i64 (k:Int)∧z=.string B∧B.data.toList=yJ ns n k∧B.size≤40*k∧Below W1.heap.size W1 wr)
 case atStart => exact ⟨0,⟨#[]⟩,by omega,rfl,rfl,rfl,nR9 _,Below.refl _ _⟩
 case round =>
  obtain ⟨k,B,hk,rfl,rfl,hBs,hBz,hB⟩:=hrel;have HBS:Hid (B.data.toList=yJ ns n k):=hBs;clear hBs;have hxr:=(hB.block _ hz1).trans hx1;have hBw:Below w.heap.size w wr:=hb1.trans (hB.mono hb1.size);have dr:wr.cell? ⟨w.heap.size,0,none⟩=some (.slice a ns.length cap):=by rw[cH9 hxr];rfl
  by_cases hkl:k<ns.length
  · have hkli : (k : Int) < (ns.length : Int) := by omega
    obtain ⟨x,hx⟩:∃ x,ns[k]?=some x:=⟨ns[k],by simp[hkl]⟩
    obtain ⟨b,o,cap2,xva,xvk,hv,_,_,_,hbw,c0,c1,c2,c3,c4,hAt,hKi⟩:=(HN.out.later hBw).at hx
    injection hv with hv1 hvl hv2
    subst hv1 hv2;clear hvl;obtain ⟨aa,ac,rfl⟩:=hAt.shape;obtain ⟨ka,kc,rfl,_,_⟩:=hKi.shape;have hb2:=Below.alloc1 wr (.cells #[.bool x.text,.string x.s,.slice aa x.attrs.length ac,.int .i64 x.parent,.slice ka x.kids.length kc] 90);have hx2:=heap_alloc_new wr (.cells #[.bool x.text,.string x.s,.slice aa x.attrs.length ac,.int .i64 x.parent,.slice ka x.kids.length kc] 90);have hB2:Below W1.heap.size W1 (wr.alloc (.cells #[.bool x.text,.string x.s,.slice aa x.attrs.length ac,.int .i64 x.parent,.slice ka x.kids.length kc] 90)):=hB.trans (hb2.mono hB.size);have hBw2:Below w.heap.size w (wr.alloc (.cells #[.bool x.text,.string x.s,.slice aa x.attrs.length ac,.int .i64 x.parent,.slice ka x.kids.length kc] 90)):=hBw.trans (hb2.mono hBw.size);have hltw:w.heap.size<wr.heap.size:=qf hxr
    have HU:Hid (yJ ns n (k+1)=yJ ns n k++(if x.text&&inD ns (k:Int) n then x.s.data.toList else [])):=by
     show _=_
     rw[yJ,XZ,hx]
    cases htx:x.text with
    | false =>
      rw[htx]at c0 hx2 hB2 hBw2 HU
      have HU2:Hid (yJ ns n (k+1)=yJ ns n k):=by show _=_;rw[HU.out];simp
      clear htx hx HU hAt hKi hxr hb2 hx2;go_wp2_with fail
      go_roundg (ns.length-(k+1))
      case measure => omega
      case rel => exact ⟨k+1,B,by omega,by go_num,rfl,by rw[HU2.out,HBS.out],by omega,hB2⟩
    | true =>
      rw[htx]at c0 hx2 hB2 hBw2 HU
      have HC:Hid _:=HII.out (k:Int) _ hBw2
      have HSH:Hid (inD ns (k:Int) n=true→x.s.size≤40∧ns.length≤80):=by
       intro h;have hg:=Xe h;refine ⟨yw hg hx htx,?_⟩;simp only[qi,Bool.and_eq_true,decide_eq_true_eq]at hg
       exact hg.1.1
      obtain ⟨q,hq⟩:∃ q,inD ns (k:Int) n=q:=⟨_,rfl⟩;rw[hq]at HC HU HSH
      clear hq htx hx hAt hKi hxr hb2;cases q with
      | false =>
        have HU2:Hid (yJ ns n (k+1)=yJ ns n k):=by show _=_;rw[HU.out];simp
        clear HU hx2;go_wp2_with fail;refine (Calls.mono HC.out ?_);rintro e w3 ⟨rfl,hb3⟩;go_wp2_with fail
        go_roundg (ns.length-(k+1))
        case measure => omega
        case rel => exact ⟨k+1,B,by omega,by go_num,rfl,by rw[HU2.out,HBS.out],by omega,hB2.trans (hb3.mono hB2.size)⟩
      | true =>
        have HU2:Hid ((B++x.s).data.toList=yJ ns n (k+1)):=by
         show _=_
         rw[HU.out,ByteArray.data_append,Array.toList_append,HBS.out];rfl
        have hss:=(HSH.out rfl).1;have hs8:=(HSH.out rfl).2;have hcat:((B.size+x.s.size:Nat):Int)≤9223372036854775807:=by omega
        have hcat2:B.size+x.s.size≤9223372036854775807:=by omega
        have HBZ2:Hid ((B++x.s).size≤40*(k+1)):=by
         show _≤_
         rw[ByteArray.size_append];omega
        clear HU;go_wp2_with fail;refine (Calls.mono HC.out ?_);rintro e w3 ⟨rfl,hb3⟩;have hx3:=(hb3.block _ (qf hx2)).trans hx2;have d1:w3.cell? ⟨wr.heap.size,1,none⟩=some (.string x.s):=by rw[cH9 hx3];rfl
        go_wp2_with fail
        go_roundg (ns.length-(k+1))
        case measure => omega
        case rel => exact ⟨k+1,B++x.s,by omega,by go_num,rfl,HU2.out,HBZ2.out,hB2.trans (hb3.mono hB2.size)⟩
  · have hkli : ¬ ((k : Int) < (ns.length : Int)) := by omega
    have hkk:k=ns.length:=by omega
    have HE2:Hid (B=⟨(jb ns n).toArray⟩):=by
     show _=_
     have:=HBS.out;rw[hkk,HE.out]at this
     rw[←this]
    clear hkk;go_wp2_with fail;go_ret;exact ⟨by rw[←HE2.out];rfl,hBw⟩
end
section
attribute [local go_sem] qg
theorem Jr {ns:List Nd}(hg:qi ns=true){j:Nat}{x:Nd}(hx:ns[j]?=some x):x.s.size≤40:=by
 obtain ⟨d,t,hd,hs,hn,hr,_,_,_⟩:=zM hg;obtain ⟨d',t',par',g1,g2,g3,_⟩:=yn ns d t (-1) 0 hd hs hr j (nZ9 _) (by have:=qD hx;omega)
 have h0:=g2 0 _ (by rw[zf g1 par' j];rfl)
 rw[Nat.add_zero,hx]at h0
 obtain rfl:=Option.some.inj h0;rw[jR]at g3
 simp only[Bool.and_eq_true]at g3
 have h1:=g3.1;unfold qu at h1
 show t'.s.size≤40
 cases htx:t'.text with
 | true =>
   simp only[htx,if_true,Bool.and_eq_true,decide_eq_true_eq]at h1
   have h2:=h1.1.1.2;simp only[qO,Bool.and_eq_true,decide_eq_true_eq]at h2
   exact h2.1
 | false =>
   simp only[htx,Bool.false_eq_true,if_false,Bool.and_eq_true]at h1
   have h2:=h1.1;simp only[qN,Bool.and_eq_true,decide_eq_true_eq]at h2
   omega
theorem sum_few:∀ (l:List Nat) (c:Nat),(∀ x∈l,x≤c)→l.sum≤l.length*c:=by
 intro l c
 induction l with
 | nil=>intro _;simp
 | cons x l ih =>
   intro h;have h1:=h x List.mem_cons_self;have h2:=ih (fun y hy=>h y (List.mem_cons_of_mem _ hy))
   simp only[List.sum_cons,List.length_cons,Nat.add_mul];omega
theorem Xc {ns:List Nd}(hg:qi ns=true):(ns.map fun x=>x.s.size).sum≤1099511627776:=by
 have h80:ns.length≤80:=by
  have:=hg;simp only[qi,Bool.and_eq_true,decide_eq_true_eq]at this
  exact this.1.1
 have h:=sum_few (ns.map fun x=>x.s.size) 40 (fun y hy=>by
  obtain ⟨x,hx,rfl⟩:=List.mem_map.1 hy;obtain ⟨i,hi⟩:=List.mem_iff_getElem?.1 hx;exact Jr hg hi)
 rw[List.length_map]at h
 have:ns.length*40≤80*40:=Nat.mul_le_mul_right _ h80;omega
theorem Xz (S:Nat→Prop)(v:Value)(ns:List Nd)(n:Int)(w:World)(h:zl S w v ns) :
 Calls Tryd.prog 46 #[.agg #[v],.int .i64 n] w fun e w'=>e=.returned (.string ⟨(jb ns n).toArray⟩)∧Below w.heap.size w w':=by
 by_cases hg:qi ns=true
 · exact Z5 S v ns n w h (Xc hg)
 · have hg' : qi ns = false := by simpa using hg
   have hb1:=Below.alloc1 w (.cells #[v] 47);have HG:Hid _:=yQ S v ns n _ (h.later hb1);have he:qy ns n=0:=by unfold qy;rw[hg'];rfl
   have HE:Hid (jb ns n=[]):=by show _=_;unfold jb;rw[if_pos he]
   rw[he]at HG
   obtain ⟨a,cap,rfl,_,_⟩:=h.nodes.shape;clear h hg hg' he
   go_enter Tryd.func46,Tryd.ntmps46
   go_wp2_with fail;refine (Calls.mono HG.out ?_);rintro e w2 ⟨rfl,hb2⟩;have hB2:Below w.heap.size w w2:=hb1.trans (hb2.mono hb1.size);go_wp2_with fail;go_ret;exact ⟨by rw[HE.out];rfl,hB2⟩
end
end Go.Proofs.YtfdbipeidmpciaaDoor
