/- topiaryref.CopyTrees and CopyTree: the same trees in new memory. Condition: at most 2^20 trees and attributes in each list. -/
import Derived.Test.YtfdbipeidmpciaaDoorFive04
import Derived.Deep.RegionLaw
namespace Go.Proofs.YtfdbipeidmpciaaDoor
open Go.ChangeShapes Go.WideShapes Go.ChangeAt Go.RowKit
set_option maxRecDepth 100000
section
theorem YU {ops:Array Oper}{o:Oper}{a:Act}{w:World}{K:Act→World→Prop}{Q:Exit→Act→World→Prop}{E:Prop}
 (hg:o.guard=none) (x:Operand) (hop:o.op=Op.call { callee:=Callee.builtin Builtin.append,args:=#[.const (.slice none 0 0),x],argTypes:=#[22,22] })
 (S:Nat→Prop) (v:Value) (l:List (ByteArray × ByteArray)) (hx:a.eval x=v) (h:qe S w v l) (hl:l.length≤1048576)
 (hK:∀ v' w',qe (qY w.heap.size 69 w') w' v' l→Below w.heap.size w w'→K (a.put o.dst v') w') :
 if Region.wanted o (yielded ops a.tmps)=true then Oper.wp Tryd.prog o a w K Q else E:=by
 have hw:Region.wanted o (yielded ops a.tmps)=true:=by simp[Region.wanted,hg]
 rw[if_pos hw];obtain ⟨i0,hi,hz0,hz1,hz2⟩:=info_parts attrInfo;obtain ⟨ad,cap,rfl,h2,h3,h4⟩:=h;have hs:a.eval (.const (.slice none 0 0))=.slice none 0 0:=rfl;cases ad with
 | none =>
   have hn:l=[]:=by
    apply Classical.byContradiction;intro hne
    obtain ⟨b,o,ha,_⟩:=h4 hne;cases ha
   subst hn
   have hrun:(Builtin.append_ #[22,22] o.type #[.slice none 0 0,.slice none 0 cap]).run Tryd.prog w=.ok (.slice none 0 0) w:=by
    simp[Builtin.append_,run_underlying Tryd.underlying22,sizeOf,typeInfo,hi,Builtin.lenOf,Builtin.firstCells]
   simp only[List.length_nil]at hx
   unfold Oper.wp;simp[execOp,hop,resolve,invoke,builtin,hs,hx,hrun,Result.andThen];exact hK _ _ ⟨none,0,rfl,nR9 _,nZ9 _,fun hne=>absurd rfl hne⟩ (Below.refl _ _)
 | some ad =>
   have hcells:∀ j u,(attrCells l)[j]?=some u→w.cell? (ad.add j)=some u:=by
    by_cases hne:l=[]
    · subst hne;intro j u hj;simp[attrCells]at hj
    · obtain ⟨b, o, ha, _, hc⟩ := h4 hne;cases ha;intro j u hj;rw[Addr.add_lit];exact qe.cells hc j u hj
   obtain ⟨v',w',hrun,r1,r2,_⟩:=run_append_own (P:=Tryd.prog) w w.heap.size 22 o.type 69 i0 _ 2 32 Tryd.underlying22 hi hz0 hz1 hz2 rfl (by decide) (.slice none 0 0) 0 [] (World.ownsRow_nil w _ _ _) ad l.length cap (attrCells l) (qL l) hcells (yb l) (by unfold maxLen;omega) (by omega) (nR9 _)
   unfold Oper.wp;simp[execOp,hop,resolve,invoke,builtin,hs,hx,hrun,Result.andThen];refine hK _ _ (qe.of_owns (by simpa using r1)) ((Below.refl _ w).grown r2 (nR9 _) (fun k hk=>by simp[Value.ownBlock]at hk))
theorem zU {P:Program}{ops:Array Oper}{o:Oper}{a:Act}{w:World}{K:Act→World→Prop}{Q:Exit→Act→World→Prop}{E:Prop}
 (hg:o.guard=none) (f:FuncId) (args:Array Value) (hrun:(execOp a.eval o).run P w=.ok (.enter f args) w)
 (R:Value→World→Prop) (hc:Calls P f args w fun e w'=>∃ r,e=.returned r∧R r w')
 (hK:∀ r w',R r w'→K (a.put o.dst r) w') :
 if Region.wanted o (yielded ops a.tmps)=true then Oper.wp P o a w K Q else E:=by
 have hw:Region.wanted o (yielded ops a.tmps)=true:=by simp[Region.wanted,hg]
 rw[if_pos hw];unfold Oper.wp;rw[hrun,Oper.upon_enter];refine hc.mono ?_;rintro e w' ⟨r,rfl,hr⟩;exact hK r w' hr
structure xB (n:Nat) (tx:Bool) (s:ByteArray) (aa ka:Option Addr) (al ac kl kc:Nat) (w:World):Prop where
 c0:w.cell? ⟨n,0,none⟩=some (.bool tx)
 c1:w.cell? ⟨n,1,none⟩=some (.string s)
 c2:w.cell? ⟨n,2,none⟩=some (.slice aa al ac)
 c3:w.cell? ⟨n,3,none⟩=some (.slice ka kl kc)
 f:∀ j,w.frozen? ⟨n,j,none⟩=false
 r0:w.cell? ⟨n+1,0,none⟩=some (.bool false)
 r1:w.cell? ⟨n+1,1,none⟩=some (.string ⟨#[]⟩)
 r2:w.cell? ⟨n+1,2,none⟩=some (.slice none 0 0)
 r3:w.cell? ⟨n+1,3,none⟩=some (.slice none 0 0)
 rf:∀ j,w.frozen? ⟨n+1,j,none⟩=false
theorem xB.later {n B:Nat}{tx:Bool}{s:ByteArray}{aa ka:Option Addr}{al ac kl kc:Nat}{w w':World}(h:xB n tx s aa ka al ac kl kc w)(hb:Below B w w')(hn:n+1<B):xB n tx s aa ka al ac kl kc w' where
 c0:=by rw[hb.cell (p:=⟨n,0,none⟩) (by simp only;omega)];exact h.c0
 c1:=by rw[hb.cell (p:=⟨n,1,none⟩) (by simp only;omega)];exact h.c1
 c2:=by rw[hb.cell (p:=⟨n,2,none⟩) (by simp only;omega)];exact h.c2
 c3:=by rw[hb.cell (p:=⟨n,3,none⟩) (by simp only;omega)];exact h.c3
 f:=fun j=>by rw[hb.frozen (p:=⟨n,j,none⟩) (by simp only;omega)];exact h.f j
 r0:=by rw[hb.cell (p:=⟨n+1,0,none⟩) (by simp only;omega)];exact h.r0
 r1:=by rw[hb.cell (p:=⟨n+1,1,none⟩) (by simp only;omega)];exact h.r1
 r2:=by rw[hb.cell (p:=⟨n+1,2,none⟩) (by simp only;omega)];exact h.r2
 r3:=by rw[hb.cell (p:=⟨n+1,3,none⟩) (by simp only;omega)];exact h.r3
 rf:=fun j=>by rw[hb.frozen (p:=⟨n+1,j,none⟩) (by simp only;omega)];exact h.rf j
theorem xB.start (w:World)(tx:Bool)(s:ByteArray)(aa ka:Option Addr)(al ac kl kc:Nat) :
 xB w.heap.size tx s aa ka al ac kl kc ((w.alloc (.cells #[.bool tx,.string s,.slice aa al ac,.slice ka kl kc] 25)).alloc (.cells #[.bool false,.string ⟨#[]⟩,.slice none 0 0,.slice none 0 0] 25)):=by
 constructor<;>first|(simp[go_sem];done)|(intro j;simp[go_sem];done)
attribute [local go_sem] qg
def jr (n:Nat):Prop:=∀ (S:Nat→Prop) (v:Value) (ts:List Tr) (w:World),qb S w n v ts→Small n ts →
 Calls Tryd.prog 22 #[v] w fun e w'=>∃ r,e=.returned r∧(qb (fun b=>w.heap.size≤b) w' n r ts∧Below w.heap.size w w')
theorem xg (n:Nat)(h:jr n)(S:Nat→Prop)(va vk:Value)(t:Tr)(w:World)(ha:qe S w va t.attrs)(hk:qb S w n vk t.kids)(hl:t.attrs.length≤1048576)(hs:Small n t.kids) :
 Calls Tryd.prog 10 #[.agg #[.bool t.text,.string t.s,va,vk]] w fun e w'=>∃ va' vk',e=.returned (.agg #[.bool t.text,.string t.s,va',vk'])∧qe (fun b=>w.heap.size≤b) w' va' t.attrs∧qb (fun b=>w.heap.size≤b) w' n vk' t.kids∧Below w.heap.size w w':=by
 obtain ⟨aa,ac,rfl⟩:=ha.shape;obtain ⟨ka,kc,rfl,_,_⟩:=qb.shape n hk;have H:Hid (jr n):=h;clear h
 go_enter Tryd.func10,Tryd.ntmps10
 go_wp2_with fail;have hb0:Below w.heap.size w ((w.alloc (.cells #[.bool t.text,.string t.s,.slice aa t.attrs.length ac,.slice ka t.kids.length kc] 25)).alloc (.cells #[.bool false,.string ⟨#[]⟩,.slice none 0 0,.slice none 0 0] 25)):=(Below.alloc1 w _).alloc (by simp) _
 have hbox:=xB.start w t.text t.s aa ka t.attrs.length ac t.kids.length kc;obtain ⟨W0,hW0⟩:∃ W0,((w.alloc (.cells #[.bool t.text,.string t.s,.slice aa t.attrs.length ac,.slice ka t.kids.length kc] 25)).alloc (.cells #[.bool false,.string ⟨#[]⟩,.slice none 0 0,.slice none 0 0] 25))=W0:=⟨_,rfl⟩;have hsz:W0.heap.size=w.heap.size+1+1:=by rw[←hW0];simp
 rw[hW0]at hb0 hbox ⊢
 clear hW0;have hszl:w.heap.size+1<W0.heap.size:=by omega
 have HZ:Hid (W0.heap.size=w.heap.size+1+1):=hsz;clear hsz;obtain ⟨d0,d1,d2,d3,df,e0,e1,e2,e3,ef⟩:=id hbox;have hboxd:xB w.heap.size t.text t.s aa ka t.attrs.length ac t.kids.length kc W0.drew:=hbox.later (B:=W0.heap.size) (Below.refl _ _).drew hszl
 go_region_law (first
  | (refine YU (by rfl) (.tmp 4) (by rfl) S (.slice aa t.attrs.length ac) t.attrs (by simp[Act.eval]) (ha.later (by exact hb0.drew)) hl ?_;intro v1 w1 hA1 hB1;obtain ⟨a1,c1,rfl⟩:=hA1.shape;have hB01:Below w.heap.size w w1:=hb0.drew.trans (hB1.mono hb0.size);have hbox1:=hboxd.later hB1 (by exact hszl);have hszl1:w.heap.size+1<w1.heap.size:=Nat.lt_of_lt_of_le hszl hB1.size;obtain ⟨d0,d1,d2,d3,df,e0,e1,e2,e3,ef⟩:=id hbox1)
  | (refine zU (by rfl) 22 #[.slice ka t.kids.length kc] (by go_simp) _ (H.out S _ t.kids w1 (qb.later hB01 n hk) hs) ?_;intro v2 w2 hR2;obtain ⟨hT2,hB2⟩:=hR2;obtain ⟨a2,c2,rfl,_,_⟩:=qb.shape n hT2;have hbox2:=hbox1.later hB2 (by exact hszl1);obtain ⟨d0,d1,d2,d3,df,e0,e1,e2,e3,ef⟩:=id hbox2))
 all_goals
  go_wp2_with fail
  have e:∀ b x y z u p q,W0.heap.size≤b→((((((w2.setCell ⟨w.heap.size,2,none⟩ x).setCell ⟨w.heap.size,3,none⟩ y).setCell ⟨w.heap.size+1,0,none⟩ z).setCell ⟨w.heap.size+1,1,none⟩ u).setCell ⟨w.heap.size+1,2,none⟩ p).setCell ⟨w.heap.size+1,3,none⟩ q).heap[b]?=w2.heap[b]?:=by
   intro b x y z u p q hb;have:=HZ.out
   repeat rw[Below.heap_setCell _ _ _ _ (by simp only;omega)]
  refine bodyPost_ret (v:=.agg #[.bool t.text,.string t.s,.slice a1 t.attrs.length c1,.slice a2 t.kids.length c2]) (by simp[results,Tryd.results10,go_sem,qg,hbox2.r0,hbox2.r1,hbox2.r2,hbox2.r3,World.cell?_setCell_other]) rfl ⟨_,_,rfl,?_,?_,?_⟩
  · refine (hA1.own_later hB2).carry fun b hb => ?_
    have hbW:W0.heap.size≤b:=hb.1;exact ⟨by have:=HZ.out;omega,e b _ _ _ _ _ _ hbW⟩
  · refine qb.carry (fun b hb => ?_) n hT2
    have hbW:W0.heap.size≤b:=Nat.le_trans hB1.size hb;exact ⟨by have:=HZ.out;omega,e b _ _ _ _ _ _ hbW⟩
  · have h0 : Below w.heap.size w w2 := hB01.trans (hB2.mono hB01.size)
    repeat' (refine Below.setCell ?_ ?_ _)
    all_goals first|exact h0|(simp only;omega)
theorem copy_zero:jr 0:=by
 intro S v ts w h _;obtain ⟨rfl,a,cap,rfl,_⟩:=h
 go_enter Tryd.func22,Tryd.ntmps22
 go_wp2_with fail;go_rounds 1;go_ret;exact ⟨_,rfl,⟨rfl,none,0,rfl,nZ9 _⟩,Below.refl _ _⟩
end
end Go.Proofs.YtfdbipeidmpciaaDoor
