/- Bundled: Copy Told NodeB DocO. What each says stands ahead of it. -/
import Derived.Test.YtfdbipeidmpciaaBundle03
import Derived.Deep.RegionLaw
namespace Go.Proofs.Ytfdbipeidmpciaa
open Go.ChangeShapes Go.WideShapes Go.ChangeAt Go.RowKit
set_option maxRecDepth 100000
section
theorem xg {ops:Array Oper}{o:Oper}{a:Act}{w:World}{K:Act→World→Prop}{Q:Exit→Act→World→Prop}{E:Prop}
 (hg:o.guard=none) (x:Operand) (hop:o.op=Op.call { callee:=Callee.builtin Builtin.append,args:=#[.const (.slice none 0 0),x],argTypes:=#[27,27] })
 (S:Nat→Prop) (v:Value) (l:List (ByteArray × ByteArray)) (hx:a.eval x=v) (h:qc S w v l) (hl:l.length≤1048576)
 (hK:∀ v' w',qc (qy w.heap.size 65 w') w' v' l→Below w.heap.size w w'→K (a.put o.dst v') w') :
 if Region.wanted o (yielded ops a.tmps)=true then Oper.wp Try.prog o a w K Q else E:=by
 have hw:Region.wanted o (yielded ops a.tmps)=true:=by simp[Region.wanted,hg]
 rw[if_pos hw];obtain ⟨i0,hi,hz0,hz1,hz2⟩:=info_parts attrInfo;obtain ⟨ad,cap,rfl,h2,h3,h4⟩:=h;have hs:a.eval (.const (.slice none 0 0))=.slice none 0 0:=rfl;cases ad with
 | none =>
   have hn:l=[]:=by
    apply Classical.byContradiction;intro hne
    obtain ⟨b,o,ha,_⟩:=h4 hne;cases ha
   subst hn
   have hrun:(Builtin.append_ #[27,27] o.type #[.slice none 0 0,.slice none 0 cap]).run Try.prog w=.ok (.slice none 0 0) w:=by
    simp[Builtin.append_,run_underlying Try.underlying27,sizeOf,typeInfo,hi,Builtin.lenOf,Builtin.firstCells]
   simp only[List.length_nil]at hx
   unfold Oper.wp;simp[execOp,hop,resolve,invoke,builtin,hs,hx,hrun,Result.andThen];exact hK _ _ ⟨none,0,rfl,nR9 _,nZ9 _,fun hne=>absurd rfl hne⟩ (Below.refl _ _)
 | some ad =>
   have hcells:∀ j u,(attrCells l)[j]?=some u→w.cell? (ad.add j)=some u:=by
    by_cases hne:l=[]
    · subst hne;intro j u hj;simp[attrCells]at hj
    · obtain ⟨b, o, ha, _, hc⟩ := h4 hne;cases ha;intro j u hj;rw[Addr.add_lit];exact qc.cells hc j u hj
   obtain ⟨v',w',hrun,r1,r2,_⟩:=run_append_own (P:=Try.prog) w w.heap.size 27 o.type 65 i0 _ 2 32 Try.underlying27 hi hz0 hz1 hz2 rfl (by decide) (.slice none 0 0) 0 [] (World.ownsRow_nil w _ _ _) ad l.length cap (attrCells l) (qM l) hcells (zy l) (by unfold maxLen;omega) (by omega) (nR9 _)
   unfold Oper.wp;simp[execOp,hop,resolve,invoke,builtin,hs,hx,hrun,Result.andThen];refine hK _ _ (qc.of_owns (by simpa using r1)) ((Below.refl _ w).grown r2 (nR9 _) (fun k hk=>by simp[Value.ownBlock]at hk))
theorem zn {P:Program}{ops:Array Oper}{o:Oper}{a:Act}{w:World}{K:Act→World→Prop}{Q:Exit→Act→World→Prop}{E:Prop}
 (hg:o.guard=none) (f:FuncId) (args:Array Value) (hrun:(execOp a.eval o).run P w=.ok (.enter f args) w)
 (R:Value→World→Prop) (hc:Calls P f args w fun e w'=>∃ r,e=.returned r∧R r w')
 (hK:∀ r w',R r w'→K (a.put o.dst r) w') :
 if Region.wanted o (yielded ops a.tmps)=true then Oper.wp P o a w K Q else E:=by
 have hw:Region.wanted o (yielded ops a.tmps)=true:=by simp[Region.wanted,hg]
 rw[if_pos hw];unfold Oper.wp;rw[hrun,Oper.upon_enter];refine hc.mono ?_;rintro e w' ⟨r,rfl,hr⟩;exact hK r w' hr
structure yl (n:Nat) (tx:Bool) (s:ByteArray) (aa ka:Option Addr) (al ac kl kc:Nat) (w:World):Prop where
 c0:w.cell? ⟨n,0,none⟩=some (.bool tx)
 c1:w.cell? ⟨n,1,none⟩=some (.string s)
 c2:w.cell? ⟨n,2,none⟩=some (.slice aa al ac)
 c3:w.cell? ⟨n,3,none⟩=some (.slice ka kl kc)
 f:∀ j,w.frozen? ⟨n,j,none⟩=false
 r0:w.cell? ⟨n+1,0,none⟩=some (.bool false)
 r1:w.cell? ⟨n+1,1,none⟩=some (.string ⟨#[]⟩)
 r2:w.cell? ⟨n+1,2,none⟩=some (.slice none 0 0)
 r3:w.cell? ⟨n+1,3,none⟩=some (.slice none 0 0)
 rf:∀ j,w.frozen? ⟨n+1,j,none⟩=false
theorem yl.later {n B:Nat}{tx:Bool}{s:ByteArray}{aa ka:Option Addr}{al ac kl kc:Nat}{w w':World}(h:yl n tx s aa ka al ac kl kc w)(hb:Below B w w')(hn:n+1<B):yl n tx s aa ka al ac kl kc w' where
 c0:=by rw[hb.cell (p:=⟨n,0,none⟩) (by simp only;omega)];exact h.c0
 c1:=by rw[hb.cell (p:=⟨n,1,none⟩) (by simp only;omega)];exact h.c1
 c2:=by rw[hb.cell (p:=⟨n,2,none⟩) (by simp only;omega)];exact h.c2
 c3:=by rw[hb.cell (p:=⟨n,3,none⟩) (by simp only;omega)];exact h.c3
 f:=fun j=>by rw[hb.frozen (p:=⟨n,j,none⟩) (by simp only;omega)];exact h.f j
 r0:=by rw[hb.cell (p:=⟨n+1,0,none⟩) (by simp only;omega)];exact h.r0
 r1:=by rw[hb.cell (p:=⟨n+1,1,none⟩) (by simp only;omega)];exact h.r1
 r2:=by rw[hb.cell (p:=⟨n+1,2,none⟩) (by simp only;omega)];exact h.r2
 r3:=by rw[hb.cell (p:=⟨n+1,3,none⟩) (by simp only;omega)];exact h.r3
 rf:=fun j=>by rw[hb.frozen (p:=⟨n+1,j,none⟩) (by simp only;omega)];exact h.rf j
theorem yl.start (w:World)(tx:Bool)(s:ByteArray)(aa ka:Option Addr)(al ac kl kc:Nat) :
 yl w.heap.size tx s aa ka al ac kl kc ((w.alloc (.cells #[.bool tx,.string s,.slice aa al ac,.slice ka kl kc] 29)).alloc (.cells #[.bool false,.string ⟨#[]⟩,.slice none 0 0,.slice none 0 0] 29)):=by
 constructor<;>first|(simp[go_sem];done)|(intro j;simp[go_sem];done)
attribute [local go_sem] qe
def zD (n:Nat):Prop:=∀ (S:Nat→Prop)(v:Value)(ts:List Tr)(w:World),qa S w n v ts→Small n ts →
 Calls Try.prog 7 #[v] w fun e w'=>∃ r,e=.returned r∧(qa (fun b=>w.heap.size≤b) w' n r ts∧Below w.heap.size w w')
theorem jE (n:Nat)(h:zD n)(S:Nat→Prop)(va vk:Value)(t:Tr)(w:World)(ha:qc S w va t.attrs)(hk:qa S w n vk t.kids)(hl:t.attrs.length≤1048576)(hs:Small n t.kids) :
 Calls Try.prog 26 #[.agg #[.bool t.text,.string t.s,va,vk]] w fun e w'=>∃ va' vk',e=.returned (.agg #[.bool t.text,.string t.s,va',vk'])∧qc (fun b=>w.heap.size≤b) w' va' t.attrs∧qa (fun b=>w.heap.size≤b) w' n vk' t.kids∧Below w.heap.size w w':=by
 obtain ⟨aa,ac,rfl⟩:=ha.shape;obtain ⟨ka,kc,rfl,_,_⟩:=qa.shape n hk;have H:Hid (zD n):=h;clear h
 go_enter Try.func26,Try.ntmps26
 go_wp2_with fail;have hb0:Below w.heap.size w ((w.alloc (.cells #[.bool t.text,.string t.s,.slice aa t.attrs.length ac,.slice ka t.kids.length kc] 29)).alloc (.cells #[.bool false,.string ⟨#[]⟩,.slice none 0 0,.slice none 0 0] 29)):=(Below.alloc1 w _).alloc (by simp) _
 have hbox:=yl.start w t.text t.s aa ka t.attrs.length ac t.kids.length kc;obtain ⟨W0,hW0⟩:∃ W0,((w.alloc (.cells #[.bool t.text,.string t.s,.slice aa t.attrs.length ac,.slice ka t.kids.length kc] 29)).alloc (.cells #[.bool false,.string ⟨#[]⟩,.slice none 0 0,.slice none 0 0] 29))=W0:=⟨_,rfl⟩;have hsz:W0.heap.size=w.heap.size+1+1:=by rw[←hW0];simp
 rw[hW0]at hb0 hbox ⊢
 clear hW0;have hszl:w.heap.size+1<W0.heap.size:=by omega
 have HZ:Hid (W0.heap.size=w.heap.size+1+1):=hsz;clear hsz;obtain ⟨d0,d1,d2,d3,df,e0,e1,e2,e3,ef⟩:=id hbox;have hboxd:yl w.heap.size t.text t.s aa ka t.attrs.length ac t.kids.length kc W0.drew:=hbox.later (B:=W0.heap.size) (Below.refl _ _).drew hszl
 go_region_law (first
  | (refine xg (by rfl) (.tmp 4) (by rfl) S (.slice aa t.attrs.length ac) t.attrs (by simp[Act.eval]) (ha.later (by exact hb0.drew)) hl ?_;intro v1 w1 hA1 hB1;obtain ⟨a1,c1,rfl⟩:=hA1.shape;have hB01:Below w.heap.size w w1:=hb0.drew.trans (hB1.mono hb0.size);have hbox1:=hboxd.later hB1 (by exact hszl);have hszl1:w.heap.size+1<w1.heap.size:=Nat.lt_of_lt_of_le hszl hB1.size;obtain ⟨d0,d1,d2,d3,df,e0,e1,e2,e3,ef⟩:=id hbox1)
  | (refine zn (by rfl) 7 #[.slice ka t.kids.length kc] (by go_simp) _ (H.out S _ t.kids w1 (qa.later hB01 n hk) hs) ?_;intro v2 w2 hR2;obtain ⟨hT2,hB2⟩:=hR2;obtain ⟨a2,c2,rfl,_,_⟩:=qa.shape n hT2;have hbox2:=hbox1.later hB2 (by exact hszl1);obtain ⟨d0,d1,d2,d3,df,e0,e1,e2,e3,ef⟩:=id hbox2))
 all_goals
  go_wp2_with fail
  have e:∀ b x y z u p q,W0.heap.size≤b→((((((w2.setCell ⟨w.heap.size,2,none⟩ x).setCell ⟨w.heap.size,3,none⟩ y).setCell ⟨w.heap.size+1,0,none⟩ z).setCell ⟨w.heap.size+1,1,none⟩ u).setCell ⟨w.heap.size+1,2,none⟩ p).setCell ⟨w.heap.size+1,3,none⟩ q).heap[b]?=w2.heap[b]?:=by
   intro b x y z u p q hb;have:=HZ.out
   repeat rw[Below.heap_setCell _ _ _ _ (by simp only;omega)]
  refine bodyPost_ret (v:=.agg #[.bool t.text,.string t.s,.slice a1 t.attrs.length c1,.slice a2 t.kids.length c2]) (by simp[results,Try.results26,go_sem,qe,hbox2.r0,hbox2.r1,hbox2.r2,hbox2.r3,World.cell?_setCell_other]) rfl ⟨_,_,rfl,?_,?_,?_⟩
  · refine (hA1.own_later hB2).carry fun b hb => ?_
    have hbW:W0.heap.size≤b:=hb.1;exact ⟨by have:=HZ.out;omega,e b _ _ _ _ _ _ hbW⟩
  · refine qa.carry (fun b hb => ?_) n hT2
    have hbW:W0.heap.size≤b:=Nat.le_trans hB1.size hb;exact ⟨by have:=HZ.out;omega,e b _ _ _ _ _ _ hbW⟩
  · have h0 : Below w.heap.size w w2 := hB01.trans (hB2.mono hB01.size)
    repeat' (refine Below.setCell ?_ ?_ _)
    all_goals first|exact h0|(simp only;omega)
theorem copy_zero:zD 0:=by
 intro S v ts w h _;obtain ⟨rfl,a,cap,rfl,_⟩:=h
 go_enter Try.func7,Try.ntmps7
 go_wp2_with fail;go_rounds 1;go_ret;exact ⟨_,rfl,⟨rfl,none,0,rfl,nZ9 _⟩,Below.refl _ _⟩
end
def tell:Nat→List Tr→List UInt8
 | 0,_=>[]
 | n+1,ts=>ts.flatMap fun t=>(if t.text then t.s.data.toList else [])++tell n t.kids
def yo (n:Nat):Prop:=∀ (S:Nat→Prop)(v:Value)(ts:List Tr)(w:World),qa S w n v ts→(tell n ts).length≤1048576 →
 Calls Try.prog 14 #[v] w fun e w'=>e=.returned (.string (sOf (tell n ts)))∧Below w.heap.size w w'
theorem told_zero:yo 0:=by
 intro S v ts w h _;obtain ⟨rfl,a,cap,rfl,_⟩:=h
 go_enter Try.func14,Try.ntmps14
 go_wp2_with fail;go_rounds 1;go_ret;exact ⟨rfl,Below.refl _ _⟩
theorem xW (n:Nat)(h:yo n):yo (n+1):=by
 intro S v ts w h1 hl;have H:Hid (yo n):=h;clear h;obtain ⟨a,cap,rfl,_,hm,h4⟩:=h1;unfold maxLen at hm
 go_enter Try.func14,Try.ntmps14
 go_wp2_with fail
 go_loopg [8,3] ts.length (fun g i s wr=>∃ k:Nat,k+g=ts.length∧i=.int .i64 k∧s=.string (sOf (tell (n+1) (ts.take k)))∧Below w.heap.size w wr)
 case atStart => exact ⟨0,by omega,rfl,rfl,Below.refl _ _⟩
 case round =>
  obtain ⟨k,hk,rfl,rfl,hB⟩:=hrel
  by_cases hlt:k<ts.length
  · have hne : ts ≠ [] := by intro e;subst e;simp at hlt
    obtain ⟨b,o,rfl,hs,hcc⟩:=h4 hne;obtain ⟨t,ht⟩:∃ t,ts[k]?=some t:=⟨ts[k],by simp[hlt]⟩
    obtain ⟨va,vk,c0,c1,c2,c3,hat,hkt⟩:=hcc k t ht;obtain ⟨aa,ac,rfl⟩:=hat.shape;obtain ⟨ka,kc,rfl,_,_⟩:=qa.shape n hkt;have hbl:b<w.heap.size:=World.block_lt_of_cell? w _ c0;rw[←hB.cell (p:=⟨b,o+k*4,none⟩) hbl]at c0
    rw[←hB.cell (p:=⟨b,o+k*4+1,none⟩) hbl]at c1
    rw[←hB.cell (p:=⟨b,o+k*4+2,none⟩) hbl]at c2
    rw[←hB.cell (p:=⟨b,o+k*4+3,none⟩) hbl]at c3
    have hsn:ts.take (k+1)=ts.take k++[t]:=by
     rw[List.take_succ_eq_append_getElem hlt];congr 2;simpa[hlt] using ht
    have HS:Hid (tell (n+1) (ts.take (k+1))=tell (n+1) (ts.take k)++((if t.text then t.s.data.toList else [])++tell n t.kids)):=by
     show _=_
     rw[hsn];simp[tell]
    have hall:tell (n+1) ts=tell (n+1) (ts.take (k+1))++tell (n+1) (ts.drop (k+1)):=by
     show tell (n+1) ts=_
     conv=>lhs;rw[←List.take_append_drop (k+1) ts]
     simp only[tell,List.flatMap_append]
    have hlen:(tell (n+1) (ts.take k)).length+(if t.text then t.s.data.toList else []).length+(tell n t.kids).length≤1048576:=by
     rw[hall,HS.out]at hl
     simp only[List.length_append]at hl
     omega
    clear hcc h4 ht hsn hall;obtain ⟨L,hL⟩:∃ L,tell (n+1) (ts.take k)=L:=⟨_,rfl⟩;rw[hL]at hlen ⊢
    have HL:Hid (tell (n+1) (ts.take k)=L):=hL;clear hL;cases htx:t.text with
    | true =>
      rw[htx]at c0
      simp only[htx,if_true]at hlen
      have hsz:(sOf L).size+t.s.size≤1048576:=by
       rw[zf,qG t.s];omega
      go_wp2_with fail;rw[show sOf L++t.s=sOf (L++t.s.data.toList) from by rw[←zm,zH]]
      obtain ⟨M,hM⟩:∃ M,L++t.s.data.toList=M:=⟨_,rfl⟩
      have hszM:(sOf M).size+(sOf (tell n t.kids)).size≤1048576:=by
       rw[zf,zf,←hM,List.length_append];omega
      rw[hM];have HM:Hid (L++t.s.data.toList=M):=hM;clear hM;refine (H.out S _ t.kids _ (qa.later (hB.alloc hB.size _) n hkt) (by omega)).mono ?_
      rintro e w1 ⟨rfl,hb1⟩;go_wp2_with fail
      go_roundg (ts.length-(k+1))
      case measure => omega
      case rel =>
       refine ⟨k+1,by omega,by go_num,?_,(hB.alloc hB.size _).trans (hb1.mono (by have:=hB.size;simp;omega))⟩
       rw[zm,HS.out,HL.out,←HM.out,if_pos htx,List.append_assoc]
    | false =>
      rw[htx]at c0
      simp only[htx]at hlen
      have hszM:(sOf L).size+(sOf (tell n t.kids)).size≤1048576:=by
       rw[zf,zf];omega
      go_wp2_with fail;refine (H.out S _ t.kids _ (qa.later (hB.alloc hB.size _) n hkt) (by omega)).mono ?_
      rintro e w1 ⟨rfl,hb1⟩;go_wp2_with fail
      go_roundg (ts.length-(k+1))
      case measure => omega
      case rel =>
       refine ⟨k+1,by omega,by go_num,?_,(hB.alloc hB.size _).trans (hb1.mono (by have:=hB.size;simp;omega))⟩
       rw[zm,HS.out,HL.out,if_neg (by simp[htx]),List.nil_append]
  · have hkk : k = ts.length := by omega
    subst hkk;rw[List.take_length];go_wp2_with fail;go_ret;exact ⟨rfl,hB⟩
theorem yF (n:Nat):yo n:=by
 induction n with
 | zero=>exact told_zero
 | succ n ih=>exact xW n ih
structure Nd where
 text:Bool
 s:ByteArray
 attrs:List (ByteArray × ByteArray)
 parent:Int
 kids:List Int
def qH (S:Nat→Prop)(w:World)(v:Value)(l:List Int):Prop :=
  ∃ a cap, v = .slice a l.length cap ∧ l.length ≤ cap ∧ cap ≤ maxLen ∧
    (l≠[]→∃ b o,a=some ⟨b,o,none⟩∧S b∧∀ (i:Nat) (x:Int),l[i]?=some x→w.cell? ⟨b,o+i,none⟩=some (.int .i64 x))
def qo (S:Nat→Prop)(w:World)(v:Value)(ns:List Nd):Prop :=
  ∃ a cap, v = .slice a ns.length cap ∧ ns.length ≤ cap ∧ cap ≤ maxLen ∧
    (ns≠[]→∃ b o,a=some ⟨b,o,none⟩∧S b∧∀ (i:Nat) (x:Nd),ns[i]?=some x→∃ va vk,
      w.cell? ⟨b,o+i*5,none⟩=some (.bool x.text)∧w.cell? ⟨b,o+i*5+1,none⟩=some (.string x.s)∧w.cell? ⟨b,o+i*5+2,none⟩=some va ∧
      w.cell? ⟨b,o+i*5+3,none⟩=some (.int .i64 x.parent)∧w.cell? ⟨b,o+i*5+4,none⟩=some vk∧qc S w va x.attrs∧qH S w vk x.kids)
theorem qH.carry {S S':Nat→Prop}{w w':World}{v:Value}{l:List Int}(h:qH S w v l)(hw:∀ b,S b→S' b∧w'.heap[b]?=w.heap[b]?):qH S' w' v l:=by
 obtain ⟨a,cap,h1,h2,h3,h4⟩:=h;refine ⟨a,cap,h1,h2,h3,fun hne=>?_⟩
 obtain ⟨b,o,ha,hs,hc⟩:=h4 hne;refine ⟨b,o,ha,(hw b hs).1,fun i x hx=>?_⟩
 rw[World.cell?_of_block (a:=⟨b,o+i,none⟩) (hw b hs).2];exact hc i x hx
theorem qH.bounded {S:Nat→Prop}{w:World}{v:Value}{l:List Int}(h:qH S w v l):qH (fun b=>S b∧b<w.heap.size) w v l:=by
 obtain ⟨a,cap,h1,h2,h3,h4⟩:=h;refine ⟨a,cap,h1,h2,h3,fun hne=>?_⟩
 obtain ⟨b,o,ha,hs,hc⟩:=h4 hne;refine ⟨b,o,ha,⟨hs,?_⟩,hc⟩;cases l with
 | nil=>exact absurd rfl hne
 | cons x r=>exact World.block_lt_of_cell? w _ (hc 0 x rfl)
theorem qH.later {S:Nat→Prop}{w w':World}{v:Value}{l:List Int}(h:qH S w v l)(hb:Below w.heap.size w w'):qH S w' v l :=
 h.bounded.carry fun b hb'=>⟨hb'.1,hb.block b hb'.2⟩
theorem qH.shape {S:Nat→Prop}{w:World}{v:Value}{l:List Int}(h:qH S w v l):∃ a c,v=.slice a l.length c∧l.length≤c∧c≤maxLen:=by
 obtain ⟨a,cap,h1,h2,h3,_⟩:=h;exact ⟨a,cap,h1,h2,h3⟩
theorem qH.nil {S:Nat→Prop}{w:World}:qH S w (.slice none 0 0) []:=⟨none,0,rfl,Nat.le_refl _,Nat.zero_le _,fun h=>absurd rfl h⟩
theorem qo.carry {S S':Nat→Prop}{w w':World}{v:Value}{l:List Nd}(h:qo S w v l)(hw:∀ b,S b→S' b∧w'.heap[b]?=w.heap[b]?):qo S' w' v l:=by
 obtain ⟨a,cap,h1,h2,h3,h4⟩:=h;refine ⟨a,cap,h1,h2,h3,fun hne=>?_⟩
 obtain ⟨b,o,ha,hs,hc⟩:=h4 hne;refine ⟨b,o,ha,(hw b hs).1,fun i x hx=>?_⟩
 obtain ⟨va,vk,c0,c1,c2,c3,c4,hA,hK⟩:=hc i x hx;refine ⟨va,vk,?_,?_,?_,?_,?_,hA.carry hw,hK.carry hw⟩
 · rw[World.cell?_of_block (a:=⟨b,o+i*5,none⟩) (hw b hs).2];exact c0
 · rw[World.cell?_of_block (a:=⟨b,o+i*5+1,none⟩) (hw b hs).2];exact c1
 · rw[World.cell?_of_block (a:=⟨b,o+i*5+2,none⟩) (hw b hs).2];exact c2
 · rw[World.cell?_of_block (a:=⟨b,o+i*5+3,none⟩) (hw b hs).2];exact c3
 · rw[World.cell?_of_block (a:=⟨b,o+i*5+4,none⟩) (hw b hs).2];exact c4
theorem qo.bounded {S:Nat→Prop}{w:World}{v:Value}{l:List Nd}(h:qo S w v l):qo (fun b=>S b∧b<w.heap.size) w v l:=by
 obtain ⟨a,cap,h1,h2,h3,h4⟩:=h;refine ⟨a,cap,h1,h2,h3,fun hne=>?_⟩
 obtain ⟨b,o,ha,hs,hc⟩:=h4 hne;refine ⟨b,o,ha,⟨hs,?_⟩,fun i x hx=>?_⟩
 · cases l with
   | nil=>exact absurd rfl hne
   | cons x r =>
     obtain ⟨_,_,c0,_⟩:=hc 0 x rfl;exact World.block_lt_of_cell? w _ c0
 · obtain ⟨va, vk, c0, c1, c2, c3, c4, hA, hK⟩ := hc i x hx;exact ⟨va,vk,c0,c1,c2,c3,c4,hA.bounded,hK.bounded⟩
theorem qo.later {S:Nat→Prop}{w w':World}{v:Value}{l:List Nd}(h:qo S w v l)(hb:Below w.heap.size w w'):qo S w' v l :=
 h.bounded.carry fun b hb'=>⟨hb'.1,hb.block b hb'.2⟩
theorem qo.shape {S:Nat→Prop}{w:World}{v:Value}{l:List Nd}(h:qo S w v l):∃ a c,v=.slice a l.length c∧l.length≤c∧c≤maxLen:=by
 obtain ⟨a,cap,h1,h2,h3,_⟩:=h;exact ⟨a,cap,h1,h2,h3⟩
theorem qo.nil {S:Nat→Prop}{w:World}:qo S w (.slice none 0 0) []:=⟨none,0,rfl,Nat.le_refl _,Nat.zero_le _,fun h=>absurd rfl h⟩
theorem qo.at {S:Nat→Prop}{w:World}{v:Value}{ns:List Nd}(h:qo S w v ns){i:Nat}{x:Nd}(hx:ns[i]?=some x):∃ b o cap va vk,v=.slice (some ⟨b,o,none⟩) ns.length cap∧ns.length≤cap∧cap≤maxLen∧S b∧b<w.heap.size ∧
 w.cell? ⟨b,o+i*5,none⟩=some (.bool x.text)∧w.cell? ⟨b,o+i*5+1,none⟩=some (.string x.s)∧w.cell? ⟨b,o+i*5+2,none⟩=some va ∧
 w.cell? ⟨b,o+i*5+3,none⟩=some (.int .i64 x.parent)∧w.cell? ⟨b,o+i*5+4,none⟩=some vk∧qc S w va x.attrs∧qH S w vk x.kids:=by
 obtain ⟨a,cap,h1,h2,h3,h4⟩:=h;have hne:ns≠[]:=by intro e;subst e;simp at hx
 obtain ⟨b,o,rfl,hs,hc⟩:=h4 hne;obtain ⟨va,vk,c0,c1,c2,c3,c4,hA,hK⟩:=hc i x hx;exact ⟨b,o,cap,va,vk,h1,h2,h3,hs,World.block_lt_of_cell? w _ c0,c0,c1,c2,c3,c4,hA,hK⟩
theorem qH.at {S:Nat→Prop}{w:World}{v:Value}{l:List Int}(h:qH S w v l){i:Nat}{x:Int}(hx:l[i]?=some x):∃ b o cap,v=.slice (some ⟨b,o,none⟩) l.length cap∧S b∧b<w.heap.size∧w.cell? ⟨b,o+i,none⟩=some (.int .i64 x):=by
 obtain ⟨a,cap,h1,h2,h3,h4⟩:=h;have hne:l≠[]:=by intro e;subst e;simp at hx
 obtain ⟨b,o,rfl,hs,hc⟩:=h4 hne;exact ⟨b,o,cap,h1,hs,World.block_lt_of_cell? w _ (hc i x hx),hc i x hx⟩
structure CFr (cb:Nat) (w w':World):Prop where
 below:Below 0 w w'
 frame:∀ x,x<w.heap.size→x≠cb→w'.heap[x]?=w.heap[x]?
theorem CFr.refl (cb:Nat)(w:World):CFr cb w w:=⟨Below.refl _ _,fun _ _ _=>rfl⟩
theorem CFr.trans {cb:Nat}{w w1 w2:World}(h:CFr cb w w1)(k:CFr cb w1 w2):CFr cb w w2 :=
 ⟨h.below.trans k.below,fun x hx h1=>by rw[k.frame x (Nat.lt_of_lt_of_le hx h.below.size) h1,h.frame x hx h1]⟩
theorem CFr.put (cb:Nat)(w:World)(k:Nat)(v:Value):CFr cb w (w.setCell ⟨cb,k,none⟩ v):=⟨(Below.refl 0 w).setCell (Nat.zero_le _) _,fun _ _ h1=>Below.heap_setCell _ _ _ _ h1⟩
def Cnt (cb:Nat)(n:Nat)(w:World):Prop:=w.heap[cb]?=some (.cells #[.int .i64 (n:Int)] 3 (0,0))
theorem Cnt.lt {cb n:Nat}{w:World}(h:Cnt cb n w):cb<w.heap.size:=by
 rcases Nat.lt_or_ge cb w.heap.size with h'|h'
 · exact h'
 · simp[Cnt,Array.getElem?_eq_none h']at h
theorem Cnt.c0 {cb n:Nat}{w:World}(h:Cnt cb n w):w.cell? ⟨cb,0,none⟩=some (.int .i64 (n:Int)):=by rw[Lib.cell_of_heap h];rfl
theorem Cnt.f0 {cb n:Nat}{w:World}(h:Cnt cb n w):w.frozen? ⟨cb,0,none⟩=false:=Lib.frozen_of_heap h 0
theorem Cnt.put {cb n:Nat}{w:World}(h:Cnt cb n w)(m:Nat):Cnt cb m (w.setCell ⟨cb,0,none⟩ (.int .i64 (m:Int))):=by unfold Cnt at h ⊢;simp[World.setCell,Array.getElem?_modify,h]
theorem Cnt.later {cb n:Nat}{w w':World}(h:Cnt cb n w)(hb:Below w.heap.size w w'):Cnt cb n w':=by unfold Cnt;rw[hb.block cb h.lt];exact h
theorem qo.count {S:Nat→Prop}{cb:Nat}{w w':World}{v:Value}{l:List Nd}(h:qo S w v l)(hF:CFr cb w w')(hS:∀ b,S b→b≠cb):qo S w' v l :=
 h.bounded.carry fun b hb=>⟨hb.1,hF.frame b hb.2 (hS b hb.1)⟩
theorem qH.count {S:Nat→Prop}{cb:Nat}{w w':World}{v:Value}{l:List Int}(h:qH S w v l)(hF:CFr cb w w')(hS:∀ b,S b→b≠cb):qH S w' v l :=
 h.bounded.carry fun b hb=>⟨hb.1,hF.frame b hb.2 (hS b hb.1)⟩
section
attribute [local go_sem] qe
theorem zw (S:Nat→Prop)(v:Value)(ns:List Nd)(n:Int)(w:World)(h:qo S w v ns) :
 Calls Try.prog 32 #[v,.int .i64 n] w fun e w'=>e=.returned (.bool (decide (0≤n)&&decide (n<ns.length)))∧w'=w:=by
 obtain ⟨a,cap,rfl,_,_⟩:=h.shape;clear h
 by_cases h0:0≤n
 · by_cases h1 : n < ns.length
   · go_enter Try.func32, Try.ntmps32
     go_wp2;go_ret;exact ⟨by simp[h0,h1],rfl⟩
   · go_enter Try.func32, Try.ntmps32
     go_wp2;go_ret;exact ⟨by simp[h1],rfl⟩
 · go_enter Try.func32, Try.ntmps32
   go_wp2;go_ret;exact ⟨by simp;omega,rfl⟩
def qi (g:Nat→Bool × Nat):List Int→Nat→Bool × Nat
 | [],nx=>(true,nx)
 | k::ks,nx=>if k=(nx:Int)∧(g nx).1=true then qi g ks (g nx).2 else (false,if k=(nx:Int) then (g nx).2 else nx)
def ordF:Nat→List Nd→Int→Nat→Bool × Nat
 | 0,_,_,nx=>(false,nx)
 | f + 1, ns, par, nx => match ns[nx]? with
   | none=>(false,nx)
   | some x=>if x.parent=par then qi (ordF f ns nx) x.kids (nx+1) else (false,nx)
theorem xd {g:Nat→Bool × Nat}(hg:∀ n,n≤(g n).2):∀ (ks:List Int)(nx:Nat),nx≤(qi g ks nx).2:=by
 intro ks
 induction ks with
 | nil=>intro nx;exact Nat.le_refl _
 | cons k ks ih =>
   intro nx;unfold qi
   split
   · exact Nat.le_trans (hg nx) (ih _)
   · simp only
     split
     · exact hg nx
     · exact Nat.le_refl _
theorem ordF_ge:∀ (f:Nat)(ns:List Nd)(par:Int)(nx:Nat),nx≤(ordF f ns par nx).2:=by
 intro f
 induction f with
 | zero=>intro ns par nx;exact Nat.le_refl _
 | succ f ih =>
   intro ns par nx;unfold ordF
   split
   · exact Nat.le_refl _
   · split
     · exact Nat.le_trans (Nat.le_succ _) (xd (fun n=>ih ns nx n) _ _)
     · exact Nat.le_refl _
def xn (f:Nat):Prop:=∀ (S:Nat→Prop)(v:Value)(ns:List Nd)(par:Int)(cb nx:Nat)(w:World),qo S w v ns→(∀ b,S b→b≠cb)→Cnt cb nx w→ns.length≤80→ns.length<nx+f →
 Calls Try.prog 35 #[v,.int .i64 par,.pointer (some ⟨cb,0,none⟩)] w fun e w'=>e=.returned (.bool (ordF f ns par nx).1)∧Cnt cb (ordF f ns par nx).2 w'∧CFr cb w w'
set_option maxHeartbeats 1000000 in
theorem Qm (f:Nat)(ih:xn f):xn (f+1):=by
 intro S v ns par cb nx w hN hS hC hl hf;have IH:Hid (xn f):=ih;have HS:Hid (∀ b,S b→b≠cb):=hS;have HN:Hid (qo S w v ns):=hN;have c0:=hC.c0;have f0:=hC.f0;have HC:Hid (Cnt cb nx w):=hC;have HA:Hid _:=zw S v ns (nx:Int) w hN;have HO:Hid (ordF (f+1) ns par nx=match ns[nx]? with|none=>(false,nx)|some x=>if x.parent=par then qi (ordF f ns nx) x.kids (nx+1) else (false,nx)):=rfl
 have HF:Hid (ns.length<nx+(f+1)):=hf;clear ih hS hC hf;cases hx:ns[nx]? with
 | none =>
   have hge:ns.length≤nx:=List.getElem?_eq_none_iff.1 hx;have hb:(decide (0≤(nx:Int))&&decide ((nx:Int)<ns.length))=false:=by simp;omega
   rw[hb]at HA
   have HE:Hid (ordF (f+1) ns par nx=(false,nx)):=by show _=_;rw[HO.out,hx]
   obtain ⟨a,cap,rfl,_,_⟩:=hN.shape;clear hN hx HO hb hge
   go_enter Try.func35,Try.ntmps35
   go_wp2_with fail;refine (Calls.mono HA.out ?_);rintro e w1 ⟨rfl,rfl⟩;go_wp2_with fail;go_ret;exact ⟨by rw[HE.out];rfl,by rw[HE.out];exact HC.out,CFr.refl _ _⟩
 | some x =>
   have hlt:nx<ns.length:=by
    rcases Nat.lt_or_ge nx ns.length with h'|h'
    · exact h'
    · rw[List.getElem?_eq_none h']at hx;cases hx
   have hb:(decide (0≤(nx:Int))&&decide ((nx:Int)<ns.length))=true:=by simp;omega
   rw[hb]at HA
   obtain ⟨b,o,cap,va,vk,rfl,hlc,hcm,hSb,hbw,d0,d1,d2,d3,d4,hAt,hKi⟩:=hN.at hx
   obtain ⟨ka,kc,rfl,hkl,hkm⟩:=hKi.shape;unfold maxLen at hcm hkm
   have hbc:b≠cb:=HS.out b hSb
   by_cases hp:x.parent=par
   · have HE : Hid (ordF (f + 1) ns par nx = qi (ordF f ns nx) x.kids (nx + 1)) := by show _ = _;rw[HO.out, hx];simp only[hp, if_true]
     have hpn:(x.parent != par)=false:=by simp[hp]
     have HKI:Hid (qH S w (.slice ka x.kids.length kc) x.kids):=hKi;clear hN hx HO hb hp d0 d1 d2 hAt hKi
     go_enter Try.func35,Try.ntmps35
     go_wp2_with fail;refine (Calls.mono HA.out ?_);rintro e w1 ⟨rfl,rfl⟩;go_wp2_with fail;obtain ⟨G,hG⟩:∃ G,ordF f ns (nx:Int)=G:=⟨_,rfl⟩;have HGE:Hid (∀ n,n≤(G n).2):=by rw[←hG];exact fun n=>ordF_ge f ns _ n
     have HIH:Hid (∀ (m:Nat) (W:World),CFr cb w1 W→Cnt cb m W→nx+1≤m→Calls Try.prog 35 #[.slice (some ⟨b,o,none⟩) ns.length cap,.int .i64 (nx:Int),.pointer (some ⟨cb,0,none⟩)] W fun e w'=>e=.returned (.bool (G m).1)∧Cnt cb (G m).2 w'∧CFr cb W w'):=by
      intro m W hW hm hge;rw[←hG];exact IH.out S _ ns (nx:Int) cb m W (HN.out.count hW HS.out) HS.out hm hl (by have:=HF.out;omega)
     rw[hG]at HE
     clear hG IH
     go_loopg [37] x.kids.length (fun g j wr=>∃ (i m:Nat),i+g=x.kids.length∧j=.int .i64 (i:Int)∧Cnt cb m wr∧CFr cb w1 wr∧nx+1≤m∧qi G x.kids (nx+1)=qi G (x.kids.drop i) m)
     case atStart =>
      refine ⟨0,nx+1,by omega,rfl,?_,CFr.put _ _ _ _,Nat.le_refl _,rfl⟩
      have:=HC.out.put (nx+1)
      simpa using this
     case round =>
      obtain ⟨i,m,hi,rfl,hCm,hFr,hm,hK⟩:=hrel;have HCm:Hid (Cnt cb m wr):=hCm;have HK:Hid (qi G x.kids (nx+1)=qi G (x.kids.drop i) m):=hK;have e0:=hCm.c0;clear hCm hK c0 f0 d3 d4
      by_cases hil:i<x.kids.length
      · obtain ⟨k, hk⟩ : ∃ k, x.kids[i]? = some k := ⟨x.kids[i], by simp[hil]⟩
        obtain ⟨kb,ko,kc2,hkv,hSk,hkb,e1⟩:=(HKI.out.count hFr HS.out).at hk
        injection hkv with hka _ hkc
        subst hka hkc
        have hdr:x.kids.drop i=k::x.kids.drop (i+1):=by
         rw[List.drop_eq_getElem_cons hil];congr 1;simpa[hil] using hk
        have HKD:Hid (qi G (x.kids.drop i) m=if k=(m:Int)∧(G m).1=true then qi G (x.kids.drop (i+1)) (G m).2 else (false,if k=(m:Int) then (G m).2 else m)):=by show _=_;rw[hdr];rfl
        have hili:(i:Int)<(x.kids.length:Int):=by omega
        clear hdr hk
        by_cases hkm2:k=(m:Int)
        · have hne : (k != (m : Int)) = false := by simp[hkm2]
          have HCL:Hid _:=HIH.out m wr hFr HCm.out hm;obtain ⟨q,hq⟩:∃ q,(G m).1=q:=⟨_,rfl⟩;rw[hq]at HCL HKD
          clear hq;cases q with
          | true =>
            have HE2:Hid (qi G (x.kids.drop i) m=qi G (x.kids.drop (i+1)) (G m).2):=by show _=_;rw[HKD.out,if_pos ⟨hkm2,rfl⟩]
            clear HKD hkm2;go_wp2_with fail;refine (Calls.mono HCL.out ?_);rintro e w3 ⟨rfl,h1,h2⟩;go_wp2_with fail
            go_roundg (x.kids.length-(i+1))
            case measure => omega
            case rel => exact ⟨i+1,(G m).2,by omega,by go_num,h1,hFr.trans h2,Nat.le_trans hm (HGE.out m),by rw[HK.out,HE2.out]⟩
          | false =>
            have HE2:Hid (qi G (x.kids.drop i) m=(false,(G m).2)):=by show _=_;rw[HKD.out,if_neg (by simp),if_pos hkm2]
            clear HKD hkm2;go_wp2_with fail;refine (Calls.mono HCL.out ?_);rintro e w3 ⟨rfl,h1,h2⟩;go_wp2_with fail;go_ret;exact ⟨by rw[HE.out,HK.out,HE2.out];rfl,by rw[HE.out,HK.out,HE2.out];exact h1,hFr.trans h2⟩
        · have hne : (k != (m : Int)) = true := by simpa using hkm2
          have HE2:Hid (qi G (x.kids.drop i) m=(false,m)):=by show _=_;rw[HKD.out,if_neg (fun h=>hkm2 h.1),if_neg hkm2]
          clear HKD hkm2 HIH;go_wp2_with fail;go_ret;exact ⟨by rw[HE.out,HK.out,HE2.out];rfl,by rw[HE.out,HK.out,HE2.out];exact HCm.out,hFr⟩
      · have hdr : x.kids.drop i = [] := List.drop_of_length_le (by omega)
        have HE2:Hid (qi G (x.kids.drop i) m=(true,m)):=by show _=_;rw[hdr];rfl
        have hili:¬ (i:Int)<(x.kids.length:Int):=by omega
        clear hdr HIH;go_wp2_with fail;go_ret;exact ⟨by rw[HE.out,HK.out,HE2.out];rfl,by rw[HE.out,HK.out,HE2.out];exact HCm.out,hFr⟩
   · have HE : Hid (ordF (f + 1) ns par nx = (false, nx)) := by show _ = _;rw[HO.out, hx];simp only[hp, if_false]
     have hpn:(x.parent != par)=true:=by simpa using hp
     clear hN hx HO hb hp d0 d1 d2 hAt hKi
     go_enter Try.func35,Try.ntmps35
     go_wp2_with fail;refine (Calls.mono HA.out ?_);rintro e w1 ⟨rfl,rfl⟩;go_wp2_with fail;go_ret;exact ⟨by rw[HE.out];rfl,by rw[HE.out];exact HC.out,CFr.refl _ _⟩
theorem QE (f:Nat):xn f:=by
 induction f with
 | zero =>
   intro S v ns par cb nx w hN hS hC hl hf;have HA:Hid _:=zw S v ns (nx:Int) w hN;have hb:(decide (0≤(nx:Int))&&decide ((nx:Int)<ns.length))=false:=by simp;omega
   rw[hb]at HA
   obtain ⟨a,cap,rfl,_,_⟩:=hN.shape;have c0:=hC.c0;have HC:Hid (Cnt cb nx w):=hC;clear hN hb hS hC
   go_enter Try.func35,Try.ntmps35
   go_wp2_with fail;refine (Calls.mono HA.out ?_);rintro e w1 ⟨rfl,rfl⟩;go_wp2_with fail;go_ret;exact ⟨rfl,HC.out,CFr.refl _ _⟩
 | succ f ih=>exact Qm f ih
end
end Go.Proofs.Ytfdbipeidmpciaa
