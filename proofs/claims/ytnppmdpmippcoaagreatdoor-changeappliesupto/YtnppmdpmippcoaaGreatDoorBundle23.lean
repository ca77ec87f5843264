/- Bundled: RevW AllW GrownW NewM NewW OpsC. What each says stands ahead of it. -/
import Derived.Test.YtnppmdpmippcoaaGreatDoorBundle21
import Derived.Test.YtnppmdpmippcoaaGreatDoorBundle22
namespace Go.Proofs.YtnppmdpmippcoaaGreatDoor
open Go.ChangeShapes Go.WideShapes Go.ChangeAt Go.RowKit Go.Sort
set_option maxRecDepth 100000
structure Orw where
 kind:Int
 target:Int
 ca:Option Addr
 cl:Nat
 cc:Nat
 name:ByteArray
 s:ByteArray
instance:Inhabited Orw:=⟨⟨0,0,none,0,0,⟨#[]⟩,⟨#[]⟩⟩⟩
def Orw.vc (r:Orw):Value:=.slice r.ca r.cl r.cc
def QI (r:Orw):List Value:=[.int .i64 r.kind,.int .i64 r.target,r.vc,.string r.name,.string r.s]
def zD (l:List Orw):List Value:=l.flatMap QI
theorem yw (l:List Orw):(zD l).length=l.length*5:=by
 induction l with
 | nil=>rfl
 | cons r l ih=>unfold zD at ih ⊢;rw[List.flatMap_cons,List.length_append,ih,List.length_cons];show 5+_=_;omega
theorem orCells_get:∀ (l:List Orw)(i c:Nat)(r:Orw),l[i]?=some r→c<5→(zD l)[i*5+c]?=(QI r)[c]?:=by
 intro l
 induction l with
 | nil=>intro i c r h;simp at h
 | cons a l ih =>
   intro i c r h hc;unfold zD;rw[List.flatMap_cons];cases i with
   | zero =>
     simp at h
     subst h;rw[List.getElem?_append_left (by show _<5;omega)]
     congr 1
     omega
   | succ i =>
     rw[List.getElem?_append_right (by show 5≤_;omega),show (i+1)*5+c-(QI a).length=i*5+c from by show (i+1)*5+c-5=_;omega]
     exact ih i c r (by simpa using h) hc
def YZ (T:Nat→Prop)(w:World)(n:Nat)(r:Orw)(x:Opn):Prop:=r.kind=x.kind∧r.target=x.target∧r.name=x.name∧r.s=x.s∧∃ ca cc,r.vc=.slice ca x.content.length cc∧qw T w n (.slice ca x.content.length cc) x.content
theorem jR.raw {S T:Nat→Prop}{w:World}{n:Nat}{ad:Addr}{m cap:Nat}{l:List Opn}(h:jR S T w n (.slice (some ad) m cap) l):∃ rs:List Orw,rs.length=l.length∧(∀ (i:Nat) r x,rs[i]?=some r→l[i]?=some x→YZ T w n r x)∧∀ j u,(zD rs)[j]?=some u→w.cell? (ad.add j)=some u:=by
 obtain ⟨a,cap',hv,h2,h3,h4⟩:=h
 injection hv with hv _ _
 have h4:l≠[]→∃ b o,some ad=some (⟨b,o,none⟩:Addr)∧S b∧∀ (i:Nat) (x:Opn),l[i]?=some x→∃ ca cc,
  w.cell? ⟨b,o+i*5,none⟩=some (.int .i64 x.kind)∧w.cell? ⟨b,o+i*5+1,none⟩=some (.int .i64 x.target)∧w.cell? ⟨b,o+i*5+2,none⟩=some (.slice ca x.content.length cc) ∧
  w.cell? ⟨b,o+i*5+3,none⟩=some (.string x.name)∧w.cell? ⟨b,o+i*5+4,none⟩=some (.string x.s)∧qw T w n (.slice ca x.content.length cc) x.content:=by rw[hv];exact h4
 by_cases hne:l=[]
 · subst hne;exact ⟨[],rfl,by simp,by simp[zD]⟩
 · obtain ⟨b, o, ha, hs, hc⟩ := h4 hne
   injection ha with ha
   obtain ⟨rs,hrl,hrs⟩:=QM (p:=fun i (r:Orw)=>∀ x,l[i]?=some x→YZ T w n r x∧w.cell? ⟨b,o+i*5,none⟩=some (.int .i64 r.kind)∧w.cell? ⟨b,o+i*5+1,none⟩=some (.int .i64 r.target)∧w.cell? ⟨b,o+i*5+2,none⟩=some r.vc∧w.cell? ⟨b,o+i*5+3,none⟩=some (.string r.name)∧w.cell? ⟨b,o+i*5+4,none⟩=some (.string r.s)) l.length (fun i hi=>by
    obtain ⟨ca,cc,c0,c1,c2,c3,c4,hT⟩:=hc i l[i] (List.getElem?_eq_getElem hi);refine ⟨⟨l[i].kind,l[i].target,ca,l[i].content.length,cc,l[i].name,l[i].s⟩,fun x hx=>?_⟩
    rw[List.getElem?_eq_getElem hi]at hx
    obtain rfl:=Option.some.inj hx;exact ⟨⟨rfl,rfl,rfl,rfl,ca,cc,rfl,hT⟩,c0,c1,c2,c3,c4⟩)
   have hget:∀ i r,rs[i]?=some r→∃ x,l[i]?=some x:=fun i r hr=>by
    have:=qy hr;exact ⟨l[i]'(by omega),List.getElem?_eq_getElem (by omega)⟩
   refine ⟨rs,hrl,fun i r x hr hx=>(hrs i r hr x hx).1,fun j u hj=>?_⟩
   have hjl:=qy hj;rw[yw]at hjl
   obtain ⟨r,hr⟩:∃ r,rs[j / 5]?=some r:=⟨rs[j / 5]'(by omega),List.getElem?_eq_getElem (by omega)⟩
   obtain ⟨x,hx⟩:=hget _ _ hr;obtain ⟨_,c0,c1,c2,c3,c4⟩:=hrs _ r hr x hx;have hcg:=orCells_get rs (j / 5) (j % 5) r hr (by omega)
   rw[show j / 5*5+j % 5=j by omega,hj]at hcg
   rw[ha,Addr.add_lit]
   rcases (by omega:j % 5=0∨j % 5=1∨j % 5=2∨j % 5=3∨j % 5=4) with e|e|e|e|e
   · rw[e]at hcg;rw[show o+j=o+j / 5*5 by omega,c0];exact hcg.symm
   · rw[e]at hcg;rw[show o+j=o+j / 5*5+1 by omega,c1];exact hcg.symm
   · rw[e]at hcg;rw[show o+j=o+j / 5*5+2 by omega,c2];exact hcg.symm
   · rw[e]at hcg;rw[show o+j=o+j / 5*5+3 by omega,c3];exact hcg.symm
   · rw[e]at hcg;rw[show o+j=o+j / 5*5+4 by omega,c4];exact hcg.symm
theorem JO {T:Nat→Prop}{B:Nat}{w:World}{n:Nat}{v:Value}{l:List Opn}{rs:List Orw}(h:w.ownsRow B 30 5 v l.length (zD rs))(hl:rs.length=l.length)(hr:∀ (i:Nat) r x,rs[i]?=some r→l[i]?=some x→YZ T w n r x):jR (fun b=>v.ownBlock=some b) T w n v l:=by
 have h0:=h
 rcases h.2 with ⟨rfl,hz⟩|⟨g,cap,cur,rfl,hB,hg,hc,hm,hs,ht⟩
 · have : l = [] := List.eq_nil_of_length_eq_zero hz;subst this;exact ⟨none,0,rfl,nR9 _,nZ9 _,fun hne=>absurd rfl hne⟩
 · refine ⟨_, cap, rfl, hc, hm, fun _ => ⟨g, 0, rfl, rfl, fun i x hx => ?_⟩⟩
   have hi:=qy hx;obtain ⟨r,hri⟩:∃ r,rs[i]?=some r:=⟨rs[i]'(by omega),List.getElem?_eq_getElem (by omega)⟩
   obtain ⟨e1,e2,e3,e4,ca,cc,e5,hT⟩:=hr i r x hri hx
   have cell:∀ c,c<5→w.cell? ⟨g,i*5+c,none⟩=(QI r)[c]?:=fun c hc=>by
    rw[World.ownsRow.cellAt h0 (i*5+c) (by omega)]
    exact orCells_get rs i c r hri hc
   refine ⟨ca,cc,?_,?_,?_,?_,?_,hT⟩
   · rw[Nat.zero_add,←e1];exact cell 0 (by omega)
   · rw[Nat.zero_add,←e2];exact cell 1 (by omega)
   · rw[Nat.zero_add,←e5];exact cell 2 (by omega)
   · rw[Nat.zero_add,←e3];exact cell 3 (by omega)
   · rw[Nat.zero_add,←e4];exact cell 4 (by omega)
theorem opInfo:(Tryz.prog.info? 30).map (fun i=>(i.zero,i.size,i.bytes))=some (some (.agg #[.int .i64 0,.int .i64 0,.slice none 0 0,.string ⟨#[]⟩,.string ⟨#[]⟩]),5,72):=by kernel_rfl
theorem opAgg:∀ w,(isAgg 30).run Tryz.prog w=.ok true w:=fun _=>by rfl
theorem opSize:∀ w,(Go.sizeOf 30).run Tryz.prog w=.ok 5 w:=fun _=>by rfl
theorem Jj (r:Orw):∀ u∈QI r,u.oneCell'=true:=by
 intro u hu;simp[QI]at hu
 rcases hu with rfl|rfl|rfl|rfl|rfl<;>rfl
theorem Xl (S T:Nat→Prop)(n:Nat)(v:Value)(l:List Opn)(w:World)(h:jR S T w n v l)(hl:l.length≤1048576) :
 Calls Tryz.prog 58 #[v] w fun e w'=>∃ v' rs,e=.returned v'∧w'.ownsRow w.heap.size 30 5 v' l.length (zD rs)∧rs.length=l.length∧(∀ (i:Nat) r x,rs[i]?=some r→l[i]?=some x→YZ T w n r x)∧Below w.heap.size w w':=by
 have h0:=h;obtain ⟨a,cap,rfl,h2,h3,h4⟩:=h;obtain ⟨i0,hi,hz0,hz1,hz2⟩:=info_parts opInfo;have q27:∀ (w:World) (a:Option Addr) (n c n' c':Nat),(binOp .eql 25 (.slice a n c) (.slice none n' c')).run Tryz.prog w=.ok (.bool a.isNone) w:=fun w a n c n' c'=>Lib.run_eql_slice_nil w _ _ a n c n' c' Tryz.underlying25
 cases a with
 | none =>
   have hn:l=[]:=by
    apply Classical.byContradiction;intro hne
    obtain ⟨b,o,ha,_⟩:=h4 hne;cases ha
   subst hn
   go_enter Tryz.func58,Tryz.ntmps58
   go_wp2;go_ret;exact ⟨_,[],rfl,World.ownsRow_nil _ _ _ _,rfl,by simp,Below.refl _ _⟩
 | some ad =>
   obtain ⟨rs,hrl,hrr,hcells⟩:=h0.raw;have A:Hid (∀ j u,(zD rs)[j]?=some u→w.cell? (ad.add j)=some u):=hcells
   have H1:Hid (∀ u∈zD rs,u.oneCell'=true):=by
    intro u hu;obtain ⟨r,hr,hu⟩:=List.mem_flatMap.1 hu;exact Jj r u hu
   have HR:Hid _:=hrr;have hcl:=yw rs;clear hcells h4 h0 hrr
   go_enter Tryz.func58,Tryz.ntmps58
   go_wp2_with (at_builtin;refine wpList_append_own _ rfl _ _ 25 rfl w.heap.size 30 i0 _ 5 72 Tryz.underlying25 hi hz0 hz1 hz2 rfl (by decide) _ _ _ rfl (World.ownsRow_made w #[] 0 (nR9 _) (nZ9 _) (by simp)) ad l.length cap (zD rs) rfl ?qc1 ?qc2 ?qc3 ?qc4 ?qc5 ?qc6 ?_)
   case qc1 => omega
   case qc2 =>
    intro j u hj;exact Lib.cell?_alloc_some _ (A.out j u hj)
   case qc3 => exact H1.out
   case qc4 => unfold maxLen;omega
   case qc5 => omega
   case qc6 => simp
   intro v' w1 hown hgrow hnil;go_wp2;go_ret;refine ⟨v',rs,rfl,by simpa using hown,hrl,HR.out,?_⟩
   exact ((Below.refl _ w).alloc (nR9 _) _).grown hgrow (by simp) (by intro k hk;simp[Value.ownBlock]at hk;omega)
theorem qbo (rs:List Orw):(flatK QI 5 rs.toArray).toList=zD rs:=by
 apply List.ext_getElem?
 intro j
 by_cases hj:j<rs.length*5
 · obtain ⟨r, hr⟩ : ∃ r, rs[j / 5]? = some r := ⟨rs[j / 5]'(by omega), List.getElem?_eq_getElem (by omega)⟩
   have hg:=orCells_get rs (j / 5) (j % 5) r hr (by omega)
   rw[show j / 5*5+j % 5=j by omega]at hg
   rw[hg,Array.getElem?_toList,Array.getElem?_eq_getElem (by simpa using hj)]
   have h2:=get_flatK QI 5 rs.toArray j (by simpa using hj)
   rw[getElem!_pos _ j (by simpa using hj)]at h2
   rw[h2,getElem!_pos _ (j / 5) (by simp;omega)]
   have he:rs.toArray[j / 5]'(by simp;omega)=r:=by
    rw[List.getElem?_eq_getElem (by omega)]at hr
    simpa using Option.some.inj hr
   rw[he,getElem!_pos _ (j % 5) (by show _<5;omega),List.getElem?_eq_getElem]
 · rw[List.getElem?_eq_none (by simpa using hj),List.getElem?_eq_none (by rw[yw];omega)]
theorem YN (B:Nat)(v:Value)(rs:List Orw)(w:World)(h:w.ownsRow B 30 5 v rs.length (zD rs))(hl:rs.length≤1048576) :
 Calls Tryz.prog 59 #[v] w fun e w'=>e=.returned (.tuple #[])∧w'.ownsRow B 30 5 v rs.length (zD rs.reverse)∧Below 0 w w'∧∀ b,v.ownBlock≠some b→w'.heap[b]?=w.heap[b]?:=by
 have h0:=h
 rcases h.2 with ⟨rfl,hz⟩|⟨g,cap,cur,rfl,hB,hg,hc,hm,hs,ht⟩
 · have : rs = [] := List.eq_nil_of_length_eq_zero hz;subst this;refine Calls.mono (AnyQ.slices_Reverse_empty Tryz.revO none 0 w) ?_;rintro e w' ⟨rfl,rfl⟩;exact ⟨rfl,h0,Below.refl _ _,fun _ _=>rfl⟩
 · have hH:HoldsK QI 5 w g 0 rs.toArray:=by
    intro j hj;have hj2:j<rs.length*5:=by simpa using hj
    refine ⟨?_,fH9 hg _⟩;rw[Nat.zero_add,World.ownsRow.cellAt h0 j (by omega),←qbo rs,Array.getElem?_toList,Array.getElem?_eq_getElem (by simpa using hj),getElem!_pos _ j (by simpa using hj)]
    rfl
   have hcon:=AnyQ.slices_Reverse Tryz.revO 5 opAgg opSize QI (fun _=>rfl) Jj g 0 cap rs.toArray w hH (by simp;omega)
   rw[show rs.toArray.size=rs.length from by simp]at hcon
   refine Calls.mono hcon ?_;rintro e w' ⟨rfl,q,rfl⟩;have hrev:rs.toArray.reverse=rs.reverse.toArray:=by simp
   rw[hrev];have hlt:=qA hg
   have hheap:(putRowK QI 5 (Sort.ahead w q) g 0 rs.reverse.toArray).heap[g]?=some (.cells (putCells id 0 (flatK QI 5 rs.reverse.toArray) cur) 30 (0,0)):=by
    simp[putRowK,putRow,mapBlock,Sort.ahead,Array.getElem?_modify,hg,onCells]
   have hother:∀ b,b≠g→(putRowK QI 5 (Sort.ahead w q) g 0 rs.reverse.toArray).heap[b]?=w.heap[b]?:=by
    intro b hne;have:¬ g=b:=fun e=>hne e.symm
    simp[putRowK,putRow,mapBlock,Sort.ahead,Array.getElem?_modify,this]
   refine ⟨rfl,⟨by rw[yw,List.length_reverse],Or.inr ⟨g,cap,_,rfl,hB,hheap,hc,hm,by simp[putCells,hs],?_⟩⟩,⟨rfl,rfl,rfl,?_,fun b hb=>by omega⟩,fun b hb=>hother b (fun e=>hb (by rw[e];rfl))⟩
   · apply List.ext_getElem?
     intro j
     by_cases hj:j<rs.length*5
     · have hjc : j < cur.size := by have : rs.length * 5 ≤ cap * 5 := Nat.mul_le_mul_right _ hc;omega
       rw[List.getElem?_take_of_lt hj,←qbo rs.reverse,Array.getElem?_toList,Array.getElem?_toList];simp[putCells,hjc,hj]
     · rw[List.getElem?_take_eq_none (by omega),List.getElem?_eq_none (by rw[yw,List.length_reverse];omega)]
   · simp[putRowK,putRow,mapBlock,Sort.ahead]
end Go.Proofs.YtnppmdpmippcoaaGreatDoor
namespace Go.Proofs.YtnppmdpmippcoaaGreatDoor
open Go.ChangeShapes Go.WideShapes Go.ChangeAt Go.RowKit
set_option maxRecDepth 100000
section
attribute [local go_sem] qD
theorem Ji {k:Int}{σ:Nat→Sg}{l:List Opn}{i:Nat}{o:Opn}(h:l[i]?=some o):doF k σ (l.take (i+1))=if o.kind=k then upd (doF k σ (l.take i)) o.target.toNat (gOf k o) else doF k σ (l.take i):=by
 have hs:l.take (i+1)=l.take i++[o]:=by
  rw[List.take_succ_eq_append_getElem (qy h)]
  congr 2
  rw[List.getElem?_eq_getElem (qy h)]at h
  exact Option.some.inj h
 unfold doF;rw[hs,List.foldl_append];rfl
theorem KO {l:List Opn}{i:Nat}{o:Opn}(h:l[i]?=some o):l.drop i=o::l.drop (i+1):=by
 rw[←List.getElem_cons_drop (qy h)];rw[List.getElem?_eq_getElem (qy h)]at h
 rw[Option.some.inj h]
structure Ph (B:Nat) (T:Nat→Prop) (ns0:List Nd) (bb:Nat) (w:World) (v:Value) (ms:List Rw) (Q:List Opn→(Nat→Sg)→Prop) (σ:Nat→Sg) (ns:List Nd) (m:Nat) (w':World):Prop where
 did:Did B T ns0.length bb w w' v ms ns
 bch:Bch ns0 σ ns
 q:Q [] σ
 bnd:Bnd m ns
theorem Vd {B:Nat}{T:Nat→Prop}{bb:Nat}{ns0:List Nd}(hg:qM ns0=true)(fm:Nat)(k:Int)(hk:1≤k∧k≤10)(eg:∀ args w,(callFunc fm args).run Tryz.prog w=.ok (.enter fm args) w)(Q:List Opn→(Nat→Sg)→Prop)
 (hQ:∀ o rest σ,Q (o::rest) σ→(o.kind=k→Q rest (upd σ o.target.toNat (gOf k o)))∧(o.kind≠k→Q rest σ))
 (hB:∀ o rest σ,o.kind=k→Q (o::rest) σ→(k≤6→∀ n,(σ n).val=none)∧(k=3∨k=4∨k=6→(σ o.target.toNat).gone=false))
 (hM:∀ σ ns m o rest n x y,o.kind=k→Rdy ns0 ns σ m o n x y→Q (o::rest) σ→y5 B T ns0.length bb 8 fm k ns o∧Bnd (m+81) (zg 8 k ns o))
 (Sr:Nat→Prop) (vl v:Value) (l:List Opn) (ns:List Nd) (ms:List Rw) (w:World) (σ:Nat→Sg) (m:Nat) (hw:∀ o∈l,ze ns0 o=0) (hX:Bx B T ns0.length bb w v ns ms) (hl:jR Sr T w (8+1) vl l) (hSr:∀ b,Sr b→b<w.heap.size∧b≠bb∧¬ Tch ns0.length v ms b)
 (hb:Bch ns0 σ ns) (hq:Q l σ) (hbn:Bnd m ns) (lo:80≤m) (hi:m+81*l.length≤1000000) :
 Calls Tryz.prog 60 #[vl,.int .i64 k,.func (.func fm) #[.pointer (some ⟨bb,0,none⟩)] #[]] w fun e w'=>e=.returned (.tuple #[])∧Ph B T ns0 bb w v ms Q (doF k σ l) (doN 8 k ns l) (m+81*l.length) w':=by
 refine (Xo B T ns0.length bb 8 fm k eg Sr vl v l ns ms w hX hl hSr (fun i ns'=>Bch ns0 (doF k σ (l.take i)) ns'∧Q (l.drop i) (doF k σ (l.take i))∧Bnd (m+81*i) ns') ⟨hb,hq,hbn⟩ ?_).mono ?_
 · rintro i o ns' ho ⟨h1, h2, h3⟩;have hil:=qy ho;rw[KO ho]at h2
   obtain ⟨q1,q2⟩:=hQ o _ _ h2;refine ⟨fun hok=>?_,fun hok=>?_⟩
   · have hwo := hw o (List.mem_of_getElem? ho);obtain ⟨hv,hgo⟩:=hB o _ _ hok h2;obtain ⟨n,x,y,hR⟩:=qbH hg h1 hwo h3 (by omega) (by omega)
     obtain ⟨m1,m2⟩:=hM _ _ _ o _ n x y hok hR h2;refine ⟨m1,?_⟩;have hst:=h1.step hg (jq hwo).1 (by rw[hok];exact hk) (fun h=>hv (by rw[←hok];exact h)) (fun h=>hgo (by rw[←hok];exact h))
     rw[hok]at hst
     rw[Ji ho,if_pos hok];exact ⟨hst,q1 hok,by rw[show m+81*(i+1)=m+81*i+81 by omega];exact m2⟩
   · rw[Ji ho, if_neg hok];exact ⟨h1,q2 hok,h3.more (by omega)⟩
 · rintro e w' ⟨rfl, hD, h1, h2, h3⟩;rw[List.take_length]at h1 h2
   rw[List.drop_length]at h2
   exact ⟨rfl,hD,h1,h2,h3⟩
def Q1 (_:List Opn)(σ:Nat→Sg):Prop:=∀ n,(σ n).val=none∧(σ n).gone=false∧UpA (σ n).attrs
def Q5 (_:List Opn)(σ:Nat→Sg):Prop:=∀ n,(σ n).val=none
def Q7 (_:List Opn)(_:Nat→Sg):Prop:=True
def Q6 (rest:List Opn)(σ:Nat→Sg):Prop:=(∀ n,(σ n).val=none)∧(∀ o∈rest,o.kind=6→(σ o.target.toNat).gone=false)∧rest.Pairwise (fun a b=>agB a b=false)∧∀ o∈rest,0≤o.target
theorem xe {k:Int}(hk:k=8∨k=9∨k=10∨k=3∨k=2∨k=1∨k=4):∀ o rest σ,Q1 (o::rest) σ→(o.kind=k→Q1 rest (upd σ o.target.toNat (gOf k o)))∧(o.kind≠k→Q1 rest σ):=by
 intro o rest σ h;refine ⟨fun _ n=>?_,fun _=>h⟩
 unfold upd
 split
 · obtain ⟨h1, h2, h3⟩ := h n
   rcases hk with rfl|rfl|rfl|rfl|rfl|rfl|rfl
   · exact ⟨h1,h2,h3⟩
   · exact ⟨h1,h2,qbL h3 _ _⟩
   · exact ⟨h1,h2,qbK h3 _⟩
   · exact ⟨h1,h2,h3⟩
   · exact ⟨h1,h2,h3⟩
   · exact ⟨h1,h2,h3⟩
   · exact ⟨h1,h2,h3⟩
 · exact h n
theorem XL {k:Int}:∀ o rest σ,o.kind=k→Q1 (o::rest) σ→(k≤6→∀ n,(σ n).val=none)∧(k=3∨k=4∨k=6→(σ o.target.toNat).gone=false):=fun _ _ _ _ h=>⟨fun _ n=>(h n).1,fun _=>(h _).2.1⟩
theorem q6_step:∀ o rest σ,Q6 (o::rest) σ→(o.kind=6→Q6 rest (upd σ o.target.toNat (gOf 6 o)))∧(o.kind≠6→Q6 rest σ):=by
 rintro o rest σ ⟨h1,h2,h3,h4⟩;rw[List.pairwise_cons]at h3
 refine ⟨fun hk=>⟨fun n=>?_,fun p hp hp6=>?_,h3.2,fun p hp=>h4 p (List.mem_cons_of_mem _ hp)⟩,fun _=>⟨h1,fun p hp=>h2 p (List.mem_cons_of_mem _ hp),h3.2,fun p hp=>h4 p (List.mem_cons_of_mem _ hp)⟩⟩
 · unfold upd
   split
   · exact h1 n
   · exact h1 n
 · have hne:p.target.toNat≠o.target.toNat:=by
    intro e;have e2:o.target=p.target:=by have:=h4 o List.mem_cons_self;have:=h4 p (List.mem_cons_of_mem _ hp);omega
    have:=h3.1 p hp;unfold agB at this
    simp[e2,hk,hp6]at this
   rw[zu _ hne];exact h2 p (List.mem_cons_of_mem _ hp) hp6
theorem qbd {k:Int}(hk:k=5):∀ o rest σ,Q5 (o::rest) σ→(o.kind=k→Q5 rest (upd σ o.target.toNat (gOf k o)))∧(o.kind≠k→Q5 rest σ):=by
 subst hk;intro o rest σ h;refine ⟨fun _ n=>?_,fun _=>h⟩
 unfold upd
 split
 · exact h n
 · exact h n
theorem qaJ {ns:List Nd}(hg:qM ns=true){n:Nat}{x:Nd}(hx:ns[n]?=some x):UpA x.attrs:=by
 obtain ⟨d,T,u,fs,hz⟩:=YV hg (qy hx);obtain ⟨x',hx',e1,_,e3⟩:=hz.get;rw[hx]at hx'
 obtain rfl:=Option.some.inj hx';rw[e3];have hr:=hz.right;cases ht:u.text with
 | true =>
   unfold qT at hr
   rw[ht]at hr
   simp at hr
   rw[hr.1.2];exact List.Pairwise.nil
 | false=>exact VF (xD hr ht).2
theorem qag {ns:List Nd}(hg:qM ns=true)(l:List Opn):Q1 l (zk ns):=by
 intro n;unfold zk
 split
 · rename_i x hx
   exact ⟨rfl,rfl,qaJ hg hx⟩
 · exact ⟨rfl,rfl,List.Pairwise.nil⟩
theorem jW {ns:List Nd}(hg:qM ns=true):Bnd 80 ns:=by
 have h80:=Qt hg;refine ⟨h80,fun y hy=>?_⟩
 obtain ⟨n,hn⟩:=List.mem_iff_getElem?.1 hy;obtain ⟨d,T,u,fs,hz⟩:=YV hg (qy hn);obtain ⟨x',hx',e1,_,e3⟩:=hz.get;rw[hn]at hx'
 obtain rfl:=Option.some.inj hx';have hr:=hz.right
 constructor
 · obtain ⟨e, par, h1, h2⟩ := hz.node;have h3:=h2 0 _ (by rw[yR h1];rfl)
   rw[Nat.add_zero,hn]at h3
   rw[Option.some.inj h3]
   show (qB _ _ _).length≤80
   rw[yN];have h4:=Seg.in h2 (by rw[layF_length e u par n h1];exact Kg e u)
   rw[layF_length e u par n h1,qL]at h4
   have h5:=Deep.len h1;omega
 · rw[e3];cases ht:u.text with
   | true =>
     unfold qT at hr
     rw[ht]at hr
     simp at hr
     rw[hr.1.2];exact nZ9 _
   | false =>
     have:=(xD hr ht).2;simp only[yd,Bool.and_eq_true,decide_eq_true_eq]at this
     omega
theorem Rdy.nz {ns0 ns:List Nd}{σ:Nat→Sg}{m n:Nat}{o:Opn}{x y:Nd}(h:Rdy ns0 ns σ m o n x y)(hk:o.kind=3∨o.kind=4∨o.kind=5∨o.kind=6):n≠0:=by
 have:=(jq h.wrong).1.root hk;rw[h.nat]at this
 exact this
theorem zY {B:Nat}{T:Nat→Prop}{bb:Nat}{ns0:List Nd}(hg:qM ns0=true)(fm:Nat)(k:Int)(hk:1≤k∧k≤10)(eg:∀ args w,(callFunc fm args).run Tryz.prog w=.ok (.enter fm args) w)(Q Q0:List Opn→(Nat→Sg)→Prop)
 (hQ:∀ o rest σ,Q (o::rest) σ→(o.kind=k→Q rest (upd σ o.target.toNat (gOf k o)))∧(o.kind≠k→Q rest σ))
 (hB:∀ o rest σ,o.kind=k→Q (o::rest) σ→(k≤6→∀ n,(σ n).val=none)∧(k=3∨k=4∨k=6→(σ o.target.toNat).gone=false))
 (hM:∀ σ ns m o rest n x y,o.kind=k→Rdy ns0 ns σ m o n x y→Q (o::rest) σ→y5 B T ns0.length bb 8 fm k ns o∧Bnd (m+81) (zg 8 k ns o))
 (Sr:Nat→Prop) (vl v:Value) (l:List Opn) (ns2 ns:List Nd) (ms:List Rw) (w2 W:World) (σ:Nat→Sg) (m m':Nat) (hw:∀ o∈l,ze ns0 o=0) (hX:Bx B T ns0.length bb w2 v ns2 ms) (hl:jR Sr T w2 (8+1) vl l) (hSr:∀ b,Sr b→b<w2.heap.size∧b≠bb∧¬ Tch ns0.length v ms b)
 (hP:Ph B T ns0 bb w2 v ms Q0 σ ns m W) (hq:Q0 [] σ→Q l σ) (lo:80≤m) (hi:m+81*l.length≤1000000) (hm:m+81*l.length≤m') :
 Calls Tryz.prog 60 #[vl,.int .i64 k,.func (.func fm) #[.pointer (some ⟨bb,0,none⟩)] #[]] W fun e w'=>e=.returned (.tuple #[])∧Ph B T ns0 bb w2 v ms Q (doF k σ l) (doN 8 k ns l) m' w':=by
 obtain ⟨⟨v',ms',g1,g2⟩,h2,h3,h4⟩:=hP;refine (Vd hg fm k hk eg Q hQ hB hM Sr vl v' l ns ms' W σ m hw g1 (hl.carry (fun b hb=>g2.keep b (hSr b hb).1 (hSr b hb).2.1 (hSr b hb).2.2) (fun b hb=>g2.low hX.2.2 hX.2.1 b (hX.2.2.low b hb))) (fun b hb=>?_) h2 (hq h3) h4 lo hi).mono ?_
 · obtain ⟨q1, q2, q3⟩ := hSr b hb;refine ⟨Nat.lt_of_lt_of_le q1 g2.below.size,q2,fun ht=>?_⟩
   rcases g2.new b ht with h|h
   · exact q3 h
   · omega
 · rintro e w' ⟨rfl, ⟨v'', ms'', f1, f2⟩, f3, f4, f5⟩;exact ⟨rfl,⟨v'',ms'',f1,g2.trans f2⟩,f3,f4,f5.more hm⟩
theorem qbe {l:List Opn}{σ:Nat→Sg}(hpw:l.Pairwise (fun a b=>agB a b=false))(hpos:∀ o∈l,0≤o.target)(h:Q1 [] σ):Q6 l σ:=⟨fun n=>(h n).1,fun _ _ _=>(h _).2.1,hpw,hpos⟩
set_option maxHeartbeats 2000000 in
theorem KN (B:Nat)(T:Nat→Prop)(bb:Nat)(vl v:Value)(l:List Opn)(ns0:List Nd)(ms:List Rw)(w:World)(hX:Bx B T ns0.length bb w v ns0 ms)(hl:jR T T w (8+1) vl l)(hc:qW ns0 l=0) :
 Calls Tryz.prog 32 #[.pointer (some ⟨bb,0,none⟩),vl] w fun e w'=>e=.returned (.tuple #[])∧Did B T ns0.length bb w w' v ms (x9 8 ns0 l)∧Bnd 20000 (x9 8 ns0 l)∧Bch ns0 (yB ns0 l) (x9 8 ns0 l):=by
 obtain ⟨hg,hlen,hw,hpw⟩:=(ym _ _).1 hc;have hrev:∀ o∈l.reverse,ze ns0 o=0:=fun o ho=>hw o (List.mem_reverse.1 ho)
 have hpos:∀ o∈l,0≤o.target:=fun o ho=>(jq (hw o ho)).1.pos
 have hrl:l.reverse.length≤20:=by rw[List.length_reverse];exact hlen
 have hroot:∀ o∈l,o.kind=3∨o.kind=4∨o.kind=5∨o.kind=6→o.target.toNat≠0:=fun o ho h=>(jq (hw o ho)).1.root h
 have HCL:Hid _:=Xl T T (8+1) vl l w hl (by omega)
 obtain ⟨a,cap,rfl,_,_,_⟩:=id hl;have HX:Hid (Bx B T ns0.length bb w v ns0 ms):=hX;have HL:Hid (jR T T w (8+1) (.slice a l.length cap) l):=hl;have eg8:∀ args w,(callFunc 61 args).run Tryz.prog w=.ok (.enter 61 args) w:=enters_of Tryz.func61 (by kernel_rfl) rfl
 have eg9:∀ args w,(callFunc 62 args).run Tryz.prog w=.ok (.enter 62 args) w:=enters_of Tryz.func62 (by kernel_rfl) rfl
 have eg10:∀ args w,(callFunc 63 args).run Tryz.prog w=.ok (.enter 63 args) w:=enters_of Tryz.func63 (by kernel_rfl) rfl
 have eg3:∀ args w,(callFunc 64 args).run Tryz.prog w=.ok (.enter 64 args) w:=enters_of Tryz.func64 (by kernel_rfl) rfl
 have eg2:∀ args w,(callFunc 65 args).run Tryz.prog w=.ok (.enter 65 args) w:=enters_of Tryz.func65 (by kernel_rfl) rfl
 have eg1:∀ args w,(callFunc 66 args).run Tryz.prog w=.ok (.enter 66 args) w:=enters_of Tryz.func66 (by kernel_rfl) rfl
 have eg4:∀ args w,(callFunc 67 args).run Tryz.prog w=.ok (.enter 67 args) w:=enters_of Tryz.func67 (by kernel_rfl) rfl
 have eg6:∀ args w,(callFunc 68 args).run Tryz.prog w=.ok (.enter 68 args) w:=enters_of Tryz.func68 (by kernel_rfl) rfl
 have eg5:∀ args w,(callFunc 69 args).run Tryz.prog w=.ok (.enter 69 args) w:=enters_of Tryz.func69 (by kernel_rfl) rfl
 have eg7:∀ args w,(callFunc 70 args).run Tryz.prog w=.ok (.enter 70 args) w:=enters_of Tryz.func70 (by kernel_rfl) rfl
 have hXs:=hX.2.2;clear hX hl
 go_enter Tryz.func32,Tryz.ntmps32
 go_wp2_with fail;refine (Calls.mono HCL.out ?_);rintro e w1 ⟨v1,rs,rfl,hown1,hrsl,hraw,hb1⟩;have HO1:Hid _:=hown1;rw[←hrsl]at hown1
 have HRV:Hid _:=YN w.heap.size v1 rs w1 hown1 (by omega)
 have HRAW:Hid _:=hraw;obtain ⟨a1,n1,c1,rfl⟩:=qN hown1;clear hown1 hraw HCL;go_wp2_with fail;refine (Calls.mono HRV.out ?_);rintro e w2 ⟨rfl,hown2,hb2,hk2⟩
 have hlow:∀ b,b<w.heap.size→w2.heap[b]?=w.heap[b]?:=fun b hb=>by
  rw[hk2 b (fun e=>by have:=(hown2.lt b e).1;omega),hb1.block b hb]
 have hX2:Bx B T ns0.length bb w2 v ns0 ms:=by
  have hsz:w.heap.size≤w2.heap.size:=Nat.le_trans hb1.size hb2.size;exact ⟨by rw[hlow bb (qA HX.out.1)];exact HX.out.1,HX.out.2.1,HX.out.2.2.keepT hsz (fun b hb=>hlow b (Nat.lt_of_lt_of_le hb HX.out.2.2.le)) (fun b ht=>hlow b (Tch.lt HX.out.2.2 ht).2)⟩
 have hB2:Below w.heap.size w w2:=⟨hb2.os.trans hb1.os,hb2.tape.trans hb1.tape,hb2.output.trans hb1.output,Nat.le_trans hb1.size hb2.size,hlow⟩;have hl2:jR T T w2 (8+1) (.slice a l.length cap) l:=HL.out.carry (fun b hb=>hlow b (Nat.lt_of_lt_of_le (HX.out.2.2.low b hb) HX.out.2.2.le)) (fun b hb=>hlow b (Nat.lt_of_lt_of_le (HX.out.2.2.low b hb) HX.out.2.2.le))
 have hrv2:jR (fun b=>(Value.slice a1 n1 c1).ownBlock=some b) T w2 (8+1) (.slice a1 n1 c1) l.reverse:=by
  refine JO (B:=w.heap.size) (rs:=rs.reverse) ?_ (by rw[List.length_reverse,List.length_reverse];exact hrsl) (fun i r x hr hx=>?_)
  · rw[List.length_reverse,←hrsl];exact hown2
  · have hi := qy hr;rw[List.length_reverse]at hi
    rw[List.getElem?_reverse hi]at hr
    rw[List.getElem?_reverse (by omega)]at hx
    obtain ⟨e1,e2,e3,e4,ca,cc,e5,hT⟩:=HRAW.out (rs.length-1-i) r x hr (by rw[hrsl];exact hx)
    exact ⟨e1,e2,e3,e4,ca,cc,e5,qw.carry (fun b hb=>⟨hb,hlow b (Nat.lt_of_lt_of_le (HX.out.2.2.low b hb) HX.out.2.2.le)⟩) (8+1) hT⟩
 have hsT:∀ b,T b→b<w2.heap.size∧b≠bb∧¬ Tch ns0.length v ms b:=fun b hb=>by
  have h1:=hX2.2.2.low b hb;exact ⟨Nat.lt_of_lt_of_le h1 hX2.2.2.le,fun e=>by have:=hX2.2.1;omega,fun ht=>by have:=(Tch.lt hX2.2.2 ht).1;omega⟩
 have hsR:∀ b,(Value.slice a1 n1 c1).ownBlock=some b→b<w2.heap.size∧b≠bb∧¬ Tch ns0.length v ms b:=fun b hb=>by
  obtain ⟨q1,q2⟩:=hown2.lt b hb;exact ⟨q2,fun e=>by have:=qA HX.out.1;omega,fun ht=>by have:=(Tch.lt HX.out.2.2 ht).2;omega⟩
 have hP:Ph B T ns0 bb w2 v ms Q1 (zk ns0) ns0 80 w2:=⟨⟨v,ms,hX2,qR.refl _ _ _ _ _⟩,Bch.start hg,qag hg [],jW hg⟩;have H8:Hid (∀ W,Ph B T ns0 bb w2 v ms Q1 (zk ns0) ns0 80 W→Calls Tryz.prog 60 #[(.slice a l.length cap),.int .i64 8,.func (.func 61) #[.pointer (some ⟨bb,0,none⟩)] #[]] W fun e w'=>e=.returned (.tuple #[])∧Ph B T ns0 bb w2 v ms Q1 (doF 8 (zk ns0) l) (doN 8 8 ns0 l) 1700 w'):=fun W h=>zY hg 61 8 (by omega) eg8 Q1 Q1 (xe (by omega)) XL (fun σ ns m o rest n x y hk hR hq=>qb8 hR) T (.slice a l.length cap) v l ns0 _ ms w2 W _ 80 1700 hw hX2 hl2 hsT h (fun h=>h) (by omega) (by omega) (by omega)
 have H9:Hid (∀ W,Ph B T ns0 bb w2 v ms Q1 (doF 8 (zk ns0) l) (doN 8 8 ns0 l) 1700 W→Calls Tryz.prog 60 #[(.slice a l.length cap),.int .i64 9,.func (.func 62) #[.pointer (some ⟨bb,0,none⟩)] #[]] W fun e w'=>e=.returned (.tuple #[])∧Ph B T ns0 bb w2 v ms Q1 (doF 9 (doF 8 (zk ns0) l) l) (doN 8 9 (doN 8 8 ns0 l) l) 3320 w'):=fun W h=>zY hg 62 9 (by omega) eg9 Q1 Q1 (xe (by omega)) XL (fun σ ns m o rest n x y hk hR hq=>qb9 hR (hq n).2.2) T (.slice a l.length cap) v l ns0 _ ms w2 W _ 1700 3320 hw hX2 hl2 hsT h (fun h=>h) (by omega) (by omega) (by omega)
 have H10:Hid (∀ W,Ph B T ns0 bb w2 v ms Q1 (doF 9 (doF 8 (zk ns0) l) l) (doN 8 9 (doN 8 8 ns0 l) l) 3320 W→Calls Tryz.prog 60 #[(.slice a l.length cap),.int .i64 10,.func (.func 63) #[.pointer (some ⟨bb,0,none⟩)] #[]] W fun e w'=>e=.returned (.tuple #[])∧Ph B T ns0 bb w2 v ms Q1 (doF 10 (doF 9 (doF 8 (zk ns0) l) l) l) (doN 8 10 (doN 8 9 (doN 8 8 ns0 l) l) l) 4940 w'):=fun W h=>zY hg 63 10 (by omega) eg10 Q1 Q1 (xe (by omega)) XL (fun σ ns m o rest n x y hk hR hq=>qbB hR (hq n).2.2) T (.slice a l.length cap) v l ns0 _ ms w2 W _ 3320 4940 hw hX2 hl2 hsT h (fun h=>h) (by omega) (by omega) (by omega)
 have H3:Hid (∀ W,Ph B T ns0 bb w2 v ms Q1 (doF 10 (doF 9 (doF 8 (zk ns0) l) l) l) (doN 8 10 (doN 8 9 (doN 8 8 ns0 l) l) l) 4940 W→Calls Tryz.prog 60 #[(.slice a l.length cap),.int .i64 3,.func (.func 64) #[.pointer (some ⟨bb,0,none⟩)] #[]] W fun e w'=>e=.returned (.tuple #[])∧Ph B T ns0 bb w2 v ms Q1 (doF 3 (doF 10 (doF 9 (doF 8 (zk ns0) l) l) l) l) (doN 8 3 (doN 8 10 (doN 8 9 (doN 8 8 ns0 l) l) l) l) 6560 w'):=fun W h=>zY hg 64 3 (by omega) eg3 Q1 Q1 (xe (by omega)) XL (fun σ ns m o rest n x y hk hR hq=>qbW hR (fun n=>(hq n).1) (hR.nz (by omega)) (hq n).2.1) T (.slice a l.length cap) v l ns0 _ ms w2 W _ 4940 6560 hw hX2 hl2 hsT h (fun h=>h) (by omega) (by omega) (by omega)
 have H2:Hid (∀ W,Ph B T ns0 bb w2 v ms Q1 (doF 3 (doF 10 (doF 9 (doF 8 (zk ns0) l) l) l) l) (doN 8 3 (doN 8 10 (doN 8 9 (doN 8 8 ns0 l) l) l) l) 6560 W→Calls Tryz.prog 60 #[(.slice a l.length cap),.int .i64 2,.func (.func 65) #[.pointer (some ⟨bb,0,none⟩)] #[]] W fun e w'=>e=.returned (.tuple #[])∧Ph B T ns0 bb w2 v ms Q1 (doF 2 (doF 3 (doF 10 (doF 9 (doF 8 (zk ns0) l) l) l) l) l) (doN 8 2 (doN 8 3 (doN 8 10 (doN 8 9 (doN 8 8 ns0 l) l) l) l) l) 8180 w'):=fun W h=>zY hg 65 2 (by omega) eg2 Q1 Q1 (xe (by omega)) XL (fun σ ns m o rest n x y hk hR hq=>qbV hR) T (.slice a l.length cap) v l ns0 _ ms w2 W _ 6560 8180 hw hX2 hl2 hsT h (fun h=>h) (by omega) (by omega) (by omega)
 have H1:Hid (∀ W,Ph B T ns0 bb w2 v ms Q1 (doF 2 (doF 3 (doF 10 (doF 9 (doF 8 (zk ns0) l) l) l) l) l) (doN 8 2 (doN 8 3 (doN 8 10 (doN 8 9 (doN 8 8 ns0 l) l) l) l) l) 8180 W→Calls Tryz.prog 60 #[(.slice a1 n1 c1),.int .i64 1,.func (.func 66) #[.pointer (some ⟨bb,0,none⟩)] #[]] W fun e w'=>e=.returned (.tuple #[])∧Ph B T ns0 bb w2 v ms Q1 (doF 1 (doF 2 (doF 3 (doF 10 (doF 9 (doF 8 (zk ns0) l) l) l) l) l) l.reverse) (doN 8 1 (doN 8 2 (doN 8 3 (doN 8 10 (doN 8 9 (doN 8 8 ns0 l) l) l) l) l) l.reverse) 9800 w'):=fun W h=>zY hg 66 1 (by omega) eg1 Q1 Q1 (xe (by omega)) XL (fun σ ns m o rest n x y hk hR hq=>qbU hR) (fun b=>(Value.slice a1 n1 c1).ownBlock=some b) (.slice a1 n1 c1) v l.reverse ns0 _ ms w2 W _ 8180 9800 hrev hX2 hrv2 hsR h (fun h=>h) (by omega) (by omega) (by omega)
 have H4:Hid (∀ W,Ph B T ns0 bb w2 v ms Q1 (doF 1 (doF 2 (doF 3 (doF 10 (doF 9 (doF 8 (zk ns0) l) l) l) l) l) l.reverse) (doN 8 1 (doN 8 2 (doN 8 3 (doN 8 10 (doN 8 9 (doN 8 8 ns0 l) l) l) l) l) l.reverse) 9800 W→Calls Tryz.prog 60 #[(.slice a1 n1 c1),.int .i64 4,.func (.func 67) #[.pointer (some ⟨bb,0,none⟩)] #[]] W fun e w'=>e=.returned (.tuple #[])∧Ph B T ns0 bb w2 v ms Q1 (doF 4 (doF 1 (doF 2 (doF 3 (doF 10 (doF 9 (doF 8 (zk ns0) l) l) l) l) l) l.reverse) l.reverse) (doN 8 4 (doN 8 1 (doN 8 2 (doN 8 3 (doN 8 10 (doN 8 9 (doN 8 8 ns0 l) l) l) l) l) l.reverse) l.reverse) 11420 w'):=fun W h=>zY hg 67 4 (by omega) eg4 Q1 Q1 (xe (by omega)) XL (fun σ ns m o rest n x y hk hR hq=>qbX hR (fun n=>(hq n).1) (hR.nz (by omega)) (hq n).2.1) (fun b=>(Value.slice a1 n1 c1).ownBlock=some b) (.slice a1 n1 c1) v l.reverse ns0 _ ms w2 W _ 9800 11420 hrev hX2 hrv2 hsR h (fun h=>h) (by omega) (by omega) (by omega)
 have H6:Hid (∀ W,Ph B T ns0 bb w2 v ms Q1 (doF 4 (doF 1 (doF 2 (doF 3 (doF 10 (doF 9 (doF 8 (zk ns0) l) l) l) l) l) l.reverse) l.reverse) (doN 8 4 (doN 8 1 (doN 8 2 (doN 8 3 (doN 8 10 (doN 8 9 (doN 8 8 ns0 l) l) l) l) l) l.reverse) l.reverse) 11420 W→Calls Tryz.prog 60 #[(.slice a l.length cap),.int .i64 6,.func (.func 68) #[.pointer (some ⟨bb,0,none⟩)] #[]] W fun e w'=>e=.returned (.tuple #[])∧Ph B T ns0 bb w2 v ms Q6 (doF 6 (doF 4 (doF 1 (doF 2 (doF 3 (doF 10 (doF 9 (doF 8 (zk ns0) l) l) l) l) l) l.reverse) l.reverse) l) (doN 8 6 (doN 8 4 (doN 8 1 (doN 8 2 (doN 8 3 (doN 8 10 (doN 8 9 (doN 8 8 ns0 l) l) l) l) l) l.reverse) l.reverse) l) 13040 w'):=fun W h=>zY hg 68 6 (by omega) eg6 Q6 Q1 q6_step (fun o rest σ hk h=>⟨fun _=>h.1,fun _=>h.2.1 o List.mem_cons_self hk⟩) (fun σ ns m o rest n x y hk hR hq=>qbZ hR hq.1 (hR.nz (by omega)) (by have:=hq.2.1 o List.mem_cons_self hk;rw[hR.nat]at this;exact this)) T (.slice a l.length cap) v l ns0 _ ms w2 W _ 11420 13040 hw hX2 hl2 hsT h (qbe hpw hpos) (by omega) (by omega) (by omega)
 have H5:Hid (∀ W,Ph B T ns0 bb w2 v ms Q6 (doF 6 (doF 4 (doF 1 (doF 2 (doF 3 (doF 10 (doF 9 (doF 8 (zk ns0) l) l) l) l) l) l.reverse) l.reverse) l) (doN 8 6 (doN 8 4 (doN 8 1 (doN 8 2 (doN 8 3 (doN 8 10 (doN 8 9 (doN 8 8 ns0 l) l) l) l) l) l.reverse) l.reverse) l) 13040 W→Calls Tryz.prog 60 #[(.slice a l.length cap),.int .i64 5,.func (.func 69) #[.pointer (some ⟨bb,0,none⟩)] #[]] W fun e w'=>e=.returned (.tuple #[])∧Ph B T ns0 bb w2 v ms Q5 (doF 5 (doF 6 (doF 4 (doF 1 (doF 2 (doF 3 (doF 10 (doF 9 (doF 8 (zk ns0) l) l) l) l) l) l.reverse) l.reverse) l) l) (doN 8 5 (doN 8 6 (doN 8 4 (doN 8 1 (doN 8 2 (doN 8 3 (doN 8 10 (doN 8 9 (doN 8 8 ns0 l) l) l) l) l) l.reverse) l.reverse) l) l) 14660 w'):=fun W h=>zY hg 69 5 (by omega) eg5 Q5 Q6 (qbd rfl) (fun o rest σ hk h=>⟨fun _=>h,fun h=>by omega⟩) (fun σ ns m o rest n x y hk hR hq=>qbY hR hq (hR.nz (by omega))) T (.slice a l.length cap) v l ns0 _ ms w2 W _ 13040 14660 hw hX2 hl2 hsT h (fun h=>h.1) (by omega) (by omega) (by omega)
 have H7:Hid (∀ W,Ph B T ns0 bb w2 v ms Q5 (doF 5 (doF 6 (doF 4 (doF 1 (doF 2 (doF 3 (doF 10 (doF 9 (doF 8 (zk ns0) l) l) l) l) l) l.reverse) l.reverse) l) l) (doN 8 5 (doN 8 6 (doN 8 4 (doN 8 1 (doN 8 2 (doN 8 3 (doN 8 10 (doN 8 9 (doN 8 8 ns0 l) l) l) l) l) l.reverse) l.reverse) l) l) 14660 W→Calls Tryz.prog 60 #[(.slice a l.length cap),.int .i64 7,.func (.func 70) #[.pointer (some ⟨bb,0,none⟩)] #[]] W fun e w'=>e=.returned (.tuple #[])∧Ph B T ns0 bb w2 v ms Q7 (doF 7 (doF 5 (doF 6 (doF 4 (doF 1 (doF 2 (doF 3 (doF 10 (doF 9 (doF 8 (zk ns0) l) l) l) l) l) l.reverse) l.reverse) l) l) l) (doN 8 7 (doN 8 5 (doN 8 6 (doN 8 4 (doN 8 1 (doN 8 2 (doN 8 3 (doN 8 10 (doN 8 9 (doN 8 8 ns0 l) l) l) l) l) l.reverse) l.reverse) l) l) l) 16280 w'):=fun W h=>zY hg 70 7 (by omega) eg7 Q7 Q5 (fun _ _ _ _=>⟨fun _=>trivial,fun _=>trivial⟩) (fun _ _ _ _ _=>⟨fun h=>by omega,fun h=>by omega⟩) (fun σ ns m o rest n x y hk hR hq=>qb7 hR) T (.slice a l.length cap) v l ns0 _ ms w2 W _ 14660 16280 hw hX2 hl2 hsT h (fun _=>trivial) (by omega) (by omega) (by omega)
 have HB2:Hid (Below w.heap.size w w2):=hB2;have HPP:Hid _:=hP;clear hP hX2 hl2 hrv2 hsT hsR hlow hown2 hb2 hk2 hB2 hb1 HRV HO1 HRAW hXs hrsl hw hpw hrev hpos hroot;go_wp2_with fail;refine (Calls.mono (H8.out _ HPP.out) ?_);rintro e W8 ⟨rfl,hP8⟩;have HP8:Hid _:=hP8;clear hP8 H8;go_wp2_with fail;refine (Calls.mono (H9.out _ HP8.out) ?_);rintro e W9 ⟨rfl,hP9⟩;have HP9:Hid _:=hP9;clear hP9 H9;go_wp2_with fail;refine (Calls.mono (H10.out _ HP9.out) ?_);rintro e W10 ⟨rfl,hP10⟩;have HP10:Hid _:=hP10;clear hP10 H10;go_wp2_with fail;refine (Calls.mono (H3.out _ HP10.out) ?_);rintro e W3 ⟨rfl,hP3⟩;have HP3:Hid _:=hP3;clear hP3 H3;go_wp2_with fail;refine (Calls.mono (H2.out _ HP3.out) ?_);rintro e W2 ⟨rfl,hP2⟩;have HP2:Hid _:=hP2;clear hP2 H2;go_wp2_with fail;refine (Calls.mono (H1.out _ HP2.out) ?_);rintro e W1 ⟨rfl,hP1⟩;have HP1:Hid _:=hP1;clear hP1 H1;go_wp2_with fail;refine (Calls.mono (H4.out _ HP1.out) ?_);rintro e W4 ⟨rfl,hP4⟩;have HP4:Hid _:=hP4;clear hP4 H4;go_wp2_with fail;refine (Calls.mono (H6.out _ HP4.out) ?_);rintro e W6 ⟨rfl,hP6⟩;have HP6:Hid _:=hP6;clear hP6 H6;go_wp2_with fail;refine (Calls.mono (H5.out _ HP6.out) ?_);rintro e W5 ⟨rfl,hP5⟩;have HP5:Hid _:=hP5;clear hP5 H5;go_wp2_with fail;refine (Calls.mono (H7.out _ HP5.out) ?_);rintro e W7 ⟨rfl,hP7⟩;have HP7:Hid _:=hP7;clear hP7 H7;go_wp2_with fail
 go_returns
 have hF:=HP7.out;have hF2:=hF.did;refine ⟨rfl,?_,(hF.bnd).more (by omega),hF.bch⟩
 exact Did.before HB2.out hF2
end
section
attribute [local go_sem] qD
def FitG:Nat→List Nd→Nat→Prop
 | 0,_,_=>False
 | f+1,ns,n=>∃ x,ns[n]?=some x∧∀ k∈x.kids,∃ kk:Nat,k=(kk:Int)∧FitG f ns kk
def Qh (f:Nat):Prop:=∀ (S:Nat→Prop)(v:Value)(ns:List Nd)(n bb:Nat)(w:World),qK S w v ns→(∀ b,S b→b<w.heap.size)→w.heap[bb]?=some (.cells #[v] 82 (0,0))→Bnd 1048576 ns→FitG f ns n →
 Calls Tryz.prog 35 #[.pointer (some ⟨bb,0,none⟩),.int .i64 (n:Int)] w fun e w'=>∃ va vk,e=.returned (.agg #[.bool (growF f ns n).text,.string (growF f ns n).s,va,vk]) ∧
  qC (fun b=>S b∨w.heap.size≤b) w' va (growF f ns n).attrs∧qw (fun b=>S b∨w.heap.size≤b) w' f vk (growF f ns n).kids∧Below w.heap.size w w'
structure GB (w:World) (nd:Array Value) (tr:Array Value) (W:World):Prop where
 below:Below w.heap.size w W
 res:W.heap[w.heap.size]?=some (.cells #[.bool false,.string ⟨#[]⟩,.slice none 0 0,.slice none 0 0] 56 (0,0))
 box:W.heap[w.heap.size+1]?=some (.cells nd 43 (0,0))
 tre:W.heap[w.heap.size+1+1]?=some (.cells tr 56 (0,0))
theorem Y9 {S:Nat→Prop}{w:World}{nd:Array Value}{f i:Nat}{c0 c1 c2:Value}{wr w5 w6:World}{ja:Option Addr}{jc:Nat}{us:List Tr}{qs:List (Bool × ByteArray × Value × Value)}{t:Tr}{a5 k5:Option Addr}{d5 e5:Nat}{a6:Option Addr}{n6 c6:Nat}
 (hS:∀ b,S b→b<w.heap.size)
 (hG:GB w nd #[c0,c1,c2,.slice ja i jc] wr) (hR:zC S f (w.heap.size+1+1+1) wr.drew (.slice ja i jc) us qs) (hi:us.length=i) (hb5:Below wr.drew.heap.size wr.drew w5)
 (hA:qC (fun b=>S b∨wr.drew.heap.size≤b) w5 (.slice a5 t.attrs.length d5) t.attrs) (hK:qw (fun b=>S b∨wr.drew.heap.size≤b) w5 f (.slice k5 t.kids.length e5) t.kids)
 (hown:w6.ownsRow (w.heap.size+1+1+1) 56 4 (.slice a6 n6 c6) (i+1) (quadCells qs++[.bool t.text,.string t.s,.slice a5 t.attrs.length d5,.slice k5 t.kids.length e5]))
 (hgr:(w5.alloc (.cells #[.bool t.text,.string t.s,.slice a5 t.attrs.length d5,.slice k5 t.kids.length e5] 56)).grownBy w6 (Value.slice ja i jc).ownBlock)
 (hat:(Value.slice a6 n6 c6).ownBlock=(Value.slice ja i jc).ownBlock∨(Value.slice a6 n6 c6).ownBlock=some (w5.alloc (.cells #[.bool t.text,.string t.s,.slice a5 t.attrs.length d5,.slice k5 t.kids.length e5] 56)).heap.size) :
 GB w nd #[c0,c1,c2,.slice a6 n6 c6] (w6.setCell ⟨w.heap.size+1+1,3,none⟩ (.slice a6 n6 c6)) ∧
  zC S f (w.heap.size+1+1+1) (w6.setCell ⟨w.heap.size+1+1,3,none⟩ (.slice a6 n6 c6)) (.slice a6 n6 c6) (us++[t]) (qs++[(t.text,t.s,.slice a5 t.attrs.length d5,.slice k5 t.kids.length e5)]):=by
 have hs5:wr.heap.size≤w5.heap.size:=hb5.size;have hres:=qA hG.res;have hbox:=qA hG.box;have htre:=qA hG.tre;have hs6:=hgr.size;simp only[World.size_alloc]at hs6
 have hkeep:∀ b,b<wr.heap.size→b<w.heap.size+1+1+1→w6.heap[b]?=wr.heap[b]?:=by
  intro b h1 h2;rw[hgr.block b (by simp;omega) (fun e=>by have:=(hR.own.lt b e.symm).1;omega),Lib.alloc_old _ _ _ (by omega)]
  exact hb5.block b h1
 have hB6:Below w.heap.size w w6:=((hG.below.drew.trans (hb5.mono hG.below.size)).alloc (by have:=hG.below.size;omega) _).grown hgr (by simp;have:=hG.below.size;omega) (fun k hk=>by have:=(hR.own.lt k hk).1;omega)
 have hsz:(w6.setCell ⟨w.heap.size+1+1,3,none⟩ (.slice a6 n6 c6)).heap.size=w6.heap.size:=by simp
 refine ⟨⟨hB6.setCell (p:=⟨w.heap.size+1+1,3,none⟩) (by show w.heap.size≤w.heap.size+1+1;omega) _,?_,?_,?_⟩,?_⟩
 · rw[qd (by omega),hkeep _ hres (by omega)];exact hG.res
 · rw[qd (by omega),hkeep _ hbox (by omega)];exact hG.box
 · have := (hkeep _ htre (by omega)).trans hG.tre
   simp[World.setCell,Array.getElem?_modify,this]
 · have hfr:∀ b,(S b∨wr.drew.heap.size≤b)∧b<(w5.alloc (.cells #[.bool t.text,.string t.s,.slice a5 t.attrs.length d5,.slice k5 t.kids.length e5] 56)).heap.size→Oth S (w.heap.size+1+1+1) (w5.alloc (.cells #[.bool t.text,.string t.s,.slice a5 t.attrs.length d5,.slice k5 t.kids.length e5] 56)) (.slice ja i jc) b:=by
    intro b hb;refine ⟨?_,hb.2,fun e=>?_⟩
    · rcases hb.1 with h | h
      · exact Or.inl h
      · exact Or.inr (by have h':wr.heap.size≤b:=h;omega)
    · have h1 := hR.own.lt b e;have h2:b<wr.heap.size:=h1.2
      rcases hb.1 with h|h
      · have:=hS b h;omega
      · have h' : wr.heap.size ≤ b := h;omega
   have hG3:=(hR.later hb5).later (Below.alloc1 w5 (.cells #[.bool t.text,.string t.s,.slice a5 t.attrs.length d5,.slice k5 t.kids.length e5] 56))
   have hG4:=hG3.snoc (t:=t) (q:=(t.text,t.s,.slice a5 t.attrs.length d5,.slice k5 t.kids.length e5)) (by rw[hi];exact hown) hgr hat rfl rfl
    ((hA.later (Below.alloc1 w5 _)).bounded.carry (fun b hb=>⟨hfr b hb,rfl⟩))
    (qw.carry (fun b hb=>⟨hfr b hb,rfl⟩) f (qw.bounded f (qw.later (Below.alloc1 w5 _) f hK)))
   have hne:∀ b,w.heap.size+1+1+1≤b→b≠w.heap.size+1+1:=fun b h=>by omega
   refine ⟨hG4.len,qF hG4.own (fun b hb=>qd (hne b (hG4.own.lt b hb).1)),fun j q u hq hu=>?_⟩
   obtain ⟨x1,x2,x3,x4⟩:=hG4.each j q u hq hu
   have carry:∀ b,Oth S (w.heap.size+1+1+1) w6 (.slice a6 n6 c6) b→Oth S (w.heap.size+1+1+1) (w6.setCell ⟨w.heap.size+1+1,3,none⟩ (.slice a6 n6 c6)) (.slice a6 n6 c6) b∧(w6.setCell ⟨w.heap.size+1+1,3,none⟩ (.slice a6 n6 c6)).heap[b]?=w6.heap[b]?:=by
    intro b hb;refine ⟨⟨hb.1,by rw[hsz];exact hb.2.1,hb.2.2⟩,qd ?_⟩
    rcases hb.1 with h1|h1
    · have:=hS b h1;omega
    · omega
   exact ⟨x1,x2,x3.carry carry,qw.carry carry f x4⟩
set_option maxHeartbeats 2000000 in
theorem Ja (f:Nat)(ih:Qh f):Qh (f+1):=by
 intro S v ns n bb w hN hS hX hKI hF;obtain ⟨x,hx,hkr⟩:=hF;have hn:n<ns.length:=(List.getElem?_eq_some_iff.1 hx).1;have HG:Hid (growF (f+1) ns n=⟨x.text,x.s,x.attrs,x.kids.map fun k=>growF f ns k.toNat⟩):=by show _=_;rw[growF,hx]
 obtain ⟨hkl,hal⟩:=hKI.2 x (List.mem_of_getElem? hx);obtain ⟨b,o,cap,va,vk,rfl,hlc,hcm,hSb,hbw,c0,c1,c2,c3,c4,hAt,hKi⟩:=hN.at hx
 obtain ⟨aa,ac,rfl⟩:=hAt.shape;obtain ⟨ka,kc,rfl,hkl2,hkm⟩:=hKi.shape;unfold maxLen at hcm hkm
 have hb0:w.cell? ⟨bb,0,none⟩=some (.slice (some ⟨b,o,none⟩) ns.length cap):=by rw[cH9 hX];rfl
 have hbbl:=qA hX;have IH:Hid (Qh f):=ih;have hni:(n:Int)<(ns.length:Int):=by omega
 clear ih
 go_enter Tryz.func35,Tryz.ntmps35
 go_wp2_with fail
 have HGS:Hid (GB w #[.bool x.text,.string x.s,.slice aa x.attrs.length ac,.int .i64 x.parent,.slice ka x.kids.length kc] #[.bool x.text,.string x.s,.slice aa x.attrs.length ac,.slice none 0 0] (((w.alloc (.cells #[.bool false,.string ⟨#[]⟩,.slice none 0 0,.slice none 0 0] 56)).alloc (.cells #[.bool x.text,.string x.s,.slice aa x.attrs.length ac,.int .i64 x.parent,.slice ka x.kids.length kc] 43)).alloc (.cells #[.bool x.text,.string x.s,.slice aa x.attrs.length ac,.slice none 0 0] 56))):=by
  refine ⟨((Below.alloc1 w _).alloc (by simp) _).alloc (by simp;omega) _,?_,?_,?_⟩
  · rw[Lib.alloc_old _ _ _ (by simp;omega),Lib.alloc_old _ _ _ (by simp)];exact heap_alloc_new _ _
  · rw[Lib.alloc_old _ _ _ (by simp)]
    have e:=heap_alloc_new (w.alloc (.cells #[.bool false,.string ⟨#[]⟩,.slice none 0 0,.slice none 0 0] 56)) (.cells #[.bool x.text,.string x.s,.slice aa x.attrs.length ac,.int .i64 x.parent,.slice ka x.kids.length kc] 43);rw[World.size_alloc]at e
    exact e
  · have e := heap_alloc_new ((w.alloc (.cells #[.bool false, .string ⟨#[]⟩, .slice none 0 0, .slice none 0 0] 56)).alloc (.cells #[.bool x.text, .string x.s, .slice aa x.attrs.length ac, .int .i64 x.parent, .slice ka x.kids.length kc] 43)) (.cells #[.bool x.text, .string x.s, .slice aa x.attrs.length ac, .slice none 0 0] 56);rw[World.size_alloc,World.size_alloc]at e
    exact e
 generalize ((w.alloc (.cells #[.bool false,.string ⟨#[]⟩,.slice none 0 0,.slice none 0 0] 56)).alloc (.cells #[.bool x.text,.string x.s,.slice aa x.attrs.length ac,.int .i64 x.parent,.slice ka x.kids.length kc] 43)).alloc (.cells #[.bool x.text,.string x.s,.slice aa x.attrs.length ac,.slice none 0 0] 56)=W4 at HGS ⊢
 have HKI:Hid (zM S w (.slice ka x.kids.length kc) x.kids):=hKi;have HAT:Hid (qC S w (.slice aa x.attrs.length ac) x.attrs):=hAt;have HNN:Hid (qK S w (.slice (some ⟨b,o,none⟩) ns.length cap) ns):=hN;have HX:Hid _:=hX;have HS:Hid (∀ b,S b→b<w.heap.size):=hS;have HKR:Hid (∀ k∈x.kids,∃ kk:Nat,k=(kk:Int)∧FitG f ns kk):=hkr;clear c0 c1 c2 c3 c4 hb0 hX hS hN hAt hKi hx hkr
 go_loopg [26] x.kids.length (fun g j wr=>∃ (i:Nat) (v:Value) (qs:List (Bool × ByteArray × Value × Value)),i+g=x.kids.length∧j=.int .i64 (i:Int)∧GB w #[.bool x.text,.string x.s,.slice aa x.attrs.length ac,.int .i64 x.parent,.slice ka x.kids.length kc] #[.bool x.text,.string x.s,.slice aa x.attrs.length ac,v] wr∧zC S f (w.heap.size+1+1+1) wr v ((x.kids.take i).map fun k=>growF f ns k.toNat) qs)
 case atStart => exact ⟨0,.slice none 0 0,[],by omega,rfl,HGS.out,zC.nil _ _ _ _⟩
 case round =>
  obtain ⟨i,v,qs,hi,rfl,hG,hGr⟩:=hrel;have HG4:Hid _:=hG;have hB4:=hG.below;obtain ⟨ja,jc,rfl⟩:=hGr.shape;have HGR:Hid _:=hGr
  by_cases hil:i<x.kids.length
  · obtain ⟨k, hk⟩ : ∃ k, x.kids[i]? = some k := ⟨x.kids[i], by simp[hil]⟩
    obtain ⟨kk,rfl,hfit⟩:=HKR.out k (List.mem_of_getElem? hk);obtain ⟨kb,ko,kc2,hkv,hSk,hkb,e1⟩:=(HKI.out.later hB4).at hk
    injection hkv with hka _ hkc
    subst hka hkc
    have hsn:(x.kids.take (i+1)).map (fun k=>growF f ns k.toNat)=(x.kids.take i).map (fun k=>growF f ns k.toNat)++[growF f ns kk]:=by
     rw[List.take_succ_eq_append_getElem hil,List.map_append];have:x.kids[i]=(kk:Int):=by simpa[hil] using hk
     rw[this];rfl
    have HSN:Hid _:=hsn
    have HCALL:Hid (∀ W,Below w.heap.size w W→Calls Tryz.prog 35 #[.pointer (some ⟨bb,0,none⟩),.int .i64 (kk:Int)] W fun e w'=>∃ r,e=.returned r∧∃ va vk,r=.agg #[.bool (growF f ns kk).text,.string (growF f ns kk).s,va,vk] ∧
     qC (fun b=>S b∨W.heap.size≤b) w' va (growF f ns kk).attrs∧qw (fun b=>S b∨W.heap.size≤b) w' f vk (growF f ns kk).kids∧Below W.heap.size W w'):=by
     intro W hW;refine (IH.out S _ ns kk bb W (HNN.out.later hW) (fun b hb=>Nat.lt_of_lt_of_le (HS.out b hb) hW.size) ((hW.block bb hbbl).trans HX.out) hKI hfit).mono ?_
     rintro e w' ⟨va,vk,rfl,h1,h2,h3⟩;exact ⟨_,rfl,va,vk,rfl,h1,h2,h3⟩
    have hln:((x.kids.take i).map fun k=>growF f ns k.toNat).length=i:=by rw[List.length_map,List.length_take];omega
    obtain ⟨us,hus⟩:∃ us,(x.kids.take i).map (fun k=>growF f ns k.toNat)=us:=⟨_,rfl⟩
    obtain ⟨t,ht⟩:∃ t,growF f ns kk=t:=⟨_,rfl⟩;rw[hus]at HGR HG4 HSN hln
    rw[ht]at HCALL HSN
    rw[hln]at HGR HG4
    have HLN:Hid (us.length=i):=hln;have hz3:wr.cell? ⟨w.heap.size+1+1,3,none⟩=some (.slice ja i jc):=by rw[cH9 HG4.out.tre];rfl
    have hf3:wr.frozen? ⟨w.heap.size+1+1,3,none⟩=false:=fH9 HG4.out.tre 3;have hili:(i:Int)<(x.kids.length:Int):=by omega
    have hi20:i≤1048576:=by omega
    have hwrs:=hB4.size;have hb2r:=qA HG4.out.tre;have HGD:Hid (zC S f (w.heap.size+1+1+1) wr.drew (.slice ja i jc) us qs):=HGR.out.later (Below.refl _ wr).drew
    have HCH:Hid (∀ (w5 w6:World) (X:Obj),Below wr.drew.heap.size wr.drew w5→(w5.alloc X).grownBy w6 (Value.slice ja i jc).ownBlock→w6.heap[w.heap.size+1+1]?=some (.cells #[.bool x.text,.string x.s,.slice aa x.attrs.length ac,.slice ja i jc] 56 (0,0))):=by
     intro w5 w6 X h5 h6;have h7:w.heap.size+1+1<w5.heap.size:=Nat.lt_of_lt_of_le hb2r h5.size;rw[h6.block _ (by simp;omega) (fun e=>by have:=(HGR.out.own.lt _ e.symm).1;omega),Lib.alloc_old _ _ _ h7]
     exact (h5.block _ hb2r).trans HG4.out.tre
    clear hG hGr hk hsn hln hus ht hfit;go_wp2_with fail
    go_region_law (first
     | (refine zy (by rfl) 35 #[.pointer (some ⟨bb,0,none⟩),.int .i64 (kk:Int)] (by go_simp) _ (HCALL.out _ hB4.drew) ?_;intro r5 w5 hR5;obtain ⟨va5,vk5,rfl,hA5,hK5,hb5⟩:=hR5;obtain ⟨a5,c5,rfl⟩:=hA5.shape;obtain ⟨k5,d5,rfl,_,_⟩:=qw.shape f hK5;have z5:w5.cell? ⟨w.heap.size+1+1,3,none⟩=some (.slice ja i jc):=(hb5.cell (p:=⟨w.heap.size+1+1,3,none⟩) hb2r).trans hz3;have z5a:(w5.alloc (.cells #[.bool t.text,.string t.s,.slice a5 t.attrs.length c5,.slice k5 t.kids.length d5] 56)).cell? ⟨w.heap.size+1+1,3,none⟩=some (.slice ja i jc):=Lib.cell?_alloc_some _ z5)
     | (refine xO (by rfl) (.tmp 31) (.tmp 35) (by rfl) (w.heap.size+1+1+1) (.slice ja i jc) i (quadCells qs) (by simp[Act.eval]) (by have:=(qH HGD.out.own hb5).alloc (.cells #[.bool t.text,.string t.s,.slice a5 t.attrs.length c5,.slice k5 t.kids.length d5] 56);rw[HLN.out]at this;exact this) ⟨w5.heap.size,0,none⟩ t.text t.s a5 t.attrs.length c5 k5 t.kids.length d5 (by simp[Act.eval]) (yG _ _ _ _ _ _) hi20 (by have:=hb5.size;simp at this ⊢;omega) ?_;intro v6 w6 hown6 hgr6 hat6;obtain ⟨a6,n6,c6,rfl⟩:=qN hown6;have hk6:=HCH.out w5 w6 _ hb5 hgr6;have z6:=cH9 hk6 3;have f6:=fH9 hk6 3;simp at z6))
    all_goals
     have HG7:Hid _:=Y9 HS.out HG4.out HGD.out HLN.out hb5 hA5 hK5 hown6 hgr6 hat6;clear hown6 hgr6 hat6 hA5 hK5;go_wp2_with fail
     go_roundg (x.kids.length-(i+1))
     case measure => omega
     case rel => exact ⟨i+1,_,_,by omega,by go_num,HG7.out.1,by rw[HSN.out];exact HG7.out.2⟩
  · have hii : i = x.kids.length := by omega
    subst hii;have hili:¬ ((x.kids.length:Int)<(x.kids.length:Int)):=by omega
    have p0:wr.cell? ⟨w.heap.size,0,none⟩=some (.bool false):=by rw[cH9 HG4.out.res];rfl
    have p1:wr.cell? ⟨w.heap.size,1,none⟩=some (.string ⟨#[]⟩):=by rw[cH9 HG4.out.res];rfl
    have p2:wr.cell? ⟨w.heap.size,2,none⟩=some (.slice none 0 0):=by rw[cH9 HG4.out.res];rfl
    have p3:wr.cell? ⟨w.heap.size,3,none⟩=some (.slice none 0 0):=by rw[cH9 HG4.out.res];rfl
    have f0:wr.frozen? ⟨w.heap.size,0,none⟩=false:=fH9 HG4.out.res 0;have f1:wr.frozen? ⟨w.heap.size,1,none⟩=false:=fH9 HG4.out.res 1;have f2:wr.frozen? ⟨w.heap.size,2,none⟩=false:=fH9 HG4.out.res 2;have f3:wr.frozen? ⟨w.heap.size,3,none⟩=false:=fH9 HG4.out.res 3;have q0:wr.cell? ⟨w.heap.size+1+1,0,none⟩=some (.bool x.text):=by rw[cH9 HG4.out.tre];rfl
    have q1:wr.cell? ⟨w.heap.size+1+1,1,none⟩=some (.string x.s):=by rw[cH9 HG4.out.tre];rfl
    have q2:wr.cell? ⟨w.heap.size+1+1,2,none⟩=some (.slice aa x.attrs.length ac):=by rw[cH9 HG4.out.tre];rfl
    have q3:wr.cell? ⟨w.heap.size+1+1,3,none⟩=some (.slice ja ((x.kids.take x.kids.length).map fun k=>growF f ns k.toNat).length jc):=by rw[cH9 HG4.out.tre];rfl
    clear hG hGr
    generalize hvv:Value.slice ja ((x.kids.take x.kids.length).map fun k=>growF f ns k.toNat).length jc=vv at HGR HG4 q3
    obtain ⟨va7,vn7,vc7,rfl⟩:∃ a n c,vv=.slice a n c:=⟨_,_,_,hvv.symm⟩;clear hvv;rw[List.take_length]at HGR
    go_wp2_with fail;refine bodyPost_ret (v:=.agg #[.bool x.text,.string x.s,.slice aa x.attrs.length ac,.slice va7 vn7 vc7]) (by simp[results,Tryz.results35,go_sem,qD,p0,p1,p2,p3,World.cell?_setCell_other]) rfl ⟨.slice aa x.attrs.length ac,.slice va7 vn7 vc7,?_,?_,?_,?_⟩
    · rw[HG.out]
    · rw[HG.out];refine ((HAT.out.later hB4)).carry fun b hb=>⟨Or.inl hb,?_⟩
      have:=HS.out b hb;rw[qd (by omega),qd (by omega),qd (by omega),qd (by omega)]
    · rw[HG.out];refine qw.carry (fun b hb=>⟨?_,?_⟩) (f+1) HGR.out.done
      · rcases hb with hb | hb
        · exact Or.inl hb
        · exact Or.inr (by omega)
      · rcases hb with hb | hb
        · have := HS.out b hb;rw[qd (by omega),qd (by omega),qd (by omega),qd (by omega)]
        · rw[qd (by omega),qd (by omega),qd (by omega),qd (by omega)]
    · exact (((hB4.setCell (p:=⟨w.heap.size,0,none⟩) (nR9 _) _).setCell (p:=⟨w.heap.size,1,none⟩) (nR9 _) _).setCell (p:=⟨w.heap.size,2,none⟩) (nR9 _) _).setCell (p:=⟨w.heap.size,3,none⟩) (nR9 _) _
theorem Xg (f:Nat):Qh f:=by
 induction f with
 | zero=>intro S v ns n bb w _ _ _ _ hF;exact hF.elim
 | succ f ih=>exact Ja f ih
theorem fit_lay:∀ (d:Nat)(t:Tr)(f:Nat)(ns:List Nd)(par:Int)(at':Nat),Deep d t.kids→Seg ns at' (layF d t par at')→cnt (d+1) [t]≤f→FitG f ns at':=by
 intro d
 induction d with
 | zero =>
   intro t f ns par at' hd hs hf
   rw[qL]at hf
   obtain ⟨f',rfl⟩:∃ f',f=f'+1:=⟨f-1,by omega⟩
   exact ⟨_,hs 0 _ rfl,fun k hk=>by simp at hk⟩
 | succ d ih =>
   intro t f ns par at' hd hs hf
   rw[qL]at hf
   obtain ⟨f',rfl⟩:∃ f',f=f'+1:=⟨f-1,by omega⟩
   have hsk:Seg ns (at'+1) (qG d (layF d) at' (at'+1) t.kids):=Seg.tail hs
   refine ⟨_,hs 0 _ rfl,?_⟩
   have key:∀ (ks:List Tr) (a:Nat),Deep (d+1) ks→Seg ns a (qG d (layF d) at' a ks)→cnt (d+1) ks≤f'→∀ k∈qB d a ks,∃ kk:Nat,k=(kk:Int)∧FitG f' ns kk:=by
    intro ks
    induction ks with
    | nil=>intro a _ _ _ k hk;simp[qB]at hk
    | cons u ks ihk =>
      intro a hdk hsg hc k hk;rw[qZ d u ks]at hc
      rw[qG]at hsg
      have hl:=layF_length d u (at':Int) a (hdk u List.mem_cons_self)
      have h2:=hsg.right;rw[hl]at h2
      rw[qB]at hk
      rcases List.mem_cons.1 hk with rfl|hk
      · exact ⟨a,rfl,ih u f' ns at' a (hdk u List.mem_cons_self) hsg.left (by omega)⟩
      · exact ihk (a+cnt (d+1) [u]) (fun v hv=>hdk v (List.mem_cons_of_mem _ hv)) h2 (by omega) k hk
   exact key t.kids (at'+1) hd hsk (by omega)
theorem KP {ns0 ns:List Nd}{σ:Nat→Sg}(hg:qM ns0=true)(h:Bch ns0 σ ns):∀ (f F n:Nat),n<ns0.length→ns0.length≤n+f→ns.length≤n+F→FitG F ns n:=by
 intro f
 induction f with
 | zero=>intro F n h1 h2;omega
 | succ f ih =>
   intro F n hn hf hF;have hl:=h.len;obtain ⟨F,rfl⟩:∃ F',F=F'+1:=⟨F-1,by omega⟩
   obtain ⟨x,hx⟩:∃ x,ns0[n]?=some x:=⟨ns0[n],by simp[hn]⟩
   obtain ⟨y,g1,g2,g3,g4,g5,g6⟩:=h.each n x hx;refine ⟨y,g1,?_⟩;have hall:=fun k=>Y1 (k:=k) hg (σ:=σ) hx
   have key:∀ (l:List Int) (m:List (Nat ⊕ Tr)),zO ns0.length ns l m→(∀ k,Sum.inl k∈m→n<k∧k<ns0.length)→∀ k∈l,∃ kk:Nat,k=(kk:Int)∧FitG F ns kk:=by
    intro l
    induction l with
    | nil=>intro m _ _ k hk;cases hk
    | cons u l ihl =>
      intro m hr hm k hk;cases m with
      | nil=>exact hr.elim
      | cons e m =>
        rcases List.mem_cons.1 hk with rfl|hk
        · cases e with
          | inl j =>
            obtain ⟨rfl,hj⟩:=hr.1;have h1:=hm j List.mem_cons_self;exact ⟨j,rfl,ih F j hj (by omega) (by omega)⟩
          | inr t =>
            obtain ⟨m',d,par,rfl,h1,h2,h3⟩:=hr.1;refine ⟨m',rfl,fit_lay d t F ns par m' h2 h3 ?_⟩;have h4:=layF_length d t par m' h2;have h5:0<cnt (d+1) [t]:=by rw[qL];omega
            obtain ⟨z,hz⟩:∃ z,(layF d t par m')[cnt (d+1) [t]-1]?=some z:=⟨(layF d t par m')[cnt (d+1) [t]-1]'(by omega),by simp⟩
            have h6:=qy (h3 _ z hz);omega
        · exact ihl m hr.2 (fun j hj=>hm j (List.mem_cons_of_mem _ hj)) k hk
   exact key y.kids _ g6 hall
theorem fit_less:∀ (f F:Nat)(ns:List Nd)(n:Nat),FitG F ns n→Deep f (growF F ns n).kids→FitG (f+1) ns n∧growF (f+1) ns n=growF F ns n:=by
 intro f
 induction f with
 | zero =>
   intro F ns n hF hd;cases F with
   | zero=>exact hF.elim
   | succ F =>
     obtain ⟨x,hx,hk⟩:=hF;rw[growF,hx]at hd ⊢
     rw[growF,hx];have e:x.kids=[]:=List.map_eq_nil_iff.1 hd;refine ⟨⟨x,hx,?_⟩,?_⟩
     · rw[e];intro k hk;cases hk
     · simp only[e,List.map_nil]
 | succ f ih =>
   intro F ns n hF hd;cases F with
   | zero=>exact hF.elim
   | succ F =>
     obtain ⟨x,hx,hk⟩:=hF;rw[growF,hx]at hd ⊢
     rw[growF,hx]
     have key:∀ k∈x.kids,∃ kk:Nat,k=(kk:Int)∧FitG (f+1) ns kk∧growF (f+1) ns kk=growF F ns kk:=by
      intro k hk1;obtain ⟨kk,rfl,h1⟩:=hk k hk1;obtain ⟨h2,h3⟩:=ih F ns kk h1 (hd _ (List.mem_map.2 ⟨(kk:Int),hk1,by rw[Int.toNat_natCast]⟩))
      exact ⟨kk,rfl,h2,h3⟩
     refine ⟨⟨x,hx,fun k hk1=>?_⟩,?_⟩
     · obtain ⟨kk, e, h2, _⟩ := key k hk1;exact ⟨kk,e,h2⟩
     · refine congrArg (fun ks => (⟨x.text, x.s, x.attrs, ks⟩ : Tr)) (List.map_congr_left ?_)
       intro k hk1;obtain ⟨kk,rfl,_,h3⟩:=key k hk1;rw[Int.toNat_natCast];exact h3
theorem js.attrs {B:Nat}{w:World}{v:Value}{l:List (ByteArray × ByteArray)}(h:js B w v l):qC (fun b=>b<w.heap.size) w v l:=by
 rcases id h.2 with ⟨hv,h0⟩|⟨g,cap,cur,hv,hB,hh,hc,hm,_⟩
 · have : l = [] := List.eq_nil_of_length_eq_zero h0;subst this;exact ⟨none,0,hv,nR9 _,nZ9 _,fun hne=>absurd rfl hne⟩
 · have hrow := h;unfold js at hrow
   subst hv;refine ⟨_,cap,rfl,hc,hm,fun _=>⟨g,0,rfl,qA hh,fun i x hx=>?_⟩⟩
   have hi:=qy hx;obtain ⟨g0,g1⟩:=yD l i x hx;exact ⟨by rw[Nat.zero_add,World.ownsRow.cellAt hrow (i*2) (by omega),g0],by rw[Nat.zero_add,World.ownsRow.cellAt hrow (i*2+1) (by omega),g1]⟩
theorem qY.intsLt {B:Nat}{w:World}{v:Value}{l:List Int}(h:qY B w v l):zM (fun b=>b<w.heap.size) w v l:=by
 rcases id h.2 with ⟨hv,h0⟩|⟨g,cap,cur,hv,hB,hh,hc,hm,_⟩
 · have : l = [] := List.eq_nil_of_length_eq_zero h0;subst this;exact ⟨none,0,hv,nR9 _,nZ9 _,fun hne=>absurd rfl hne⟩
 · have hrow := h;unfold qY at hrow
   subst hv;refine ⟨_,cap,rfl,hc,hm,fun _=>⟨g,0,rfl,qA hh,fun i x hx=>?_⟩⟩
   have hi:=qy hx;rw[Nat.zero_add,World.ownsRow.cellAt hrow i (by omega),j8 hx]
theorem zq.nodes {B:Nat}{T:Nat→Prop}{N:Nat}{w:World}{v:Value}{ns:List Nd}{ms:List Rw}(h:zq B T N w v ns ms):qK (fun b=>b<w.heap.size) w v ns:=by
 by_cases hne:ns=[]
 · subst hne;obtain ⟨a,c,hv,h1,h2⟩:=h.shape;exact ⟨a,c,hv,h1,h2,fun e=>absurd rfl e⟩
 · obtain ⟨x0, hx0⟩ : ∃ x, ns[0]? = some x := ⟨ns[0]'(List.length_pos_iff.2 hne), by simp⟩
   obtain ⟨r0,hr0,_⟩:=h.get hx0;obtain ⟨g,cap,hv,h1,h2,_,hgl,_⟩:=h.at hr0
   refine ⟨_,cap,hv,h1,h2,fun _=>⟨g,0,rfl,hgl,fun i x hx=>?_⟩⟩
   obtain ⟨r,hr,hR⟩:=h.get hx;obtain ⟨g',cap',hv',_,_,_,_,c0,c1,c2,c3,c4,_⟩:=h.at hr
   rw[hv]at hv'
   injection hv' with e1 _ _
   injection e1 with e1
   injection e1 with e1
   subst e1;refine ⟨r.va,r.vk,?_,?_,?_,?_,?_,?_,hR.kids.intsLt⟩
   · rw[Nat.zero_add,c0,hR.text]
   · rw[Nat.zero_add,c1,hR.s]
   · rw[Nat.zero_add,c2]
   · rw[Nat.zero_add,c3,hR.par]
   · rw[Nat.zero_add,c4]
   · by_cases hi : i < N
     · exact (hR.own hi).attrs
     · exact (hR.far (by omega)).carry fun b hb=>⟨Nat.lt_of_lt_of_le (h.low b hb) h.le,rfl⟩
theorem Did.below {B:Nat}{T:Nat→Prop}{N bb:Nat}{w w':World}{v:Value}{ns:List Nd}{ms:List Rw}{ns':List Nd}(h:Did B T N bb w w' v ms ns')(hX:Bx B T N bb w v ns ms):Below B w w':=by
 obtain ⟨v',ms',_,hs⟩:=h;exact ⟨hs.below.os,hs.below.tape,hs.below.output,hs.below.size,fun k hk=>hs.low hX.2.2 hX.2.1 k hk⟩
end
section
attribute [local go_sem] qD
theorem qaL (v:Value)(a:Option Addr)(n cap:Nat)(cs:List Value)(w:World)(hv:v=.slice a n cap)(hn:a=none→n=0)(hl:cs.length=n*2)(hb:n≤1048576)(hc:∀ ad,a=some ad→∀ j u,cs[j]?=some u→w.cell? (ad.add j)=some u)(h1:∀ u∈cs,u.oneCell'=true) :
 Calls Tryz.prog 56 #[v] w fun e w'=>∃ v',e=.returned v'∧w'.ownsRow w.heap.size 79 2 v' n cs∧Below w.heap.size w w':=by
 subst hv;obtain ⟨i0,hi,hz0,hz1,hz2⟩:=info_parts attrInfo;have q27:∀ (w:World) (a:Option Addr) (n c n' c':Nat),(binOp .eql 40 (.slice a n c) (.slice none n' c')).run Tryz.prog w=.ok (.bool a.isNone) w:=fun w a n c n' c'=>Lib.run_eql_slice_nil w _ _ a n c n' c' Tryz.underlying40
 cases a with
 | none =>
   have hn:=hn rfl;subst hn;have hcs:cs=[]:=List.eq_nil_of_length_eq_zero (by omega)
   subst hcs
   go_enter Tryz.func56,Tryz.ntmps56
   go_wp2;go_ret;exact ⟨_,rfl,World.ownsRow_nil _ _ _ _,Below.refl _ _⟩
 | some ad =>
   have A:Hid (∀ j u,cs[j]?=some u→w.cell? (ad.add j)=some u):=hc ad rfl;have H1:Hid (∀ u∈cs,u.oneCell'=true):=h1;clear hc h1 hn
   go_enter Tryz.func56,Tryz.ntmps56
   go_wp2_with (at_builtin;refine wpList_append_own _ rfl _ _ 40 rfl w.heap.size 79 i0 _ 2 32 Tryz.underlying40 hi hz0 hz1 hz2 rfl (by decide) _ _ _ rfl (World.ownsRow_made w #[] 0 (nR9 _) (nZ9 _) (by simp)) ad n cap cs rfl ?qc1 ?qc2 ?qc3 ?qc4 ?qc5 ?qc6 ?_)
   case qc1 => exact hl
   case qc2 =>
    intro j u hj;exact Lib.cell?_alloc_some _ (A.out j u hj)
   case qc3 => exact H1.out
   case qc4 => unfold maxLen;omega
   case qc5 => omega
   case qc6 => simp
   intro v' w1 hown hgrow hnil;go_wp2;go_ret;refine ⟨v',rfl,by simpa using hown,?_⟩
   exact ((Below.refl _ w).alloc (nR9 _) _).grown hgrow (by simp) (by intro k hk;simp[Value.ownBlock]at hk;omega)
theorem qaM (v:Value)(a:Option Addr)(n cap:Nat)(cs:List Value)(w:World)(hv:v=.slice a n cap)(hn:a=none→n=0)(hl:cs.length=n*1)(hb:n≤1048576)(hc:∀ ad,a=some ad→∀ j u,cs[j]?=some u→w.cell? (ad.add j)=some u)(h1:∀ u∈cs,u.oneCell'=true) :
 Calls Tryz.prog 57 #[v] w fun e w'=>∃ v',e=.returned v'∧w'.ownsRow w.heap.size 3 1 v' n cs∧Below w.heap.size w w':=by
 subst hv;obtain ⟨i0,hi,hz0,hz1,hz2⟩:=info_parts intInfoR;have q27:∀ (w:World) (a:Option Addr) (n c n' c':Nat),(binOp .eql 41 (.slice a n c) (.slice none n' c')).run Tryz.prog w=.ok (.bool a.isNone) w:=fun w a n c n' c'=>Lib.run_eql_slice_nil w _ _ a n c n' c' Tryz.underlying41
 cases a with
 | none =>
   have hn:=hn rfl;subst hn;have hcs:cs=[]:=List.eq_nil_of_length_eq_zero (by omega)
   subst hcs
   go_enter Tryz.func57,Tryz.ntmps57
   go_wp2;go_ret;exact ⟨_,rfl,World.ownsRow_nil _ _ _ _,Below.refl _ _⟩
 | some ad =>
   have A:Hid (∀ j u,cs[j]?=some u→w.cell? (ad.add j)=some u):=hc ad rfl;have H1:Hid (∀ u∈cs,u.oneCell'=true):=h1;clear hc h1 hn
   go_enter Tryz.func57,Tryz.ntmps57
   go_wp2_with (at_builtin;refine wpList_append_own _ rfl _ _ 41 rfl w.heap.size 3 i0 _ 1 8 Tryz.underlying41 hi hz0 hz1 hz2 rfl (by decide) _ _ _ rfl (World.ownsRow_made w #[] 0 (nR9 _) (nZ9 _) (by simp)) ad n cap cs rfl ?qc1 ?qc2 ?qc3 ?qc4 ?qc5 ?qc6 ?_)
   case qc1 => exact hl
   case qc2 =>
    intro j u hj;exact Lib.cell?_alloc_some _ (A.out j u hj)
   case qc3 => exact H1.out
   case qc4 => unfold maxLen;omega
   case qc5 => omega
   case qc6 => simp
   intro v' w1 hown hgrow hnil;go_wp2;go_ret;refine ⟨v',rfl,by simpa using hown,?_⟩
   exact ((Below.refl _ w).alloc (nR9 _) _).grown hgrow (by simp) (by intro k hk;simp[Value.ownBlock]at hk;omega)
theorem qaN (v:Value)(a:Option Addr)(n cap:Nat)(cs:List Value)(w:World)(hv:v=.slice a n cap)(hn:a=none→n=0)(hl:cs.length=n*5)(hb:n≤1048576)(hc:∀ ad,a=some ad→∀ j u,cs[j]?=some u→w.cell? (ad.add j)=some u)(h1:∀ u∈cs,u.oneCell'=true) :
 Calls Tryz.prog 55 #[v] w fun e w'=>∃ v',e=.returned v'∧w'.ownsRow w.heap.size 43 5 v' n cs∧Below w.heap.size w w':=by
 subst hv;obtain ⟨i0,hi,hz0,hz1,hz2⟩:=info_parts nodeInfoB;have q27:∀ (w:World) (a:Option Addr) (n c n' c':Nat),(binOp .eql 22 (.slice a n c) (.slice none n' c')).run Tryz.prog w=.ok (.bool a.isNone) w:=fun w a n c n' c'=>Lib.run_eql_slice_nil w _ _ a n c n' c' Tryz.underlying22
 cases a with
 | none =>
   have hn:=hn rfl;subst hn;have hcs:cs=[]:=List.eq_nil_of_length_eq_zero (by omega)
   subst hcs
   go_enter Tryz.func55,Tryz.ntmps55
   go_wp2;go_ret;exact ⟨_,rfl,World.ownsRow_nil _ _ _ _,Below.refl _ _⟩
 | some ad =>
   have A:Hid (∀ j u,cs[j]?=some u→w.cell? (ad.add j)=some u):=hc ad rfl;have H1:Hid (∀ u∈cs,u.oneCell'=true):=h1;clear hc h1 hn
   go_enter Tryz.func55,Tryz.ntmps55
   go_wp2_with (at_builtin;refine wpList_append_own _ rfl _ _ 22 rfl w.heap.size 43 i0 _ 5 80 Tryz.underlying22 hi hz0 hz1 hz2 rfl (by decide) _ _ _ rfl (World.ownsRow_made w #[] 0 (nR9 _) (nZ9 _) (by simp)) ad n cap cs rfl ?qc1 ?qc2 ?qc3 ?qc4 ?qc5 ?qc6 ?_)
   case qc1 => exact hl
   case qc2 =>
    intro j u hj;exact Lib.cell?_alloc_some _ (A.out j u hj)
   case qc3 => exact H1.out
   case qc4 => unfold maxLen;omega
   case qc5 => omega
   case qc6 => simp
   intro v' w1 hown hgrow hnil;go_wp2;go_ret;refine ⟨v',rfl,by simpa using hown,?_⟩
   exact ((Below.refl _ w).alloc (nR9 _) _).grown hgrow (by simp) (by intro k hk;simp[Value.ownBlock]at hk;omega)
theorem Xj (S:Nat→Prop)(v:Value)(l:List (ByteArray × ByteArray))(w:World)(h:qC S w v l)(hl:l.length≤1048576) :
 Calls Tryz.prog 56 #[v] w fun e w'=>∃ v',e=.returned v'∧js w.heap.size w' v' l∧Below w.heap.size w w':=by
 obtain ⟨a,cap,hv,h2,h3,h4⟩:=h;refine qaL v a l.length cap (attrCells l) w hv (fun e=>?_) (zt l) hl (fun ad e j u hj=>?_) (zW l)
 · rcases Nat.eq_zero_or_pos l.length with h0 | h0
   · exact h0
   · obtain ⟨b, o, ha, _⟩ := h4 (by intro e;subst e;simp at h0)
     rw[ha]at e;cases e
 · have hne : l ≠ [] := by intro e;subst e;simp[attrCells]at hj
   obtain ⟨b,o,ha,_,hc⟩:=h4 hne;rw[ha]at e
   injection e with e
   rw[←e,Addr.add_lit];exact qC.cells hc j u hj
theorem Xk (S:Nat→Prop)(v:Value)(l:List Int)(w:World)(h:zM S w v l)(hl:l.length≤1048576) :
 Calls Tryz.prog 57 #[v] w fun e w'=>∃ v',e=.returned v'∧qY w.heap.size w' v' l∧Below w.heap.size w w':=by
 have h0:=h;obtain ⟨a,cap,hv,h2,h3,h4⟩:=h;refine qaM v a l.length cap (qI l) w hv (fun e=>?_) (by rw[zR];omega) hl (fun ad e j u hj=>?_) (zS l)
 · rcases Nat.eq_zero_or_pos l.length with h0 | h0
   · exact h0
   · obtain ⟨b, o, ha, _⟩ := h4 (by intro e;subst e;simp at h0)
     rw[ha]at e;cases e
 · subst e;rw[hv]at h0
   exact h0.cells j u hj
theorem qK.raw {S:Nat→Prop}{w:World}{v:Value}{ns:List Nd}(h:qK S w v ns):∃ (a:Option Addr)(cap:Nat)(ms:List Rw),v=.slice a ns.length cap∧(a=none→ns.length=0)∧ms.length=ns.length∧(∀ (i:Nat) r x,ms[i]?=some r→ns[i]?=some x→xV S w r x)∧(∀ ad,a=some ad→∀ j u,(rawCells ms)[j]?=some u→w.cell? (ad.add j)=some u)∧∀ u∈rawCells ms,u.oneCell'=true:=by
 obtain ⟨a,cap,hv,h2,h3,h4⟩:=h
 by_cases hne:ns=[]
 · subst hne;exact ⟨a,cap,[],hv,fun _=>rfl,rfl,by simp,by simp[rawCells],by simp[rawCells]⟩
 · obtain ⟨b, o, ha, hs, hc⟩ := h4 hne
   obtain ⟨ms,hml,hms⟩:=QM (p:=fun i (r:Rw)=>∀ x,ns[i]?=some x→xV S w r x∧w.cell? ⟨b,o+i*5,none⟩=some (.bool r.text)∧w.cell? ⟨b,o+i*5+1,none⟩=some (.string r.s)∧w.cell? ⟨b,o+i*5+2,none⟩=some r.va∧w.cell? ⟨b,o+i*5+3,none⟩=some (.int .i64 r.par)∧w.cell? ⟨b,o+i*5+4,none⟩=some r.vk) ns.length (fun i hi=>by
    obtain ⟨va,vk,c0,c1,c2,c3,c4,hA,hK⟩:=hc i ns[i] (List.getElem?_eq_getElem hi);refine ⟨⟨ns[i].text,ns[i].s,va,ns[i].parent,vk⟩,fun x hx=>?_⟩
    rw[List.getElem?_eq_getElem hi]at hx
    obtain rfl:=Option.some.inj hx;exact ⟨⟨rfl,rfl,rfl,hA,hK⟩,c0,c1,c2,c3,c4⟩)
   have hget:∀ (i:Nat) r,ms[i]?=some r→∃ x,ns[i]?=some x:=fun i r hr=>by
    have:=qy hr;exact ⟨ns[i]'(by omega),List.getElem?_eq_getElem (by omega)⟩
   refine ⟨a,cap,ms,hv,(fun e=>by rw[ha]at e;cases e),hml,fun i r x hr hx=>(hms i r hr x hx).1,fun ad e j u hj=>?_,fun u hu=>?_⟩
   · rw[ha]at e
     injection e with e
     subst e;have hjl:=qy hj;rw[yL]at hjl
     obtain ⟨r,hr⟩:∃ r,ms[j / 5]?=some r:=⟨ms[j / 5]'(by omega),List.getElem?_eq_getElem (by omega)⟩
     obtain ⟨x,hx⟩:=hget _ _ hr;obtain ⟨_,c0,c1,c2,c3,c4⟩:=hms _ r hr x hx;obtain ⟨g0,g1,g2,g3,g4⟩:=zU ms (j / 5) r hr;rw[Addr.add_lit]
     rcases (by omega:j % 5=0∨j % 5=1∨j % 5=2∨j % 5=3∨j % 5=4) with e|e|e|e|e
     · rw[show o+j=o+j / 5*5 by omega,c0];rw[show j=j / 5*5 by omega,g0]at hj;exact hj
     · rw[show o+j=o+j / 5*5+1 by omega,c1];rw[show j=j / 5*5+1 by omega,g1]at hj;exact hj
     · rw[show o+j=o+j / 5*5+2 by omega,c2];rw[show j=j / 5*5+2 by omega,g2]at hj;exact hj
     · rw[show o+j=o+j / 5*5+3 by omega,c3];rw[show j=j / 5*5+3 by omega,g3]at hj;exact hj
     · rw[show o+j=o+j / 5*5+4 by omega,c4];rw[show j=j / 5*5+4 by omega,g4]at hj;exact hj
   · obtain ⟨j, hj⟩ := List.mem_iff_getElem?.1 hu;have hjl:=qy hj;rw[yL]at hjl
     obtain ⟨r,hr⟩:∃ r,ms[j / 5]?=some r:=⟨ms[j / 5]'(by omega),List.getElem?_eq_getElem (by omega)⟩
     obtain ⟨x,hx⟩:=hget _ _ hr;obtain ⟨⟨_,_,_,hA,hK⟩,_⟩:=hms _ r hr x hx;obtain ⟨g0,g1,g2,g3,g4⟩:=zU ms (j / 5) r hr;obtain ⟨a2,c2,hA2,_⟩:=hA;obtain ⟨k2,d2,hK2,_⟩:=hK
     rcases (by omega:j % 5=0∨j % 5=1∨j % 5=2∨j % 5=3∨j % 5=4) with e|e|e|e|e
     · rw[show j=j / 5*5 by omega,g0]at hj;obtain rfl:=Option.some.inj hj;rfl
     · rw[show j=j / 5*5+1 by omega,g1]at hj;obtain rfl:=Option.some.inj hj;rfl
     · rw[show j=j / 5*5+2 by omega,g2]at hj;obtain rfl:=Option.some.inj hj;rw[hA2];rfl
     · rw[show j=j / 5*5+3 by omega,g3]at hj;obtain rfl:=Option.some.inj hj;rfl
     · rw[show j=j / 5*5+4 by omega,g4]at hj;obtain rfl:=Option.some.inj hj;rw[hK2];rfl
structure NB (B bb:Nat) (v:Value) (ns:List Nd) (i:Nat) (ms:List Rw) (W:World):Prop where
 len:ms.length=ns.length
 row:W.ownsRow B 43 5 v ns.length (rawCells ms)
 rlt:∀ g,v.ownBlock=some g→g<bb
 le:B≤bb
 box:W.heap[bb]?=some (.cells #[v] 82 (0,0))
 each:∀ (j:Nat) r x,ms[j]?=some r→ns[j]?=some x→r.text=x.text∧r.s=x.s∧r.par=x.parent∧(j<i→qY (bb+1) W r.vk x.kids∧js (bb+1) W r.va x.attrs)∧(i≤j→qC (fun b=>b<B) W r.va x.attrs∧zM (fun b=>b<B) W r.vk x.kids)
 kids:∀ (j k:Nat) (r q:Rw) (b:Nat),j≠k→j<i→k<i→ms[j]?=some r→ms[k]?=some q→r.vk.ownBlock=some b→q.vk.ownBlock≠some b
 attrs:∀ (j k:Nat) (r q:Rw) (b:Nat),j≠k→j<i→k<i→ms[j]?=some r→ms[k]?=some q→r.va.ownBlock=some b→q.va.ownBlock≠some b
theorem NB.bench {B bb:Nat}{v:Value}{ns:List Nd}{ms:List Rw}{W:World}(h:NB B bb v ns ns.length ms W)(hB:B≤W.heap.size):Bx B (fun b=>b<B) ns.length bb W v ns ms:=by
 refine ⟨h.box,h.le,h.len,h.row,fun j r x hr hx=>?_,fun j k r q b hne hr hq=>?_,fun j k r q b hne hj hk hr hq=>h.attrs j k r q b hne hj hk hr hq,fun b hb=>hb,hB⟩
 · obtain ⟨e1, e2, e3, e4, _⟩ := h.each j r x hr hx;obtain ⟨k1,k2⟩:=e4 (qy hx);have hle:=h.le
   have low:∀ {e:TypeId} {size n:Nat} {v:Value} {xs:List Value},W.ownsRow (bb+1) e size v n xs→W.ownsRow B e size v n xs:=fun ho=>by
    refine ⟨ho.1,?_⟩
    rcases ho.2 with h1|⟨g,cap,cur,h1,h2,h3⟩
    · exact Or.inl h1
    · exact Or.inr ⟨g,cap,cur,h1,by omega,h3⟩
   exact ⟨e1,e2,e3,low k1,fun _=>low k2,fun hj=>absurd (qy hx) (by omega)⟩
 · have h1 := qy hr;have h2:=qy hq;rw[h.len]at h1 h2
   exact h.kids j k r q b hne h1 h2 hr hq
theorem NB.step {B bb g cap:Nat}{ns:List Nd}{i:Nat}{ms:List Rw}{W Wa Wc:World}{va vk:Value}{r:Rw}{x:Nd}(h:NB B bb (.slice (some ⟨g,0,none⟩) ns.length cap) ns i ms W)(hr:ms[i]?=some r)(hx:ns[i]?=some x)(hBW:B≤W.heap.size)
 (hA:js W.heap.size Wa va x.attrs) (ha:Below W.heap.size W Wa) (hK:qY Wa.heap.size Wc vk x.kids) (hc:Below Wa.heap.size (Wa.setCell ⟨g,i*5+2,none⟩ va) Wc) :
 NB B bb (.slice (some ⟨g,0,none⟩) ns.length cap) ns (i+1) (ms.set i { r with va:=va,vk:=vk }) (Wc.setCell ⟨g,i*5+4,none⟩ vk):=by
 have hbl:=qA h.box;have hgb:g<bb:=h.rlt g rfl;have hsa:=ha.size;have hsc:=hc.size;have hss:(Wa.setCell ⟨g,i*5+2,none⟩ va).heap.size=Wa.heap.size:=by simp
 have him:i<ms.length:=qy hr
 have old:∀ b,b<W.heap.size→b≠g→(Wc.setCell ⟨g,i*5+4,none⟩ vk).heap[b]?=W.heap[b]?:=fun b hb hne=>by
  rw[qd hne,hc.block b (by omega),qd hne,ha.block b hb]
 have rowa:Wa.ownsRow B 43 5 (.slice (some ⟨g,0,none⟩) ns.length cap) ns.length (rawCells ms):=qH h.row ha;have rowb:=(rowa.stored (i*5+2) va).1
 have rowc:Wc.ownsRow B 43 5 (.slice (some ⟨g,0,none⟩) ns.length cap) ns.length ((rawCells ms).set (i*5+2) va):=qF rowb (fun b hb=>by
  have:g=b:=by injection hb
  subst this;exact hc.block g (by omega))
 have rowd:=(rowc.stored (i*5+4) vk).1
 have ecell:((rawCells ms).set (i*5+2) va).set (i*5+4) vk=rawCells (ms.set i { r with va:=va,vk:=vk }):=by
  have e1:=xZ ms i r va hr;have hr2:(ms.set i { r with va:=va })[i]?=some { r with va:=va }:=List.getElem?_set_self him
  have e2:=yI (ms.set i { r with va:=va }) i { r with va:=va } vk hr2
  rw[←e1,←e2,List.set_set]
 rw[ecell]at rowd
 have vab:∀ b,va.ownBlock=some b→W.heap.size≤b∧b<Wa.heap.size:=fun b hb=>hA.lt b hb
 have vkb:∀ b,vk.ownBlock=some b→Wa.heap.size≤b∧b<Wc.heap.size:=fun b hb=>hK.lt b hb
 have hAd:js W.heap.size (Wc.setCell ⟨g,i*5+4,none⟩ vk) va x.attrs:=qF hA (fun b hb=>by
  obtain ⟨q1,q2⟩:=vab b hb;have hne:b≠g:=by omega
  rw[qd hne,hc.block b q2,qd hne])
 have hKd:qY Wa.heap.size (Wc.setCell ⟨g,i*5+4,none⟩ vk) vk x.kids:=qF hK (fun b hb=>qd (by have:=(vkb b hb).1;omega))
 have base:∀ {e:TypeId} {size n b:Nat} {v:Value} {xs:List Value} {U:World},b≥bb+1→U.ownsRow b e size v n xs→U.ownsRow (bb+1) e size v n xs:=fun hb ho=>by
  refine ⟨ho.1,?_⟩
  rcases ho.2 with h1|⟨g,cap,cur,h1,h2,h3⟩
  · exact Or.inl h1
  · exact Or.inr ⟨g,cap,cur,h1,by omega,h3⟩
 refine ⟨by rw[List.length_set];exact h.len,rowd,h.rlt,h.le,by rw[old bb hbl (by omega)];exact h.box,fun j q y hq hy=>?_,fun j k p q b hne hj hk hp hq hb=>?_,fun j k p q b hne hj hk hp hq hb=>?_⟩
 · by_cases hji : j = i
   · subst hji;rw[List.getElem?_set_self him]at hq
     obtain rfl:=Option.some.inj hq;rw[hx]at hy
     obtain rfl:=Option.some.inj hy;obtain ⟨e1,e2,e3,_,_⟩:=h.each j r x hr hx;exact ⟨e1,e2,e3,fun _=>⟨base (by omega) hKd,base (by omega) hAd⟩,fun hh=>by omega⟩
   · rw[List.getElem?_set_ne (fun e => hji e.symm)]at hq
     obtain ⟨e1,e2,e3,e4,e5⟩:=h.each j q y hq hy;refine ⟨e1,e2,e3,fun hj=>?_,fun hj=>?_⟩
     · obtain ⟨f1, f2⟩ := e4 (by omega)
       exact ⟨qF f1 (fun b hb=>old b (f1.lt b hb).2 (by have:=(f1.lt b hb).1;omega)),qF f2 (fun b hb=>old b (f2.lt b hb).2 (by have:=(f2.lt b hb).1;omega))⟩
     · obtain ⟨f1, f2⟩ := e5 (by omega)
       have hgB:B≤g:=(h.row.lt g rfl).1;exact ⟨f1.carry (fun b hb=>⟨hb,old b (by omega) (by omega)⟩),f2.carry (fun b hb=>⟨hb,old b (by omega) (by omega)⟩)⟩
 · by_cases hji : j = i
   · subst hji;rw[List.getElem?_set_self him]at hp
     obtain rfl:=Option.some.inj hp;rw[List.getElem?_set_ne hne]at hq
     obtain ⟨y,hy⟩:∃ y,ns[k]?=some y:=⟨ns[k]'(by have:=qy hq;rw[h.len]at this;exact this),by simp⟩
     intro e;have:=((h.each k q y hq hy).2.2.2.1 (by omega)).1.lt b e
     have:=(vkb b hb).1;omega
   · rw[List.getElem?_set_ne (fun e => hji e.symm)]at hp
     by_cases hki:k=i
     · subst hki;rw[List.getElem?_set_self him]at hq
       obtain rfl:=Option.some.inj hq;obtain ⟨y,hy⟩:∃ y,ns[j]?=some y:=⟨ns[j]'(by have:=qy hp;rw[h.len]at this;exact this),by simp⟩
       intro e;have:=((h.each j p y hp hy).2.2.2.1 (by omega)).1.lt b hb
       have:=(vkb b e).1;omega
     · rw[List.getElem?_set_ne (fun e => hki e.symm)]at hq
       exact h.kids j k p q b hne (by omega) (by omega) hp hq hb
 · by_cases hji : j = i
   · subst hji;rw[List.getElem?_set_self him]at hp
     obtain rfl:=Option.some.inj hp;rw[List.getElem?_set_ne hne]at hq
     obtain ⟨y,hy⟩:∃ y,ns[k]?=some y:=⟨ns[k]'(by have:=qy hq;rw[h.len]at this;exact this),by simp⟩
     intro e;have:=((h.each k q y hq hy).2.2.2.1 (by omega)).2.lt b e
     have:=(vab b hb).1;omega
   · rw[List.getElem?_set_ne (fun e => hji e.symm)]at hp
     by_cases hki:k=i
     · subst hki;rw[List.getElem?_set_self him]at hq
       obtain rfl:=Option.some.inj hq;obtain ⟨y,hy⟩:∃ y,ns[j]?=some y:=⟨ns[j]'(by have:=qy hp;rw[h.len]at this;exact this),by simp⟩
       intro e;have:=((h.each j p y hp hy).2.2.2.1 (by omega)).2.lt b hb
       have:=(vab b e).1;omega
     · rw[List.getElem?_set_ne (fun e => hki e.symm)]at hq
       exact h.attrs j k p q b hne (by omega) (by omega) hp hq hb
end
section
attribute [local go_sem] qD
set_option linter.unusedSimpArgs false in
set_option maxHeartbeats 2000000 in
theorem YI (v:Value)(ns:List Nd)(w:World)(h:qK (fun b=>b<w.heap.size) w v ns)(hne:ns≠[])(hb:Bnd 1000 ns) :
 Calls Tryz.prog 31 #[v] w fun e w'=>∃ bb v' ms',e=.returned (.pointer (some ⟨bb,0,none⟩))∧Bx w.heap.size (fun b=>b<w.heap.size) ns.length bb w' v' ns ms'∧Below w.heap.size w w':=by
 obtain ⟨a0,cap0,ms0,hv,ha0,hml,hraw,hcells,hone⟩:=h.raw;have hnl:0<ns.length:=List.length_pos_iff.2 hne;have hbl:=hb.1;have HC:Hid _:=qaN v a0 ns.length cap0 (rawCells ms0) w hv ha0 (by rw[yL,hml]) (by omega) hcells hone
 have HRW:Hid (∀ (i:Nat) r x,ms0[i]?=some r→ns[i]?=some x→xV (fun b=>b<w.heap.size) w r x):=hraw
 have HBN:Hid (Bnd 1000 ns):=hb;subst hv;clear h hraw hcells hone ha0 hb
 go_enter Tryz.func31,Tryz.ntmps31
 go_wp2_with fail;refine (Calls.mono HC.out ?_);rintro e w1 ⟨v1,rfl,hown,hb1⟩;obtain ⟨g,cap,rfl,hcl,hcm⟩:=yT hown hnl;obtain ⟨hgB,hgl⟩:=hown.lt g rfl;have hsz1:=hb1.size;obtain ⟨bb,hbb⟩:∃ bb,bb=w1.heap.size:=⟨_,rfl⟩
 have HNB:Hid (NB w.heap.size bb (.slice (some ⟨g,0,none⟩) ns.length cap) ns 0 ms0 (w1.alloc (.cells #[.slice (some ⟨g,0,none⟩) ns.length cap] 82))):=by
  refine ⟨hml,World.ownsRow.alloc hown _,fun g' e=>by injection e with e;rw[hbb,←e];exact hgl,by omega,by rw[hbb];exact heap_alloc_new _ _,fun j r x hr hx=>?_,fun j k r q b _ hj=>by omega,fun j k r q b _ hj=>by omega⟩
  obtain ⟨e1,e2,e3,e4,e5⟩:=HRW.out j r x hr hx;have hbx:Below w.heap.size w (w1.alloc (.cells #[.slice (some ⟨g,0,none⟩) ns.length cap] 82)):=hb1.alloc hsz1 _;exact ⟨e1,e2,e3,fun hj=>by omega,fun _=>⟨e4.later hbx,e5.later hbx⟩⟩
 have HB1:Hid (Below w.heap.size w (w1.alloc (.cells #[.slice (some ⟨g,0,none⟩) ns.length cap] 82))):=hb1.alloc hsz1 _;have b0:(w1.alloc (.cells #[.slice (some ⟨g,0,none⟩) ns.length cap] 82)).cell? ⟨w1.heap.size,0,none⟩=some (.slice (some ⟨g,0,none⟩) ns.length cap):=by rw[cH9 (heap_alloc_new w1 _)];rfl
 unfold maxLen at hcm
 clear hown HC HRW hb1;go_wp2_with fail;rw[←hbb];clear hbb b0 hgl hsz1
 go_loopg [14] ns.length (fun gh vi wr=>∃ (i:Nat) (ms:List Rw),i+gh=ns.length∧vi=.int .i64 (i:Int)∧NB w.heap.size bb (.slice (some ⟨g,0,none⟩) ns.length cap) ns i ms wr∧Below w.heap.size w wr)
 case atStart => exact ⟨0,ms0,by omega,rfl,HNB.out,HB1.out⟩
 case round =>
  obtain ⟨i,ms,hig,rfl,hN,hB⟩:=hrel;have HN:Hid (NB w.heap.size bb (.slice (some ⟨g,0,none⟩) ns.length cap) ns i ms wr):=hN;clear hN
  by_cases hlt:i<ns.length
  · have hlti : (i : Int) < (ns.length : Int) := by omega
    obtain ⟨x,hx⟩:∃ x,ns[i]?=some x:=⟨ns[i],by simp[hlt]⟩
    obtain ⟨r,hr⟩:∃ r,ms[i]?=some r:=⟨ms[i]'(by rw[HN.out.len];exact hlt),by simp⟩
    obtain ⟨hbk,hba⟩:=HBN.out.2 x (List.mem_of_getElem? hx);obtain ⟨_,_,_,_,hfar⟩:=HN.out.each i r x hr hx;obtain ⟨hAt,hKt⟩:=hfar (nR9 _);have hsw:=hB.size;have hgb:g<bb:=HN.out.rlt g rfl;have hbbl:=qA HN.out.box;obtain ⟨_,_,h2,_,h4⟩:=zU ms i r hr;have c2:wr.cell? ⟨g,i*5+2,none⟩=some r.va:=by rw[World.ownsRow.cellAt HN.out.row (i*5+2) (by omega)];exact h2
    have c4:wr.cell? ⟨g,i*5+4,none⟩=some r.vk:=by rw[World.ownsRow.cellAt HN.out.row (i*5+4) (by omega)];exact h4
    obtain ⟨cur,hcur,_,_,_,_⟩:=jr HN.out.row;obtain ⟨aa,ac,hva⟩:∃ a c,r.va=.slice a x.attrs.length c:=by obtain ⟨a,c,e,_⟩:=hAt;exact ⟨a,c,e⟩
    obtain ⟨ka,kc,hvk⟩:∃ a c,r.vk=.slice a x.kids.length c:=by obtain ⟨a,c,e,_⟩:=hKt;exact ⟨a,c,e⟩
    have HBX:Hid (∀ W:World,W.heap[bb]?=wr.heap[bb]?→W.cell? ⟨bb,0,none⟩=some (.slice (some ⟨g,0,none⟩) ns.length cap)):=fun W e=>by rw[cH9 (e.trans HN.out.box)];rfl
    have HA:Hid (Calls Tryz.prog 56 #[.slice aa x.attrs.length ac] wr.drew fun e w'=>∃ v',e=.returned v'∧(js wr.heap.size w' v' x.attrs∧Below wr.heap.size wr.drew w')):=by
     have:=Xj (fun b=>b<w.heap.size) r.va x.attrs wr.drew (hAt.carry fun b hb=>⟨hb,rfl⟩) (by omega)
     rw[hva]at this
     exact this
    have HK:Hid (∀ W:World,(∀ b,b<w.heap.size→W.heap[b]?=wr.heap[b]?)→Calls Tryz.prog 57 #[.slice ka x.kids.length kc] W fun e w'=>∃ v',e=.returned v'∧(qY W.heap.size w' v' x.kids∧Below W.heap.size W w')):=fun W e=>by
     rw[←hvk];exact Xk (fun b=>b<w.heap.size) r.vk x.kids W (hKt.carry fun b hb=>⟨hb,e b hb⟩) (by omega)
    have HST:Hid (∀ (Wa Wc:World) (va vk:Value),js wr.heap.size Wa va x.attrs→Below wr.heap.size wr Wa→qY Wa.heap.size Wc vk x.kids→Below Wa.heap.size (Wa.setCell ⟨g,i*5+2,none⟩ va) Wc→NB w.heap.size bb (.slice (some ⟨g,0,none⟩) ns.length cap) ns (i+1) (ms.set i { r with va:=va,vk:=vk }) (Wc.setCell ⟨g,i*5+4,none⟩ vk)∧Below w.heap.size w (Wc.setCell ⟨g,i*5+4,none⟩ vk)):=fun Wa Wc va vk q1 q2 q3 q4=>by
     refine ⟨HN.out.step hr hx (by omega) q1 q2 q3 q4,?_⟩
     have s1:Below w.heap.size w Wa:=hB.trans (q2.mono hsw);have s2:=s1.setCell (p:=⟨g,i*5+2,none⟩) hgB va;have s3:=s2.trans (q4.mono (Nat.le_trans hsw q2.size));exact s3.setCell (p:=⟨g,i*5+4,none⟩) hgB vk
    rw[hva]at c2
    rw[hvk]at c4
    have fz:∀ (W:World) (k:Nat),W.heap[g]?=some (.cells cur 43 (0,0))→W.frozen? ⟨g,k,none⟩=false:=fun W k e=>fH9 e k
    have HFZ:Hid _:=fz;have HCUR:Hid _:=hcur;have HS0:Hid _:=HBX.out wr.drew rfl;have c2d:wr.drew.cell? ⟨g,i*5+2,none⟩=some (.slice aa x.attrs.length ac):=c2;clear hAt hKt hx hr h2 h4 fz hcur hfar hva hvk;go_wp2_with fail;refine wp_region_held_drew (S:=fun W:World=>W.cell? ⟨bb,0,none⟩=some (.slice (some ⟨g,0,none⟩) ns.length cap)) (by kernel_rfl) HS0.out (fun hHeld=>?_)
    refine wqi [0,1,2,3,4,5,6,7,8,9,10,11] ?_
    repeat (refine wqt (v:=?_) rfl (by kernel_rfl) (fun _ _ _ h=>h) (by rfl) (by assumption) ?_ ?_;rotate_left;(· (intro w hSw;(try dsimp only at hSw);go_simp;try with_reducible rfl));try simp only[Act.put,List.getElem_toArray,List.getElem_cons_succ,List.getElem_cons_zero,List.setIfInBounds_toArray,List.set_cons_zero,List.set_cons_succ])
    refine wqn ?_;refine wpAnyH_ready (rs:=[12]) (by kernel_rfl) (by simp) ?_
    refine AllReadyH.cons rfl (fun K hK=>?_) AllReadyH.nil
    go_simp;refine hK.out _ _ HS0.out (fun hHeld=>?_)
    clear hK K
    try simp only[Act.put,List.setIfInBounds_toArray,List.set_cons_zero,List.set_cons_succ]
    refine wpAnyH_ready (rs:=[13]) (by kernel_rfl) (by simp) ?_
    refine AllReadyH.cons rfl (fun K hK=>?_) AllReadyH.nil
    refine zy (by rfl) 56 #[.slice aa x.attrs.length ac] (by go_simp) _ HA.out ?_
    rintro va Wa ⟨hA1,hA2⟩;have hA2:Below wr.heap.size wr Wa:=⟨hA2.os,hA2.tape,hA2.output,hA2.size,fun b hb=>hA2.block b hb⟩
    obtain ⟨ga,na,ca,rfl⟩:∃ a n c,va=.slice a n c:=qN hA1;have hsa:=hA2.size;have HSa:Hid _:=HBX.out Wa (hA2.block bb hbbl);have HSb:Hid _:=HBX.out (Wa.setCell ⟨g,i*5+2,none⟩ (.slice ga na ca)) ((qd (by omega)).trans (hA2.block bb hbbl))
    have ca2:Wa.cell? ⟨g,i*5+2,none⟩=some (.slice aa x.attrs.length ac):=by rw[hA2.cell (p:=⟨g,i*5+2,none⟩) (qA HCUR.out)];exact c2
    have fa2:=HFZ.out Wa (i*5+2) ((hA2.block g (qA HCUR.out)).trans HCUR.out);have HA1:Hid _:=hA1;clear hA1;refine hK.out _ _ HSa.out (fun hHeld=>?_)
    clear hK K
    try simp only[Act.put,List.setIfInBounds_toArray,List.set_cons_zero,List.set_cons_succ]
    refine wqi [14,15] ?_
    repeat (refine wqt (v:=?_) rfl (by kernel_rfl) (fun _ _ _ h=>h) (by rfl) (by assumption) ?_ ?_;rotate_left;(· (intro w hSw;(try dsimp only at hSw);go_simp;try with_reducible rfl));try simp only[Act.put,List.getElem_toArray,List.getElem_cons_succ,List.getElem_cons_zero,List.setIfInBounds_toArray,List.set_cons_zero,List.set_cons_succ])
    refine wqn ?_;refine wpAnyH_ready (rs:=[16]) (by kernel_rfl) (by simp) ?_
    refine AllReadyH.cons rfl (fun K hK=>?_) AllReadyH.nil
    go_simp;refine hK.out _ _ HSb.out (fun hHeld=>?_)
    clear hK K
    try simp only[Act.put,List.setIfInBounds_toArray,List.set_cons_zero,List.set_cons_succ]
    refine wpAnyH_done (by kernel_rfl) ?_ _
    have hgne:∀ b,b<w.heap.size→b≠g:=fun b hb=>by omega
    have HSc:Hid _:=HBX.out (Wa.setCell ⟨g,i*5+2,none⟩ (.slice ga na ca)).drew ((qd (by omega)).trans (hA2.block bb hbbl))
    have HKC:Hid _:=HK.out (Wa.setCell ⟨g,i*5+2,none⟩ (.slice ga na ca)).drew (fun b hb=>(qd (hgne b hb)).trans (hA2.block b (by omega)))
    have rowa:Wa.ownsRow w.heap.size 43 5 (.slice (some ⟨g,0,none⟩) ns.length cap) ns.length (rawCells ms):=qH HN.out.row hA2
    have cb4:(Wa.setCell ⟨g,i*5+2,none⟩ (.slice ga na ca)).drew.cell? ⟨g,i*5+4,none⟩=some (.slice ka x.kids.length kc):=by
     have h1:(Wa.setCell ⟨g,i*5+2,none⟩ (.slice ga na ca)).cell? ⟨g,i*5+4,none⟩=Wa.cell? ⟨g,i*5+4,none⟩:=World.cell?_setCell_other _ _ _ _ (by simp)
     rw[show (Wa.setCell ⟨g,i*5+2,none⟩ (.slice ga na ca)).drew.cell? ⟨g,i*5+4,none⟩=(Wa.setCell ⟨g,i*5+2,none⟩ (.slice ga na ca)).cell? ⟨g,i*5+4,none⟩ from rfl,h1,hA2.cell (p:=⟨g,i*5+4,none⟩) (qA HCUR.out)]
     exact c4
    obtain ⟨Wb,hWb⟩:∃ Wb,Wb=(Wa.setCell ⟨g,i*5+2,none⟩ (.slice ga na ca)).drew:=⟨_,rfl⟩;have hWbs:Wb.heap.size=Wa.heap.size:=by rw[hWb];simp
    have HWB:Hid (∀ Wc,Below Wb.heap.size Wb Wc→Below Wa.heap.size (Wa.setCell ⟨g,i*5+2,none⟩ (.slice ga na ca)) Wc):=fun Wc hq=>by rw[←hWbs];rw[hWb]at hq ⊢;exact ⟨hq.os,hq.tape,hq.output,hq.size,fun b hb=>hq.block b hb⟩
    rw[←hWb]at HSc HKC cb4
    have HROWB:Hid (∃ cur',Wb.heap[g]?=some (.cells cur' 43 (0,0))):=by
     obtain ⟨cur',h',_⟩:=jr ((rowa.stored (i*5+2) (.slice ga na ca)).1);exact ⟨cur',by rw[hWb];exact h'⟩
    have hbbW:bb<Wb.heap.size:=by omega
    have HBXB:Hid (Wb.heap[bb]?=wr.heap[bb]?):=by
     show _=_
     rw[hWb];exact (qd (by omega)).trans (hA2.block bb hbbl)
    clear rowa HSb HSa ca2 fa2 c2 c4 c2d HA HK HS0;go_wp2_with fail;refine wp_region_held_drew (S:=fun W:World=>W.cell? ⟨bb,0,none⟩=some (.slice (some ⟨g,0,none⟩) ns.length cap)) (by kernel_rfl) (by first|exact HSc.out|(rw[←hWb];exact HSc.out)) (fun hHeld=>?_)
    first|rw[←hWb]|skip
    clear hWb;refine wqi [0,1,2,3,4,5,6,7,8,9,10,11] ?_
    repeat (refine wqt (v:=?_) rfl (by kernel_rfl) (fun _ _ _ h=>h) (by rfl) (by assumption) ?_ ?_;rotate_left;(· (intro w hSw;(try dsimp only at hSw);go_simp;try with_reducible rfl));try simp only[Act.put,List.getElem_toArray,List.getElem_cons_succ,List.getElem_cons_zero,List.setIfInBounds_toArray,List.set_cons_zero,List.set_cons_succ])
    refine wqn ?_;refine wpAnyH_ready (rs:=[12]) (by kernel_rfl) (by simp) ?_
    refine AllReadyH.cons rfl (fun K hK=>?_) AllReadyH.nil
    go_simp;refine hK.out _ _ HSc.out (fun hHeld=>?_)
    clear hK K
    try simp only[Act.put,List.setIfInBounds_toArray,List.set_cons_zero,List.set_cons_succ]
    refine wpAnyH_ready (rs:=[13]) (by kernel_rfl) (by simp) ?_
    refine AllReadyH.cons rfl (fun K hK=>?_) AllReadyH.nil
    refine zy (by rfl) 57 #[.slice ka x.kids.length kc] (by go_simp) _ HKC.out ?_
    rintro vk Wc ⟨hK1,hK2⟩;obtain ⟨gk,nk,ck,rfl⟩:∃ a n c,vk=.slice a n c:=qN hK1;obtain ⟨cur',hcur'⟩:=HROWB.out;have hgl':=qA hcur';have HSd:Hid _:=HBX.out Wc ((hK2.block bb hbbW).trans HBXB.out);have HSe:Hid _:=HBX.out (Wc.setCell ⟨g,i*5+4,none⟩ (.slice gk nk ck)) ((qd (by omega)).trans ((hK2.block bb hbbW).trans HBXB.out))
    have cc4:Wc.cell? ⟨g,i*5+4,none⟩=some (.slice ka x.kids.length kc):=by rw[hK2.cell (p:=⟨g,i*5+4,none⟩) hgl'];exact cb4
    have fc4:Wc.frozen? ⟨g,i*5+4,none⟩=false:=fH9 ((hK2.block g hgl').trans hcur') _;have HG:Hid _:=HST.out Wa Wc (.slice ga na ca) (.slice gk nk ck) HA1.out hA2 (by rw[←hWbs];exact hK1) (HWB.out Wc hK2)
    clear hK1 hK2;refine hK.out _ _ HSd.out (fun hHeld=>?_)
    clear hK K
    try simp only[Act.put,List.setIfInBounds_toArray,List.set_cons_zero,List.set_cons_succ]
    refine wqi [14,15] ?_
    repeat (refine wqt (v:=?_) rfl (by kernel_rfl) (fun _ _ _ h=>h) (by rfl) (by assumption) ?_ ?_;rotate_left;(· (intro w hSw;(try dsimp only at hSw);go_simp;try with_reducible rfl));try simp only[Act.put,List.getElem_toArray,List.getElem_cons_succ,List.getElem_cons_zero,List.setIfInBounds_toArray,List.set_cons_zero,List.set_cons_succ])
    refine wqn ?_;refine wpAnyH_ready (rs:=[16]) (by kernel_rfl) (by simp) ?_
    refine AllReadyH.cons rfl (fun K hK=>?_) AllReadyH.nil
    go_simp;refine hK.out _ _ HSe.out (fun hHeld=>?_)
    clear hK K
    try simp only[Act.put,List.setIfInBounds_toArray,List.set_cons_zero,List.set_cons_succ]
    refine wpAnyH_done (by kernel_rfl) ?_ _
    go_wp2_with fail
    go_roundg (ns.length-(i+1))
    case measure => omega
    case rel => exact ⟨i+1,_,by omega,by go_num,HG.out.1,HG.out.2⟩
  · have hlti : ¬ (i : Int) < (ns.length : Int) := by omega
    have hieq:i=ns.length:=by omega
    subst hieq;have HF:Hid _:=HN.out.bench hB.size;go_wp2_with fail
    go_returns
    exact ⟨bb,rfl,⟨_,ms,HF.out⟩,hB⟩
end
section
attribute [local go_sem] qD
theorem YZ.bring {T T':Nat→Prop}{w w':World}{n:Nat}{r:Orw}{x:Opn}(h:YZ T w n r x)(hw:∀ b,T b→T' b∧w'.heap[b]?=w.heap[b]?):YZ T' w' n r x:=by
 obtain ⟨h1,h2,h3,h4,ca,cc,h5,h6⟩:=h;exact ⟨h1,h2,h3,h4,ca,cc,h5,qw.carry hw n h6⟩
structure OcI (w:World) (n:Nat) (acc:List Opn) (rs:List Orw) (v:Value) (wr:World):Prop where
 below:Below w.heap.size w wr
 len:rs.length=acc.length
 row:wr.ownsRow w.heap.size 30 5 v acc.length (zD rs)
 each:∀ (i:Nat) r x,rs[i]?=some r→acc[i]?=some x→YZ (fun b=>w.heap.size≤b∧b<wr.heap.size∧v.ownBlock≠some b) wr n r x
theorem OcI.step {w wr w3 w4:World}{n:Nat}{acc:List Opn}{rs:List Orw}{v v':Value}{x:Opn}{ca:Option Addr}{cc:Nat}(h:OcI w n acc rs v wr)(hb:Below wr.heap.size wr w3)(hT:qw (fun b=>wr.heap.size≤b) w3 n (.slice ca x.content.length cc) x.content)
 (hown:w4.ownsRow w.heap.size 30 5 v' (acc.length+1) (zD rs++[.int .i64 x.kind,.int .i64 x.target,.slice ca x.content.length cc,.string x.name,.string x.s])) (hgr:w3.grownBy w4 v.ownBlock) (hat:v'.ownBlock=v.ownBlock∨v'.ownBlock=some w3.heap.size) :
 OcI w n (acc++[x]) (rs++[⟨x.kind,x.target,ca,x.content.length,cc,x.name,x.s⟩]) v' w4:=by
 have hB3:=h.below.trans (hb.mono h.below.size);have hlt:∀ g,v.ownBlock=some g→w.heap.size≤g∧g<wr.heap.size:=fun g hg=>h.row.lt g hg
 have carry:∀ b,w.heap.size≤b∧b<w3.heap.size∧v.ownBlock≠some b→(w.heap.size≤b∧b<w4.heap.size∧v'.ownBlock≠some b)∧w4.heap[b]?=w3.heap[b]?:=by
  rintro b ⟨h1,h2,h3⟩;refine ⟨⟨h1,Nat.lt_of_lt_of_le h2 hgr.size,?_⟩,hgr.block b h2 (fun e=>h3 e.symm)⟩
  rcases hat with e|e
  · rw[e];exact h3
  · rw[e];intro e';cases e';exact Nat.lt_irrefl _ h2
 refine ⟨hB3.grown hgr hB3.size (fun g hg=>(hlt g hg).1),by simp[h.len],?_,fun i r y hr hy=>?_⟩
 · rw[List.length_append];unfold zD at hown ⊢
   rw[List.flatMap_append];exact hown
 · rcases Nat.lt_or_ge i acc.length with hi | hi
   · rw[List.getElem?_append_left (by rw[h.len];exact hi)]at hr
     rw[List.getElem?_append_left hi]at hy
     refine ((h.each i r y hr hy).bring (T':=fun b=>w.heap.size≤b∧b<w3.heap.size∧v.ownBlock≠some b) fun b hb'=>⟨⟨hb'.1,Nat.lt_of_lt_of_le hb'.2.1 hb.size,hb'.2.2⟩,hb.block b hb'.2.1⟩).bring carry
   · rw[List.getElem?_append_right (by rw[h.len];exact hi)]at hr
     rw[List.getElem?_append_right hi]at hy
     rw[h.len]at hr
     have hz:i-acc.length=0:=by
      rcases Nat.eq_zero_or_pos (i-acc.length) with h'|h'
      · exact h'
      · rw[List.getElem?_eq_none (by simp;omega)]at hy;cases hy
     rw[hz]at hr hy
     simp at hr hy
     subst hr hy;refine ⟨rfl,rfl,rfl,rfl,ca,cc,rfl,qw.carry (fun b hb'=>carry b ⟨Nat.le_trans h.below.size hb'.1,hb'.2,fun e=>?_⟩) n (qw.bounded n hT)⟩
     have:=(hlt b e).2;omega
set_option maxHeartbeats 1000000 in
theorem qa7 (S:Nat→Prop)(n:Nat)(v:Value)(l:List Opn)(w:World)(hO:Ops S w n v l)(hsm:∀ x∈l,Small n x.content)(hl:l.length≤1048576) :
 Calls Tryz.prog 6 #[v] w fun e w'=>∃ v',e=.returned v'∧Ops (fun b=>w.heap.size≤b) w' n v' l∧Below w.heap.size w w':=by
 obtain ⟨i0,hi,hz0,hz1,hz2⟩:=info_parts opInfo;obtain ⟨a,cap,rfl,hlc,hcm⟩:=hO.shape;unfold maxLen at hcm
 have HO:Hid (Ops S w n (.slice a l.length cap) l):=hO;have HSM:Hid _:=hsm;clear hO hsm
 go_enter Tryz.func6,Tryz.ntmps6
 go_wp2_with fail
 go_loopg [8,3] l.length (fun g i u wr=>∃ (k:Nat) (rs:List Orw) (v:Value),k+g=l.length∧i=.int .i64 k∧v=u∧OcI w n (l.take k) rs v wr)
 case atStart => exact ⟨0,[],_,by omega,rfl,rfl,⟨Below.refl _ _,rfl,World.ownsRow_nil _ _ _ _,fun i r x h=>by simp at h⟩⟩
 case round =>
  obtain ⟨k,rs,v,hk,rfl,hvu,hA⟩:=hrel;subst hvu;have HA:Hid (OcI w n (l.take k) rs v wr):=hA;clear hA
  by_cases hlt:k<l.length
  · have hlti : (k : Int) < (l.length : Int) := by omega
    obtain ⟨x,hx⟩:∃ x,l[k]?=some x:=⟨l[k],by simp[hlt]⟩
    obtain ⟨b,o,cap',ca,cc,hv,_,_,c0,c1,c2,c3,c4,hT⟩:=(HO.out.later HA.out.below).at hx
    injection hv with hv1 hv2 hv3
    subst hv1 hv3
    have hsn:l.take (k+1)=l.take k++[x]:=by
     rw[List.take_succ_eq_append_getElem hlt];congr 2;simpa[hlt] using hx
    have HS:Hid (l.take (k+1)=l.take k++[x]):=hsn;have hlk:(l.take k).length=k:=by rw[List.length_take];omega
    obtain ⟨us,hus⟩:∃ us,l.take k=us:=⟨_,rfl⟩;rw[hus]at HA hlk HS
    have HL:Hid (us.length=k):=hlk;have hb1:=Below.alloc1 wr (.cells #[.int .i64 x.kind,.int .i64 x.target,.slice ca x.content.length cc,.string x.name,.string x.s] 30);have HBX:Hid _:=heap_alloc_new wr (.cells #[.int .i64 x.kind,.int .i64 x.target,.slice ca x.content.length cc,.string x.name,.string x.s] 30);have HCP:Hid _:=Jf n S (.slice ca x.content.length cc) x.content _ (qw.later hb1 n hT) (HSM.out x (List.mem_of_getElem? hx));have hszw:wr.heap.size<(wr.alloc (.cells #[.int .i64 x.kind,.int .i64 x.target,.slice ca x.content.length cc,.string x.name,.string x.s] 30)).heap.size:=by simp
    clear hv2 hT hx hsn hus hlk;go_wp2_with fail
    generalize wr.alloc (.cells #[.int .i64 x.kind,.int .i64 x.target,.slice ca x.content.length cc,.string x.name,.string x.s] 30)=W1 at *
    refine Calls.mono HCP.out ?_;rintro e w2 ⟨vc,rfl,hT2,hb2⟩;obtain ⟨ca2,cc2,rfl,_,_⟩:=qw.shape n hT2;have hbx2:=(hb2.block _ (qA HBX.out)).trans HBX.out;have q2:w2.cell? ⟨wr.heap.size,2,none⟩=some (.slice ca x.content.length cc):=by rw[cH9 hbx2];rfl
    have qf:w2.frozen? ⟨wr.heap.size,2,none⟩=false:=fH9 hbx2 _
    have hbx3:(w2.setCell ⟨wr.heap.size,2,none⟩ (.slice ca2 x.content.length cc2)).heap[wr.heap.size]?=some (.cells #[.int .i64 x.kind,.int .i64 x.target,.slice ca2 x.content.length cc2,.string x.name,.string x.s] 30 (0,0)):=by
     simp[World.setCell,Array.getElem?_modify,hbx2]
    obtain ⟨p0,p1,p2,p3,p4⟩:=yk hbx3;have hB3:Below wr.heap.size wr (w2.setCell ⟨wr.heap.size,2,none⟩ (.slice ca2 x.content.length cc2)):=(hb1.trans (hb2.mono hb1.size)).setCell (p:=⟨wr.heap.size,2,none⟩) (nR9 _) _;have hT3:qw (fun b=>wr.heap.size≤b) (w2.setCell ⟨wr.heap.size,2,none⟩ (.slice ca2 x.content.length cc2)) n (.slice ca2 x.content.length cc2) x.content:=qw.carry (fun b hb=>⟨by omega,qd (by omega)⟩) n hT2
    have hr3:(w2.setCell ⟨wr.heap.size,2,none⟩ (.slice ca2 x.content.length cc2)).ownsRow w.heap.size 30 5 v k (zD rs):=by
     have:=qH HA.out.row hB3;rw[HL.out]at this
     exact this
    have hs2:wr.heap.size<w2.heap.size:=qA hbx2;have hsw:w.heap.size≤wr.heap.size:=HA.out.below.size;have HB3:Hid _:=hB3;have HT3:Hid _:=hT3;have HR3:Hid _:=hr3;have HX3:Hid _:=hbx3;clear hb1 HBX HCP hT2 hb2 hbx2 hbx3 hB3 hT3 hr3;go_wp2_with (at_builtin;refine wpList_append_own_at _ rfl _ _ 25 rfl w.heap.size 30 i0 _ 5 72 Tryz.underlying25 hi hz0 hz1 hz2 rfl (by decide) v k (zD rs) rfl ?qc0 ⟨w2.heap.size,0,none⟩ 1 1 [.int .i64 x.kind,.int .i64 x.target,.slice ca2 x.content.length cc2,.string x.name,.string x.s] rfl ?qc1 ?qc2 ?qc3 ?qc4 ?qc5 ?qc6 ?_)
    case qc0 => exact World.ownsRow.alloc HR3.out _
    case qc1 => rfl
    case qc2 =>
     intro j u hj;have hnew:=heap_alloc_new (w2.setCell ⟨wr.heap.size,2,none⟩ (.slice ca2 x.content.length cc2)) (.cells #[.int .i64 x.kind,.int .i64 x.target,.slice ca2 x.content.length cc2,.string x.name,.string x.s] 30);rw[World.size_setCell]at hnew
     rw[Addr.add_lit,Nat.zero_add,cH9 hnew]
     simpa using hj
    case qc3 =>
     intro u hu;simp only[List.mem_cons,List.not_mem_nil,or_false]at hu
     rcases hu with rfl|rfl|rfl|rfl|rfl<;>rfl
    case qc4 => unfold maxLen;omega
    case qc5 => omega
    case qc6 => simp;omega
    intro v2 W2 hown hgr _ hat;have hbA:=Below.alloc1 (w2.setCell ⟨wr.heap.size,2,none⟩ (.slice ca2 x.content.length cc2)) (.cells #[.int .i64 x.kind,.int .i64 x.target,.slice ca2 x.content.length cc2,.string x.name,.string x.s] 30);have HI2:Hid (OcI w n (us++[x]) (rs++[⟨x.kind,x.target,ca2,x.content.length,cc2,x.name,x.s⟩]) v2 W2):=OcI.step HA.out (HB3.out.trans (hbA.mono HB3.out.size)) (qw.later hbA n HT3.out) (by rw[HL.out];exact hown) hgr (by rw[World.size_alloc,World.size_setCell];simpa using hat)
    clear hown hgr hbA HX3 HB3 HT3 HR3 p0 p1 p2 p3 p4 q2 qf hat;go_wp2_with fail
    go_roundg (l.length-(k+1))
    case measure => omega
    case rel => exact ⟨k+1,_,v2,by omega,by go_num,rfl,by rw[HS.out];exact HI2.out⟩
  · have hlti : ¬ ((k : Int) < (l.length : Int)) := by omega
    have hkk:k=l.length:=by omega
    subst hkk;rw[List.take_length]at HA
    go_wp2_with fail;go_ret;refine ⟨v,rfl,?_,HA.out.below⟩;obtain ⟨a',cap',h1,h2,h3,h4⟩:=JO HA.out.row HA.out.len HA.out.each;refine ⟨a',cap',h1,h2,h3,fun hne=>?_⟩
    obtain ⟨b,o,e1,e2,e3⟩:=h4 hne;refine ⟨b,o,e1,(HA.out.row.lt b e2).1,fun i x hx=>?_⟩
    obtain ⟨ca,cc,f0,f1,f2,f3,f4,f5⟩:=e3 i x hx;exact ⟨ca,cc,f0,f1,f2,f3,f4,qw.carry (fun b hb=>⟨hb.1,rfl⟩) n f5⟩
end
end Go.Proofs.YtnppmdpmippcoaaGreatDoor
