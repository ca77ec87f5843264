/- tree.joinTexts: a new list in which the texts are joined; the kids of its trees are still those that were handed in. Condition: at most 2^20 letters, texts, attributes in each list. -/
import Derived.Test.YtfdbipeidmpciaaMath
namespace Go.Proofs.Ytfdbipeidmpciaa
open Go.ChangeShapes Go.WideShapes Go.ChangeAt Go.RowKit
set_option maxRecDepth 100000
structure Raw (S:Nat→Prop) (n B:Nat) (w:World) (v:Value) (us:List Tr) (qs:List (Bool × ByteArray × Value × Value)):Prop where
 len:qs.length=us.length
 own:w.ownsRow B 29 4 v us.length (quadCells qs)
 each:∀ (i:Nat) (q:Bool × ByteArray × Value × Value) (t:Tr),qs[i]?=some q→us[i]?=some t→q.1=t.text∧q.2.1=t.s∧qc (qy B 65 w) w q.2.2.1 t.attrs∧qa S w n q.2.2.2 t.kids
theorem Raw.nil (S:Nat→Prop)(n B:Nat)(w:World):Raw S n B w (.slice none 0 0) [] [] :=
 ⟨rfl,World.ownsRow_nil _ _ _ _,fun i q t h=>by simp at h⟩
theorem qj {w w':World}{B:Nat}{e:TypeId}{size:Nat}{v:Value}{k:Nat}{xs:List Value}(h:w.ownsRow B e size v k xs)(hb:Below w.heap.size w w'):w'.ownsRow B e size v k xs:=by
 obtain ⟨h1,h2⟩:=h;refine ⟨h1,?_⟩
 rcases h2 with h2|⟨g,cap,cur,hv,hg,hh,r⟩
 · exact Or.inl h2
 · refine Or.inr ⟨g, cap, cur, hv, hg, ?_, r⟩;rw[hb.block g ?_]
   · exact hh
   · rcases Nat.lt_or_ge g w.heap.size with h' | h'
     · exact h'
     · simp[Array.getElem?_eq_none h']at hh
theorem qn {w w':World}{B:Nat}{e:TypeId}{size:Nat}{v:Value}{k:Nat}{xs:List Value}(h:w.ownsRow B e size v k xs)(hb:∀ g,v.ownBlock=some g→w'.heap[g]?=w.heap[g]?):w'.ownsRow B e size v k xs:=by
 obtain ⟨h1,h2⟩:=h;refine ⟨h1,?_⟩
 rcases h2 with h2|⟨g,cap,cur,rfl,hg,hh,r⟩
 · exact Or.inl h2
 · exact Or.inr ⟨g,cap,cur,rfl,hg,by rw[hb g rfl];exact hh,r⟩
theorem qg {w:World}{B:Nat}{e:TypeId}{size:Nat}{v:Value}{k:Nat}{xs:List Value}(h:w.ownsRow B e size v k xs){g:Nat}(hg:v.ownBlock=some g):qy B e w g:=by
 rcases h.2 with ⟨rfl,_⟩|⟨g',cap,cur,rfl,hb,hh,_⟩
 · cases hg
 · cases hg;exact ⟨hb,_,_,hh⟩
theorem qc.own_later {w w':World}{B:Nat}{e:TypeId}{v:Value}{l:List (ByteArray × ByteArray)}(h:qc (qy B e w) w v l)(hb:Below w.heap.size w w'):qc (qy B e w') w' v l :=
 h.carry fun b hs=>⟨hs.to (nR9 _) (hb.block b hs.lt),hb.block b hs.lt⟩
theorem Raw.later {S:Nat→Prop}{n B:Nat}{w w':World}{v:Value}{us:List Tr}{qs:List (Bool × ByteArray × Value × Value)}(h:Raw S n B w v us qs)(hb:Below w.heap.size w w'):Raw S n B w' v us qs :=
 ⟨h.len,qj h.own hb,fun i q t hq ht=>by
  obtain ⟨a,b,c,d⟩:=h.each i q t hq ht;exact ⟨a,b,c.own_later hb,qa.later hb n d⟩⟩
theorem qr {w:World}{B:Nat}{e e':TypeId}{size:Nat}{v:Value}{k:Nat}{xs:List Value}{b B':Nat}(h:w.ownsRow B e size v k xs)(hs:qy B' e' w b)(hne:e'≠e):some b≠v.ownBlock:=by
 rcases h.2 with ⟨rfl,_⟩|⟨g,cap,cur,rfl,_,hg,_⟩
 · simp[Value.ownBlock]
 · intro hb;simp only[Value.ownBlock,Option.some.injEq]at hb
   subst hb;obtain ⟨_,c,fz,hc⟩:=hs;rw[hg]at hc
   simp only[Option.some.injEq,Obj.cells.injEq]at hc
   exact hne hc.2.1.symm
theorem Raw.snoc {S:Nat→Prop}{n B:Nat}{w w':World}{v v':Value}{us:List Tr}{qs:List (Bool × ByteArray × Value × Value)}{t:Tr}{q:Bool × ByteArray × Value × Value}
 (h:Raw S n B w v us qs) (hS:∀ b,S b→b<B∧b<w.heap.size) (hown:w'.ownsRow B 29 4 v' (us.length+1) (quadCells qs++[.bool q.1,.string q.2.1,q.2.2.1,q.2.2.2]))
 (hg:w.grownBy w' v.ownBlock) (h1:q.1=t.text) (h2:q.2.1=t.s) (ha:qc (qy B 65 w) w q.2.2.1 t.attrs) (hk:qa S w n q.2.2.2 t.kids):Raw S n B w' v' (us++[t]) (qs++[q]):=by
 have carryA:∀ {x l},qc (qy B 65 w) w x l→qc (qy B 65 w') w' x l:=fun hx =>
  hx.carry fun b hs=>by
   have e:=hg.block b hs.lt (qr h.own hs (by decide))
   exact ⟨hs.to (nR9 _) e,e⟩
 have carryT:∀ {x l},qa S w n x l→qa S w' n x l:=fun hx =>
  qa.carry (fun b hs=>⟨hs,hg.block b (hS b hs).2 (fun e=>by have:=h.own.lt b e.symm;have:=(hS b hs).1;omega)⟩) n hx
 refine ⟨by simp[h.len],?_,?_⟩
 · rw[ze,List.length_append];exact hown
 · intro i q' t' hq ht
   rcases Nat.lt_or_ge i us.length with hi|hi
   · rw[List.getElem?_append_left (by rw[h.len];exact hi)]at hq
     rw[List.getElem?_append_left hi]at ht
     obtain ⟨a,b,c,d⟩:=h.each i q' t' hq ht;exact ⟨a,b,carryA c,carryT d⟩
   · rw[List.getElem?_append_right (by rw[h.len];exact hi)]at hq
     rw[List.getElem?_append_right hi]at ht
     rw[h.len]at hq
     have hz:i-us.length=0:=by
      rcases Nat.eq_zero_or_pos (i-us.length) with h'|h'
      · exact h'
      · rw[List.getElem?_eq_none (by simp;omega)]at ht;cases ht
     rw[hz]at hq ht
     simp at hq ht
     subst hq ht;exact ⟨h1,h2,carryA ha,carryT hk⟩
theorem treeInfo:(Try.prog.info? 29).map (fun i=>(i.zero,i.size,i.bytes))=some (some (.agg #[.bool false,.string ⟨#[]⟩,.slice none 0 0,.slice none 0 0]),4,72):=by kernel_rfl
theorem Raw.shape {S:Nat→Prop}{n B:Nat}{w:World}{v:Value}{us:List Tr}{qs:List (Bool × ByteArray × Value × Value)}(h:Raw S n B w v us qs):∃ a c,v=.slice a us.length c:=by
 rcases h.own.2 with ⟨hv,h0⟩|⟨g,cap,cur,hv,_⟩
 · exact ⟨none,0,by rw[hv,h0]⟩
 · exact ⟨_,_,hv⟩
theorem qa.drop {S:Nat→Prop}{w:World}{n:Nat}{b o len cap:Nat}{ts:List Tr}(h:qa S w (n+1) (.slice (some ⟨b,o,none⟩) len cap) ts)(k:Nat)(hk:k≤ts.length)(hs:S b)  :
 qa S w (n+1) (.slice (some ⟨b,o+k*4,none⟩) (len-k) (cap-k)) (ts.drop k):=by
 obtain ⟨a,c,h1,h2,h3,h4⟩:=h;cases h1;refine ⟨_,_,by rw[List.length_drop],by rw[List.length_drop];omega,by omega,fun hne=>⟨b,o+k*4,rfl,hs,fun i t ht=>?_⟩⟩
 have hne':ts≠[]:=by intro e;subst e;simp at hne
 obtain ⟨b',o',ha,_,hc⟩:=h4 hne';cases ha;rw[List.getElem?_drop]at ht
 have:=hc (k+i) t ht;rw[Nat.add_mul,←Nat.add_assoc]at this
 exact this
theorem qa.take {S:Nat→Prop}{w:World}{n:Nat}{b o len cap:Nat}{ts:List Tr}(h:qa S w (n+1) (.slice (some ⟨b,o,none⟩) len cap) ts)(k:Nat)(hk:k≤ts.length) :
 qa S w (n+1) (.slice (some ⟨b,o,none⟩) k cap) (ts.take k):=by
 obtain ⟨a,c,h1,h2,h3,h4⟩:=h;cases h1;refine ⟨_,_,by rw[List.length_take,Nat.min_eq_left hk],by rw[List.length_take];omega,h3,fun hne=>?_⟩
 have hne':ts≠[]:=by intro e;subst e;simp at hne
 obtain ⟨b',o',ha,hs,hc⟩:=h4 hne';cases ha;refine ⟨b,o,rfl,hs,fun i t ht=>hc i t ?_⟩
 rw[List.getElem?_take]at ht
 split at ht
 · exact ht
 · cases ht
theorem qR (w:World)(a b c d:Value)(e:TypeId):∀ (j:Nat)(u:Value),([a,b,c,d]:List Value)[j]?=some u→(w.alloc (.cells #[a,b,c,d] e)).cell? ((⟨w.heap.size,0,none⟩:Addr).add j)=some u:=by
 intro j u hj
 match j,hj with
 | 0,hj|1,hj|2,hj|3,hj=>simp at hj;subst hj;simp[Addr.add]
theorem y6 {s:ByteArray}(h:s.data.toList≠[]):s.toList.isEmpty=false:=by
 rw[ByteArray.toList_eq];cases hl:s.data.toList with
 | nil=>exact absurd hl h
 | cons _ _=>rfl
theorem Qj {s:ByteArray}(h:s≠⟨#[]⟩):s.toList.isEmpty=false:=by
 rw[ByteArray.toList_eq];cases hl:s.data.toList with
 | nil=>exact absurd (by cases s;simp at hl;subst hl;rfl) h
 | cons _ _=>rfl
attribute [local go_sem] qe
theorem zz (S:Nat→Prop)(n:Nat)(v:Value)(ts:List Tr)(w:World)(h:qa S w (n+1) v ts)(hsm:Small (n+1) ts)(hS:∀ b,S b→b<w.heap.size) :
 Calls Try.prog 28 #[v] w fun e w'=>∃ v' qs,e=.returned v'∧Raw S n w.heap.size w' v' (jt ts) qs∧Below w.heap.size w w':=by
 obtain ⟨i0,hi,hz0,hz1,hz2⟩:=info_parts treeInfo;have hlen:=hsm.1;obtain ⟨a,cap,rfl,_,_⟩:=qa.shape (n+1) h
 go_enter Try.func28,Try.ntmps28
 go_wp2_with fail
 go_loopg [0,3] (ts.length) (fun g l j wr=>∃ rest us qs,rest.length=g∧qa S w (n+1) l rest∧Small (n+1) rest∧Raw S n w.heap.size wr j us qs∧Below w.heap.size w wr∧jt ts=us++jt rest∧us.length+rest.length≤ts.length)
 case atStart => exact ⟨ts,[],[],rfl,h,hsm,Raw.nil _ _ _ _,Below.refl _ _,rfl,by simp⟩
 case round =>
  obtain ⟨rest,us,qs,hgk,hT,hsmr,hraw,hB,hjt,hcount⟩:=hrel;subst hgk;have HJ:Hid (jt ts=us++jt rest):=hjt;clear hjt;obtain ⟨ja,jc,rfl⟩:=hraw.shape;obtain ⟨la,lc,rfl,hlc,hlm⟩:=qa.shape (n+1) hT;unfold maxLen at hlm
  cases rest with
  | nil =>
    simp only[List.length_nil];go_wp2_with fail;go_ret;refine ⟨_,qs,rfl,?_,hB⟩;have:=HJ.out;rw[show jt []=[] from rfl,List.append_nil]at this
    rw[this];exact hraw
  | cons t r =>
    have hT0:=hT;obtain ⟨_,_,hv,_,_,h4⟩:=hT;cases hv;obtain ⟨b,o,rfl,hs,hcc⟩:=h4 (by simp)
    obtain ⟨va,vk,c0,c1,c2,c3,hat,hkt⟩:=hcc 0 t rfl;obtain ⟨aa,ac,rfl⟩:=hat.shape;obtain ⟨ka,kc,rfl,_,_⟩:=qa.shape n hkt;simp only[Nat.zero_mul,Nat.add_zero]at c0 c1 c2 c3
    have hbl:b<w.heap.size:=hS b hs;rw[←hB.cell (p:=⟨b,o,none⟩) hbl]at c0
    rw[←hB.cell (p:=⟨b,o+1,none⟩) hbl]at c1
    rw[←hB.cell (p:=⟨b,o+2,none⟩) hbl]at c2
    rw[←hB.cell (p:=⟨b,o+3,none⟩) hbl]at c3
    have hsz:=hB.size;have hblr:b<wr.heap.size:=by omega
    clear hcc h4
    by_cases htx:t.text=true
    · obtain ⟨N, hN⟩ : ∃ N, ahead (t :: r) = N := ⟨_, rfl⟩;have hN0:0<N:=by rw[←hN];simp[ahead,htx]
      have hN1:N≤r.length+1:=by rw[←hN];exact yp (t::r)
      have hNb:((N:Int)==0)=false:=by simp;omega
      have hNc:N≤lc:=by simp only[List.length_cons]at hlc;omega
      have HN:Hid (ahead (t::r)=N):=hN;have htd:qa S w (n+1) (.slice (some ⟨b,o+N*4,none⟩) (r.length+1-N) (lc-N)) ((t::r).drop N):=qa.drop hT0 N (by simpa using hN1) hs
      have htk:qa S w (n+1) (.slice (some ⟨b,o,none⟩) N lc) ((t::r).take N):=qa.take hT0 N (by simpa using hN1)
      have hsk:Small (n+1) ((t::r).take N):=hsmr.take;obtain ⟨p,hp⟩:∃ p,(t::r).take N=p:=⟨_,rfl⟩;have HP:Hid ((t::r).take N=p):=hp;rw[hp]at htk hsk
      clear hp;go_wp2_with fail;refine (yS S n _ (t::r) _ (qa.later hB _ hT0)).mono ?_;rintro e w' ⟨rfl,rfl⟩;rw[hN];clear hN;go_wp2_with fail;refine (jP S n _ p _ (qa.later hB _ htk) hsk.2.1 (fun x hx=>(hsk.2.2 x hx).1)).mono ?_
      rintro e w1 ⟨fb,fa,fal,fac,fk,fkl,fkc,rfl,hb1,hf1⟩;have HF:Hid (∀ t,firstNE p=some t→fb=t.text∧qc (qy w'.heap.size 65 w1) w1 (.slice fa fal fac) t.attrs∧qa S w' n (.slice fk fkl fkc) t.kids):=hf1;clear hf1;have hraw1:=hraw.later hb1;have hB1:=hB.trans (hb1.mono hsz)
      have hend:∀ us':List Tr,us'=us++qk p→jt ts=us'++jt ((t::r).drop N):=by
       intro us' hu;rw[hu,HJ.out,jK (t::r),HN.out,HP.out,List.append_assoc]
      have HE:Hid (∀ us':List Tr,us'=us++qk p→jt ts=us'++jt ((t::r).drop N)):=hend;clear hend
      by_cases hcat:catL p=[]
      · have HC : Hid (catL p = []) := hcat;rw[hcat];clear hcat;go_wp2_with fail
        all_goals
         go_roundg ((t::r).drop N).length
         case measure => simp;omega
         case rel =>
          refine ⟨(t::r).drop N,us,qs,rfl,?_,hsmr.drop,hraw1.later (Below.alloc1 _ _),hB1.alloc (by have:=hb1.size;omega) _,HE.out us ?_,by simp only[List.length_drop,List.length_cons]at hcount ⊢;omega⟩
          · first
            | exact htd
            | (have hr0 : (t :: r).drop N = [] := List.drop_of_length_le (by simp only[List.length_cons]at hlc ⊢;omega)
               rw[hr0];have e0:r.length+1-N=0:=by simp only[List.length_cons]at hlc;omega
               rw[e0];exact qa.nil _ ⟨_,_,rfl,by omega⟩)
          · unfold qk;rw[(qI p).2 HC.out];simp
      · obtain ⟨x,hx⟩:∃ x,firstNE p=some x:=by
         cases hf:firstNE p with
         | none=>exact absurd ((qI p).1 hf) hcat
         | some x=>exact ⟨x,rfl⟩
        obtain ⟨rfl,ha1,hk1⟩:=HF.out x hx;have HX:Hid (firstNE p=some x):=hx;have hcat':(catL p).toArray≠#[]:=by simpa using hcat
        obtain ⟨cs,hcs⟩:∃ cs:ByteArray,sOf (catL p)=cs:=⟨_,rfl⟩;have hcs':(⟨(catL p).toArray⟩:ByteArray)=cs:=hcs
        have hne0:cs≠⟨#[]⟩:=by
         rw[←hcs'];intro e;injection e with e;exact hcat' e
        have hne:cs.toList.isEmpty=false:=Qj hne0;clear hne0;rw[hcs'];clear hx HF hcat' hcs';have HCS:Hid (sOf (catL p)=cs):=hcs;clear hcs hcat;have hraw1':=hraw1.later (Below.alloc1 w1 (.cells #[.bool x.text,.string cs,.slice fa fal fac,.slice fk fkl fkc] 29));go_wp2_with (at_builtin;refine wpList_append_own _ rfl _ _ 22 rfl w.heap.size 29 i0 _ 4 72 Try.underlying22 hi hz0 hz1 hz2 rfl (by decide) _ _ _ rfl (hraw1'.own.alloc _) ⟨w1.heap.size+1,0,none⟩ 1 1 [.bool x.text,.string cs,.slice fa fal fac,.slice fk fkl fkc] rfl ?qc1 ?qc2 ?qc3 ?qc4 ?qc5 ?qc6 ?_)
        case qc1 => rfl
        case qc2 =>
         have:=qR (w1.alloc (.cells #[.bool x.text,.string cs,.slice fa fal fac,.slice fk fkl fkc] 29)) (.bool x.text) (.string cs) (.slice fa fal fac) (.slice fk fkl fkc) 29;rw[World.size_alloc]at this
         exact this
        case qc3 => intro u hu;simp at hu;rcases hu with rfl|rfl|rfl|rfl<;>rfl
        case qc4 => unfold maxLen;simp only[List.length_cons]at hcount;omega
        case qc5 => simp only[List.length_cons]at hcount;omega
        case qc6 => have:=hb1.size;simp;omega
        intro v' w2 hown' hgrow _;have hraw2:=hraw1'.later (Below.alloc1 _ (.cells #[.bool x.text,.string cs,.slice fa fal fac,.slice fk fkl fkc] 29));have hBa:Below w1.heap.size w1 ((w1.alloc (.cells #[.bool x.text,.string cs,.slice fa fal fac,.slice fk fkl fkc] 29)).alloc (.cells #[.bool x.text,.string cs,.slice fa fal fac,.slice fk fkl fkc] 29)):=(Below.alloc1 w1 _).alloc (by simp) _
        have hraw3:=hraw2.snoc (t:={ x with s:=cs }) (q:=(x.text,cs,.slice fa fal fac,.slice fk fkl fkc)) (fun b hb=>⟨hS b hb,by have:=hS b hb;have:=hb1.size;simp;omega⟩) hown' hgrow rfl rfl
         ((ha1.carry (fun b hb=>⟨hb.to hsz rfl,rfl⟩)).own_later hBa) (qa.later (hb1.trans (hBa.mono hb1.size)) n hk1)
        have hB2:Below w.heap.size w w2:=(hB1.trans (hBa.mono (by have:=hb1.size;omega))).grown hgrow (by have:=hb1.size;simp;omega) (fun k hk=>(hraw2.own.lt k hk).1)
        obtain ⟨va',vc',rfl⟩:=hraw3.shape;have hll:(us++[{ x with s:=cs }]).length=us.length+1:=by simp
        rw[hll]at hraw3 ⊢
        clear hown' hll;go_wp2_with fail
        all_goals
         go_roundg ((t::r).drop N).length
         case measure => simp;omega
         case rel =>
          refine ⟨(t::r).drop N,us++[{ x with s:=cs }],_,rfl,?_,hsmr.drop,hraw3,hB2,HE.out _ ?_,by simp only[List.length_drop,List.length_cons,List.length_append,List.length_nil]at hcount ⊢;omega⟩
          · first
            | exact htd
            | (have hr0 : (t :: r).drop N = [] := List.drop_of_length_le (by simp only[List.length_cons]at hlc ⊢;omega)
               rw[hr0];have e0:r.length+1-N=0:=by simp only[List.length_cons]at hlc;omega
               rw[e0];exact qa.nil _ ⟨_,_,rfl,by omega⟩)
          · unfold qk;rw[HX.out,←HCS.out]
    · have hah : ahead (t :: r) = 0 := by simp[ahead, htx]
      have htx':t.text=false:=by simpa using htx
      have htr:qa S w (n+1) (.slice (some ⟨b,o+1*4,none⟩) (r.length+1-1) (lc-1)) r:=qa.drop hT0 1 (by simp) hs
      go_wp2_with fail;refine (yS S n _ (t::r) _ (qa.later hB _ hT0)).mono ?_;rintro e w' ⟨rfl,rfl⟩;rw[hah];go_wp2_with fail;refine (zQ S _ _ _ _ _ _ t.attrs _ (hat.later hB) (hsmr.2.2 t List.mem_cons_self).1).mono ?_;rintro e w1 ⟨v1,rfl,ha1,hb1⟩;obtain ⟨a1,ac1,rfl⟩:=ha1.shape;have hraw1:=hraw.later hb1;have hB1:=hB.trans (hb1.mono hsz);go_wp2_with (at_builtin;refine wpList_append_own _ rfl _ _ 22 rfl w.heap.size 29 i0 _ 4 72 Try.underlying22 hi hz0 hz1 hz2 rfl (by decide) _ _ _ rfl (hraw1.own.alloc _) ⟨w1.heap.size,0,none⟩ 1 1 [.bool false,.string t.s,.slice a1 t.attrs.length ac1,.slice ka t.kids.length kc] rfl ?qc1 ?qc2 ?qc3 ?qc4 ?qc5 ?qc6 ?_)
      case qc1 => rfl
      case qc2 => exact qR _ _ _ _ _ _
      case qc3 => intro u hu;simp at hu;rcases hu with rfl|rfl|rfl|rfl<;>rfl
      case qc4 => unfold maxLen;simp only[List.length_cons]at hcount;omega
      case qc5 => simp only[List.length_cons]at hcount;omega
      case qc6 => have:=hb1.size;simp;omega
      intro v' w2 hown' hgrow _;have hraw2:Raw S n w.heap.size (w1.alloc (.cells #[.bool false,.string t.s,.slice a1 t.attrs.length ac1,.slice ka t.kids.length kc] 29)) (.slice ja us.length jc) us qs:=hraw1.later (Below.alloc1 _ _)
      have hraw3:=hraw2.snoc (t:=t) (q:=(false,t.s,.slice a1 t.attrs.length ac1,.slice ka t.kids.length kc)) (fun b hb=>⟨hS b hb,by have:=hS b hb;have:=hb1.size;simp;omega⟩) hown' hgrow htx'.symm rfl
       ((ha1.carry (fun b hb=>⟨hb.to hsz rfl,rfl⟩)).own_later (Below.alloc1 _ _)) (qa.later (hB1.alloc (by have:=hb1.size;omega) _) n hkt)
      have hB2:Below w.heap.size w w2:=(hB1.alloc (by have:=hb1.size;omega) _).grown hgrow (by have:=hb1.size;simp;omega) (fun k hk=>(hraw2.own.lt k hk).1)
      obtain ⟨va',vc',rfl⟩:=hraw3.shape;have hll:(us++[t]).length=us.length+1:=by simp
      rw[hll]at hraw3 ⊢
      clear hown' hll;go_wp2_with fail
      all_goals
       go_roundg r.length
       case measure => simp
       case rel =>
        refine ⟨r,us++[t],_,rfl,?_,Small.drop (k:=1) hsmr,hraw3,hB2,?_,by simp only[List.length_append,List.length_cons,List.length_nil]at hcount ⊢;omega⟩
        · first
          | exact htr
          | (have hr0 : r = [] := List.eq_nil_of_length_eq_zero (by simp only[List.length_cons]at hlc;omega)
             subst hr0;exact qa.nil _ ⟨_,_,rfl,nZ9 _⟩)
        · rw[HJ.out,zN t r htx'];simp
end Go.Proofs.Ytfdbipeidmpciaa
