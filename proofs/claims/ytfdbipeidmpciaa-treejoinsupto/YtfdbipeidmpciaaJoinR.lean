/- topiaryref.JoinedOf: the joined list, by the document's own road. Condition: at most 2^20 trees, and letters and attributes in each list. -/
import Derived.Test.YtfdbipeidmpciaaGrow
import Derived.Test.YtfdbipeidmpciaaOnceM
namespace Go.Proofs.Ytfdbipeidmpciaa
open Go.ChangeShapes Go.WideShapes Go.ChangeAt Go.RowKit
set_option maxRecDepth 100000
def jn:Nat→List Tr→List Tr
 | 0,_=>[]
 | n+1,ts=>qv n ts
theorem jl (n:Nat)(t:Tr):(jk n t).kids=jn n t.kids:=by cases n<;>rfl
def JOk (n:Nat):Prop:=∀ (S:Nat→Prop)(v:Value)(ts:List Tr)(w:World),qa S w n v ts→Small n ts→(∀ b,S b→b<w.heap.size) →
 Calls Try.prog 10 #[v] w fun e w'=>∃ r,e=.returned r∧qa (fun b=>S b∨w.heap.size≤b) w' n r (jn n ts)∧Below w.heap.size w w'
theorem joinR_zero:JOk 0:=by
 intro S v ts w h _ _;obtain ⟨rfl,a,cap,rfl,_⟩:=h
 go_enter Try.func10,Try.ntmps10
 go_wp2_with fail;go_rounds 1;go_ret;exact ⟨_,rfl,⟨rfl,none,0,rfl,nZ9 _⟩,Below.refl _ _⟩
attribute [local go_sem] qe
def xj (ts p:List Tr)(b o m:Nat)(f:Value):Prop :=
 (firstNE (p.take m)=none∧f=.pointer none)∨∃ i x,ts[i]?=some x∧firstNE (p.take m)=some x∧f=.pointer (some ⟨b,o+i*4,none⟩)
set_option maxHeartbeats 4000000 in
set_option maxRecDepth 100000 in
theorem j2 (n:Nat)(h:JOk n):JOk (n+1):=by
 intro S v ts w h1 hsm hS;have H:Hid (JOk n):=h;clear h;obtain ⟨i0,hi,hz0,hz1,hz2⟩:=info_parts treeInfo;have hlen:=hsm.1;obtain ⟨a,cap,rfl,_,hm,h4⟩:=h1;unfold maxLen at hm
 go_enter Try.func10,Try.ntmps10
 go_wp2_with fail
 go_loopg [4,3] ts.length (fun g i o wr=>∃ (k:Nat) (us:List Tr) (qs:List (Bool × ByteArray × Value × Value)),k+g=ts.length∧i=.int .i64 k∧qL S n w.heap.size wr o us qs∧Below w.heap.size w wr∧qv n ts=us++qv n (ts.drop k)∧us.length≤k)
 case atStart => exact ⟨0,[],[],by omega,rfl,qL.nil _ _ _ _,Below.refl _ _,rfl,by simp⟩
 case round =>
  obtain ⟨k,us,qs,hk,rfl,hG,hB,hj,hul⟩:=hrel;have HJ:Hid (qv n ts=us++qv n (ts.drop k)):=hj;clear hj;have hsz:=hB.size;obtain ⟨ja,jc,rfl⟩:=hG.shape
  by_cases hlt:k<ts.length
  · have hne : ts ≠ [] := by intro e;subst e;simp at hlt
    obtain ⟨b,o,rfl,hs,hcc⟩:=h4 hne;obtain ⟨t,ht⟩:∃ t,ts[k]?=some t:=⟨ts[k],by simp[hlt]⟩
    obtain ⟨va,vk,c0,c1,c2,c3,hat,hkt⟩:=hcc k t ht;obtain ⟨aa,ac,rfl⟩:=hat.shape;obtain ⟨ka,kc,rfl,_,_⟩:=qa.shape n hkt;have hbl:b<w.heap.size:=World.block_lt_of_cell? w _ c0;have hblr:b<wr.heap.size:=by omega
    rw[←hB.cell (p:=⟨b,o+k*4,none⟩) hbl]at c0
    rw[←hB.cell (p:=⟨b,o+k*4+1,none⟩) hbl]at c1
    rw[←hB.cell (p:=⟨b,o+k*4+2,none⟩) hbl]at c2
    rw[←hB.cell (p:=⟨b,o+k*4+3,none⟩) hbl]at c3
    have hd:ts.drop k=t::ts.drop (k+1):=by
     rw[List.drop_eq_getElem_cons hlt];congr 1;simpa[hlt] using ht
    have HD:Hid (ts.drop k=t::ts.drop (k+1)):=hd;obtain ⟨hal,hssz,hsk⟩:=hsm.2.2 t (List.mem_of_getElem? ht);have hlti:(k:Int)<(ts.length:Int):=by omega
    cases htx:t.text with
    | false =>
      rw[htx]at c0
      clear hcc h4 ht hd;go_wp2_with fail;refine (H.out S _ t.kids _ (qa.later (hB.alloc hsz _) n hkt) hsk (fun b hb=>by have:=hS b hb;simp;omega)).mono ?_
      rintro e w1 ⟨v1,rfl,hT1,hb1⟩;obtain ⟨a1,c1',rfl,_,_⟩:=qa.shape n hT1;have hsz1:=hb1.size;simp only[World.size_alloc]at hsz1
      have hsz1':wr.heap.size<w1.heap.size:=by omega
      have q0:w1.cell? ⟨wr.heap.size,0,none⟩=some (.bool false):=by rw[hb1.cell (p:=⟨wr.heap.size,0,none⟩) (by simp)];simp[go_sem]
      have q1:w1.cell? ⟨wr.heap.size,1,none⟩=some (.string t.s):=by rw[hb1.cell (p:=⟨wr.heap.size,1,none⟩) (by simp)];simp[go_sem]
      have q2:w1.cell? ⟨wr.heap.size,2,none⟩=some (.slice aa t.attrs.length ac):=by rw[hb1.cell (p:=⟨wr.heap.size,2,none⟩) (by simp)];simp[go_sem]
      have q3:w1.cell? ⟨wr.heap.size,3,none⟩=some (.slice ka t.kids.length kc):=by rw[hb1.cell (p:=⟨wr.heap.size,3,none⟩) (by simp)];simp[go_sem]
      have qf:w1.frozen? ⟨wr.heap.size,3,none⟩=false:=by rw[hb1.frozen (p:=⟨wr.heap.size,3,none⟩) (by simp)];simp[go_sem]
      have hbw1:Below wr.heap.size wr w1:=(Below.alloc1 _ _).trans (hb1.mono (by simp))
      have hbw2:Below wr.heap.size wr (w1.setCell ⟨wr.heap.size,3,none⟩ (.slice a1 (jn n t.kids).length c1')):=hbw1.setCell (by exact nR9 _) _
      have hG2:=hG.later hbw2;have hB2:Below w.heap.size w (w1.setCell ⟨wr.heap.size,3,none⟩ (.slice a1 (jn n t.kids).length c1')):=hB.trans (hbw2.mono hsz)
      have hTs:qa (fun b=>S b∨wr.heap.size+1≤b) (w1.setCell ⟨wr.heap.size,3,none⟩ (.slice a1 (jn n t.kids).length c1')) n (.slice a1 (jn n t.kids).length c1') (jn n t.kids):=by
       refine qa.carry (fun b hb=>⟨?_,?_⟩) n hT1
       · simpa using hb
       · refine Below.heap_setCell _ _ _ _ ?_
         rcases hb with hb|hb
         · have:=hS b hb;simp only;omega
         · simp only[World.size_alloc]at hb;simp only;omega
      go_wp2_with (at_builtin;refine wpList_append_own_at _ rfl _ _ 22 rfl w.heap.size 29 i0 _ 4 72 Try.underlying22 hi hz0 hz1 hz2 rfl (by decide) _ _ _ rfl (hG2.own.alloc _) ⟨w1.heap.size,0,none⟩ 1 1 [.bool false,.string t.s,.slice aa t.attrs.length ac,.slice a1 (jn n t.kids).length c1'] rfl ?qc1 ?qc2 ?qc3 ?qc4 ?qc5 ?qc6 ?_)
      case qc1 => rfl
      case qc2 =>
       have:=qR (w1.setCell ⟨wr.heap.size,3,none⟩ (.slice a1 (jn n t.kids).length c1')) (.bool false) (.string t.s) (.slice aa t.attrs.length ac) (.slice a1 (jn n t.kids).length c1') 29;rw[World.size_setCell]at this
       exact this
      case qc3 => intro u hu;simp at hu;rcases hu with rfl|rfl|rfl|rfl<;>rfl
      case qc4 => unfold maxLen;omega
      case qc5 => omega
      case qc6 => simp;omega
      intro v' w3 hown' hgrow _ hat'
      have hG3:=(hG2.later (Below.alloc1 _ (.cells #[.bool false,.string t.s,.slice aa t.attrs.length ac,.slice a1 (jn n t.kids).length c1'] 29))).snoc (t:=jk n t) (q:=(false,t.s,.slice aa t.attrs.length ac,.slice a1 (jn n t.kids).length c1')) hown' hgrow (by rw[World.size_alloc,World.size_setCell];exact hat') (by rw[zi,htx]) (by rw[jm])
       (by
        rw[zd];refine (hat.later (hB2.alloc (by simp;omega) _)).bounded.carry (fun b hb=>⟨⟨Or.inl hb.1,hb.2,fun e=>?_⟩,rfl⟩)
        have:=(hG2.own.lt b e).1;have:=hS b hb.1;omega)
       (by
        rw[jl];refine qa.carry (fun b hb=>⟨⟨?_,hb.2,fun e=>?_⟩,rfl⟩) n (qa.bounded n (qa.later (Below.alloc1 _ _) n hTs))
        · rcases hb.1 with h | h
          · exact Or.inl h
          · right;omega
        · rcases hb.1 with h | h
          · have:=(hG2.own.lt b e).1;have:=hS b h;omega
          · have:=(hG.own.lt b e).2;omega)
      have hB3:Below w.heap.size w w3:=(hB2.alloc (by simp;omega) _).grown hgrow (by simp;omega) (fun k hk=>(hG2.own.lt k hk).1)
      obtain ⟨va',vc',rfl⟩:=hG3.shape;have hll:(us++[jk n t]).length=us.length+1:=by simp
      rw[hll]at hG3 ⊢
      clear hown' hll;go_wp2_with fail
      go_roundg (ts.length-(k+1))
      case measure => omega
      case rel =>
       refine ⟨k+1,_,_,by omega,by go_num,hG3,hB3,?_,by simp;omega⟩
       rw[HJ.out,HD.out];unfold qv;rw[zN t _ htx];simp
    | true =>
      rw[htx]at c0
      obtain ⟨N,hN⟩:∃ N,ahead (ts.drop k)=N:=⟨_,rfl⟩;have hN0:0<N:=by rw[←hN,hd];simp[ahead,htx]
      have hN1:N≤ts.length-k:=by rw[←hN];have:=yp (ts.drop k);simpa using this
      have hrun:=yT (ts.drop k);have hja:=jK (ts.drop k);rw[hN]at hrun hja
      obtain ⟨p,hp⟩:∃ p,(ts.drop k).take N=p:=⟨_,rfl⟩;have hpl:p.length=N:=by rw[←hp,List.length_take,List.length_drop];omega
      rw[hp,List.drop_drop]at hja
      rw[hp,List.drop_drop]at hrun
      have hpi:∀ m,m<N→p[m]?=ts[k+m]?:=by
       intro m hm';rw[←hp,List.getElem?_take,if_pos hm',List.getElem?_drop]
      have hsp:Small (n+1) p:=by rw[←hp];exact hsm.drop.take
      have HP:Hid ((∀ m,m<N→p[m]?=ts[k+m]?)∧p.length=N∧(∀ t∈p,t.text=true)∧(∀ u r,ts.drop (k+N)=u::r→u.text=false)∧jt (ts.drop k)=qk p++jt (ts.drop (k+N))):=⟨hpi,hpl,hrun.1,hrun.2,hja⟩;have HCC:Hid (∀ i t,ts[i]?=some t→∃ va vk,w.cell? ⟨b,o+i*4,none⟩=some (.bool t.text)∧w.cell? ⟨b,o+i*4+1,none⟩=some (.string t.s)∧w.cell? ⟨b,o+i*4+2,none⟩=some va∧w.cell? ⟨b,o+i*4+3,none⟩=some vk∧qc S w va t.attrs∧qa S w n vk t.kids):=hcc;clear hp hpl hrun hja hpi hcc h4 ht hd hN HD c1 c2 c3 hat hkt;go_wp2_with fail
      go_loopg [4,6,7] N (fun g2 i f s wx=>∃ j:Nat,k≤j∧j+g2=k+N∧i=.int .i64 j∧s=.string (sOf (catL (p.take (j-k))))∧xj ts p b o (j-k) f∧wr=wx)
      case atStart => exact ⟨k,nR9 _,rfl,rfl,by rw[Nat.sub_self];rfl,by rw[Nat.sub_self];exact Or.inl ⟨rfl,rfl⟩,rfl⟩
      case round =>
       obtain ⟨j,hkj,hj2,rfl,rfl,hfs,rfl⟩:=hrel
       by_cases hjN:j<k+N
       · have hjl : j < ts.length := by omega
         obtain ⟨x,hx⟩:∃ x,ts[j]?=some x:=⟨ts[j],by simp[hjl]⟩
         have hpx:p[j-k]?=some x:=by rw[HP.out.1 (j-k) (by omega),show k+(j-k)=j from by omega];exact hx
         have hxt:x.text=true:=HP.out.2.2.1 x (List.mem_of_getElem? hpx);have hmp:j-k<p.length:=by rw[HP.out.2.1];omega
         have hsn:p.take (j+1-k)=p.take (j-k)++[x]:=by
          rw[show j+1-k=j-k+1 from by omega,List.take_succ_eq_append_getElem hmp];congr 2;simpa[hmp] using hpx
         have hcl:(catL (p.take (j-k))).length+x.s.size≤1099511627776:=by
          have h1:catL p=catL (p.take (j+1-k))++catL (p.drop (j+1-k)):=by rw[←qx,List.take_append_drop]
          have h2:=hsp.2.1;rw[h1,hsn,qx]at h2
          have h3:catL [x]=x.s.data.toList:=by simp[catL]
          rw[h3]at h2
          simp only[List.length_append]at h2
          rw[qG x.s];omega
         obtain ⟨_,_,x0,x1,_⟩:=HCC.out j x hx;rw[←hB.cell (p:=⟨b,o+j*4,none⟩) hbl,hxt]at x0
         rw[←hB.cell (p:=⟨b,o+j*4+1,none⟩) hbl]at x1
         obtain ⟨L,hL⟩:∃ L,catL (p.take (j-k))=L:=⟨_,rfl⟩;rw[hL]at hcl ⊢
         have hszL:(sOf L).size+x.s.size≤1099511627776:=by rw[zf];exact hcl
         have HL:Hid (sOf L++x.s=sOf (catL (p.take (j+1-k)))):=by
          show _=_
          rw[hsn,qx,hL];have h3:catL [x]=x.s.data.toList:=by simp[catL]
          rw[h3,←zm,zH]
         have HX:Hid (ts[j]?=some x):=hx;have hji:(j:Int)<(ts.length:Int):=by omega
         have hfn:∀ y,firstNE (p.take (j+1-k))=y↔(firstNE (p.take (j-k))).or (firstNE [x])=y:=by intro y;rw[hsn,qX]
         have HFN:Hid (∀ y,firstNE (p.take (j+1-k))=y↔(firstNE (p.take (j-k))).or (firstNE [x])=y):=hfn;clear hx hpx hxt hmp hsn hcl hL hfn c0
         rcases hfs with ⟨hf0,rfl⟩|⟨i1,y,hy,hfy,rfl⟩
         · have HF0 : Hid (firstNE (p.take (j - k)) = none) := hf0;clear hf0
           by_cases hxe:x.s.data.toList=[]
           · have hxb : x.s.toList.isEmpty = true := by rw[ByteArray.toList_eq, hxe];rfl
             have HXE:Hid (firstNE [x]=none):=by show (if _ then _ else _)=_;rw[if_pos hxe];rfl
             clear hxe;go_wp2_with fail
             go_roundg (k+N-(j+1))
             case measure => omega
             case rel => exact ⟨j+1,by omega,by omega,by go_num,by rw[HL.out],Or.inl ⟨by rw[HFN.out,HF0.out,HXE.out];rfl,rfl⟩,rfl⟩
           · have hxb : x.s.toList.isEmpty = false := y6 hxe;have HXE:Hid (firstNE [x]=some x):=by show (if _ then _ else _)=_;rw[if_neg hxe]
             clear hxe;go_wp2_with fail
             go_roundg (k+N-(j+1))
             case measure => omega
             case rel => exact ⟨j+1,by omega,by omega,by go_num,by rw[HL.out],Or.inr ⟨j,x,HX.out,by rw[HFN.out,HF0.out,HXE.out];rfl,rfl⟩,rfl⟩
         · have HY : Hid (ts[i1]? = some y ∧ firstNE (p.take (j - k)) = some y) := ⟨hy, hfy⟩;clear hy hfy;go_wp2_with fail
           go_roundg (k+N-(j+1))
           case measure => omega
           case rel => exact ⟨j+1,by omega,by omega,by go_num,by rw[HL.out],Or.inr ⟨i1,y,HY.out.1,by rw[HFN.out,HY.out.2];rfl,rfl⟩,rfl⟩
       · have hjj : j = k + N := by omega
         have hjk:j-k=N:=by omega
         have hpt:p.take N=p:=List.take_of_length_le (by rw[HP.out.2.1];exact nR9 _)
         unfold xj at hfs
         rw[hjk,hpt]at hfs ⊢
         have HEnd:Hid (qv n ts=us++((qk p).map (jk n)++qv n (ts.drop j))):=by
          show _=_
          rw[HJ.out,hjj];unfold qv;rw[HP.out.2.2.2.2,List.map_append]
         have hul2:us.length<j:=by omega
         clear c0 hjk hpt
         by_cases hjl:j<ts.length
         · obtain ⟨u, hu⟩ : ∃ u, ts[j]? = some u := ⟨ts[j], by simp[hjl]⟩
           have hut:u.text=false:=HP.out.2.2.2.1 u (ts.drop (j+1)) (by
            rw[←hjj,List.drop_eq_getElem_cons hjl];congr 1;simpa[hjl] using hu)
           obtain ⟨_,_,x0,_⟩:=HCC.out j u hu;rw[←hB.cell (p:=⟨b,o+j*4,none⟩) hbl,hut]at x0
           have hji:(j:Int)<(ts.length:Int):=by omega
           clear hu hut hjj
           rcases hfs with ⟨hf0,rfl⟩|⟨i1,y,hy,hfy,rfl⟩
           · have HH : Hid (qk p = []) := by show _ = _;unfold qk;rw[hf0]
             clear hf0;go_wp2_with fail
             go_roundg (ts.length-j)
             case measure => omega
             case rel =>
              refine ⟨j,us,qs,by omega,by go_num,hG,hB,?_,by omega⟩
              rw[HEnd.out,HH.out];rfl
           · obtain ⟨yva, yvk, y0, y1, y2, y3, hya, hyk⟩ := HCC.out i1 y hy;obtain ⟨yaa,yac,rfl⟩:=hya.shape;obtain ⟨yka,ykc,rfl,_,_⟩:=qa.shape n hyk;rw[←hB.cell (p:=⟨b,o+i1*4,none⟩) hbl]at y0
             rw[←hB.cell (p:=⟨b,o+i1*4+1,none⟩) hbl]at y1
             rw[←hB.cell (p:=⟨b,o+i1*4+2,none⟩) hbl]at y2
             rw[←hB.cell (p:=⟨b,o+i1*4+3,none⟩) hbl]at y3
             obtain ⟨_,_,hysk⟩:=hsm.2.2 y (List.mem_of_getElem? hy);have HH:Hid ((qk p).map (jk n)=[jk n { y with s:=sOf (catL p) }]):=by show _=_;unfold qk;rw[hfy];rfl
             clear hy hfy;obtain ⟨cs,hcs⟩:∃ cs,sOf (catL p)=cs:=⟨_,rfl⟩;rw[hcs]at HH ⊢
             clear hcs;go_wp2_with fail;refine (H.out S _ y.kids _ (qa.later (hB.alloc hsz _) n hyk) hysk (fun b hb=>by have:=hS b hb;simp;omega)).mono ?_
             rintro e w1 ⟨v1,rfl,hT1,hb1⟩;obtain ⟨a1,c1',rfl,_,_⟩:=qa.shape n hT1;have hsz1:=hb1.size;simp only[World.size_alloc]at hsz1
             have hsz1':wr.heap.size<w1.heap.size:=by omega
             have q0:w1.cell? ⟨wr.heap.size,0,none⟩=some (.bool y.text):=by rw[hb1.cell (p:=⟨wr.heap.size,0,none⟩) (by simp)];simp[go_sem]
             have q1:w1.cell? ⟨wr.heap.size,1,none⟩=some (.string y.s):=by rw[hb1.cell (p:=⟨wr.heap.size,1,none⟩) (by simp)];simp[go_sem]
             have q2:w1.cell? ⟨wr.heap.size,2,none⟩=some (.slice yaa y.attrs.length yac):=by rw[hb1.cell (p:=⟨wr.heap.size,2,none⟩) (by simp)];simp[go_sem]
             have q3:w1.cell? ⟨wr.heap.size,3,none⟩=some (.slice yka y.kids.length ykc):=by rw[hb1.cell (p:=⟨wr.heap.size,3,none⟩) (by simp)];simp[go_sem]
             have qf:∀ i,w1.frozen? ⟨wr.heap.size,i,none⟩=false:=by intro i;rw[hb1.frozen (p:=⟨wr.heap.size,i,none⟩) (by simp)];simp[go_sem]
             have hbw1:Below wr.heap.size wr w1:=(Below.alloc1 _ _).trans (hb1.mono (by simp))
             have hbw2:Below wr.heap.size wr ((w1.setCell ⟨wr.heap.size,1,none⟩ (.string cs)).setCell ⟨wr.heap.size,3,none⟩ (.slice a1 (jn n y.kids).length c1')):=(hbw1.setCell (by exact nR9 _) _).setCell (by exact nR9 _) _
             have hG2:=hG.later hbw2;have hB2:=hB.trans (hbw2.mono hsz)
             have hTs:qa (fun b=>S b∨wr.heap.size+1≤b) ((w1.setCell ⟨wr.heap.size,1,none⟩ (.string cs)).setCell ⟨wr.heap.size,3,none⟩ (.slice a1 (jn n y.kids).length c1')) n (.slice a1 (jn n y.kids).length c1') (jn n y.kids):=by
              refine qa.carry (fun b hb=>⟨?_,?_⟩) n hT1
              · simpa using hb
              · have hbne:b≠wr.heap.size:=by
                 rcases hb with hb|hb
                 · have:=hS b hb;omega
                 · simp only[World.size_alloc]at hb;omega
                rw[Below.heap_setCell _ _ _ _ hbne,Below.heap_setCell _ _ _ _ hbne]
             go_wp2_with (at_builtin;refine wpList_append_own_at _ rfl _ _ 22 rfl w.heap.size 29 i0 _ 4 72 Try.underlying22 hi hz0 hz1 hz2 rfl (by decide) _ _ _ rfl (hG2.own.alloc _) ⟨w1.heap.size,0,none⟩ 1 1 [.bool y.text,.string cs,.slice yaa y.attrs.length yac,.slice a1 (jn n y.kids).length c1'] rfl ?qc1 ?qc2 ?qc3 ?qc4 ?qc5 ?qc6 ?_)
             case qc1 => rfl
             case qc2 =>
              have:=qR ((w1.setCell ⟨wr.heap.size,1,none⟩ (.string cs)).setCell ⟨wr.heap.size,3,none⟩ (.slice a1 (jn n y.kids).length c1')) (.bool y.text) (.string cs) (.slice yaa y.attrs.length yac) (.slice a1 (jn n y.kids).length c1') 29;rw[World.size_setCell,World.size_setCell]at this
              exact this
             case qc3 => intro u hu;simp at hu;rcases hu with rfl|rfl|rfl|rfl<;>rfl
             case qc4 => unfold maxLen;omega
             case qc5 => omega
             case qc6 => simp;omega
             intro v' w3 hown' hgrow _ hat'
             have hG3:=(hG2.later (Below.alloc1 _ (.cells #[.bool y.text,.string cs,.slice yaa y.attrs.length yac,.slice a1 (jn n y.kids).length c1'] 29))).snoc (t:=jk n { y with s:=cs }) (q:=(y.text,cs,.slice yaa y.attrs.length yac,.slice a1 (jn n y.kids).length c1')) hown' hgrow (by rw[World.size_alloc,World.size_setCell,World.size_setCell];exact hat') (by rw[zi]) (by rw[jm])
              (by
               rw[zd];refine (hya.later (hB2.alloc (by simp;omega) _)).bounded.carry (fun b hb=>⟨⟨Or.inl hb.1,hb.2,fun e=>?_⟩,rfl⟩)
               have:=(hG2.own.lt b e).1;have:=hS b hb.1;omega)
              (by
               rw[jl];refine qa.carry (fun b hb=>⟨⟨?_,hb.2,fun e=>?_⟩,rfl⟩) n (qa.bounded n (qa.later (Below.alloc1 _ _) n hTs))
               · rcases hb.1 with h | h
                 · exact Or.inl h
                 · right;omega
               · rcases hb.1 with h | h
                 · have:=(hG2.own.lt b e).1;have:=hS b h;omega
                 · have:=(hG.own.lt b e).2;omega)
             have hB3:Below w.heap.size w w3:=(hB2.alloc (by simp;omega) _).grown hgrow (by simp;omega) (fun k hk=>(hG2.own.lt k hk).1)
             obtain ⟨va',vc',rfl⟩:=hG3.shape;have hll:(us++[jk n { y with s:=cs }]).length=us.length+1:=by simp
             rw[hll]at hG3 ⊢
             clear hown' hll;go_wp2_with fail
             go_roundg (ts.length-j)
             case measure => omega
             case rel =>
              refine ⟨j,_,_,by omega,by go_num,hG3,hB3,?_,by simp;omega⟩
              rw[HEnd.out,HH.out];simp
         · clear hjj
           rcases hfs with ⟨hf0,rfl⟩|⟨i1,y,hy,hfy,rfl⟩
           · have HH : Hid (qk p = []) := by show _ = _;unfold qk;rw[hf0]
             clear hf0;go_wp2_with fail
             go_roundg (ts.length-j)
             case measure => omega
             case rel =>
              refine ⟨j,us,qs,by omega,by go_num,hG,hB,?_,by omega⟩
              rw[HEnd.out,HH.out];rfl
           · obtain ⟨yva, yvk, y0, y1, y2, y3, hya, hyk⟩ := HCC.out i1 y hy;obtain ⟨yaa,yac,rfl⟩:=hya.shape;obtain ⟨yka,ykc,rfl,_,_⟩:=qa.shape n hyk;rw[←hB.cell (p:=⟨b,o+i1*4,none⟩) hbl]at y0
             rw[←hB.cell (p:=⟨b,o+i1*4+1,none⟩) hbl]at y1
             rw[←hB.cell (p:=⟨b,o+i1*4+2,none⟩) hbl]at y2
             rw[←hB.cell (p:=⟨b,o+i1*4+3,none⟩) hbl]at y3
             obtain ⟨_,_,hysk⟩:=hsm.2.2 y (List.mem_of_getElem? hy);have HH:Hid ((qk p).map (jk n)=[jk n { y with s:=sOf (catL p) }]):=by show _=_;unfold qk;rw[hfy];rfl
             clear hy hfy;obtain ⟨cs,hcs⟩:∃ cs,sOf (catL p)=cs:=⟨_,rfl⟩;rw[hcs]at HH ⊢
             clear hcs;go_wp2_with fail;refine (H.out S _ y.kids _ (qa.later (hB.alloc hsz _) n hyk) hysk (fun b hb=>by have:=hS b hb;simp;omega)).mono ?_
             rintro e w1 ⟨v1,rfl,hT1,hb1⟩;obtain ⟨a1,c1',rfl,_,_⟩:=qa.shape n hT1;have hsz1:=hb1.size;simp only[World.size_alloc]at hsz1
             have hsz1':wr.heap.size<w1.heap.size:=by omega
             have q0:w1.cell? ⟨wr.heap.size,0,none⟩=some (.bool y.text):=by rw[hb1.cell (p:=⟨wr.heap.size,0,none⟩) (by simp)];simp[go_sem]
             have q1:w1.cell? ⟨wr.heap.size,1,none⟩=some (.string y.s):=by rw[hb1.cell (p:=⟨wr.heap.size,1,none⟩) (by simp)];simp[go_sem]
             have q2:w1.cell? ⟨wr.heap.size,2,none⟩=some (.slice yaa y.attrs.length yac):=by rw[hb1.cell (p:=⟨wr.heap.size,2,none⟩) (by simp)];simp[go_sem]
             have q3:w1.cell? ⟨wr.heap.size,3,none⟩=some (.slice yka y.kids.length ykc):=by rw[hb1.cell (p:=⟨wr.heap.size,3,none⟩) (by simp)];simp[go_sem]
             have qf:∀ i,w1.frozen? ⟨wr.heap.size,i,none⟩=false:=by intro i;rw[hb1.frozen (p:=⟨wr.heap.size,i,none⟩) (by simp)];simp[go_sem]
             have hbw1:Below wr.heap.size wr w1:=(Below.alloc1 _ _).trans (hb1.mono (by simp))
             have hbw2:Below wr.heap.size wr ((w1.setCell ⟨wr.heap.size,1,none⟩ (.string cs)).setCell ⟨wr.heap.size,3,none⟩ (.slice a1 (jn n y.kids).length c1')):=(hbw1.setCell (by exact nR9 _) _).setCell (by exact nR9 _) _
             have hG2:=hG.later hbw2;have hB2:=hB.trans (hbw2.mono hsz)
             have hTs:qa (fun b=>S b∨wr.heap.size+1≤b) ((w1.setCell ⟨wr.heap.size,1,none⟩ (.string cs)).setCell ⟨wr.heap.size,3,none⟩ (.slice a1 (jn n y.kids).length c1')) n (.slice a1 (jn n y.kids).length c1') (jn n y.kids):=by
              refine qa.carry (fun b hb=>⟨?_,?_⟩) n hT1
              · simpa using hb
              · have hbne:b≠wr.heap.size:=by
                 rcases hb with hb|hb
                 · have:=hS b hb;omega
                 · simp only[World.size_alloc]at hb;omega
                rw[Below.heap_setCell _ _ _ _ hbne,Below.heap_setCell _ _ _ _ hbne]
             go_wp2_with (at_builtin;refine wpList_append_own_at _ rfl _ _ 22 rfl w.heap.size 29 i0 _ 4 72 Try.underlying22 hi hz0 hz1 hz2 rfl (by decide) _ _ _ rfl (hG2.own.alloc _) ⟨w1.heap.size,0,none⟩ 1 1 [.bool y.text,.string cs,.slice yaa y.attrs.length yac,.slice a1 (jn n y.kids).length c1'] rfl ?qc1 ?qc2 ?qc3 ?qc4 ?qc5 ?qc6 ?_)
             case qc1 => rfl
             case qc2 =>
              have:=qR ((w1.setCell ⟨wr.heap.size,1,none⟩ (.string cs)).setCell ⟨wr.heap.size,3,none⟩ (.slice a1 (jn n y.kids).length c1')) (.bool y.text) (.string cs) (.slice yaa y.attrs.length yac) (.slice a1 (jn n y.kids).length c1') 29;rw[World.size_setCell,World.size_setCell]at this
              exact this
             case qc3 => intro u hu;simp at hu;rcases hu with rfl|rfl|rfl|rfl<;>rfl
             case qc4 => unfold maxLen;omega
             case qc5 => omega
             case qc6 => simp;omega
             intro v' w3 hown' hgrow _ hat'
             have hG3:=(hG2.later (Below.alloc1 _ (.cells #[.bool y.text,.string cs,.slice yaa y.attrs.length yac,.slice a1 (jn n y.kids).length c1'] 29))).snoc (t:=jk n { y with s:=cs }) (q:=(y.text,cs,.slice yaa y.attrs.length yac,.slice a1 (jn n y.kids).length c1')) hown' hgrow (by rw[World.size_alloc,World.size_setCell,World.size_setCell];exact hat') (by rw[zi]) (by rw[jm])
              (by
               rw[zd];refine (hya.later (hB2.alloc (by simp;omega) _)).bounded.carry (fun b hb=>⟨⟨Or.inl hb.1,hb.2,fun e=>?_⟩,rfl⟩)
               have:=(hG2.own.lt b e).1;have:=hS b hb.1;omega)
              (by
               rw[jl];refine qa.carry (fun b hb=>⟨⟨?_,hb.2,fun e=>?_⟩,rfl⟩) n (qa.bounded n (qa.later (Below.alloc1 _ _) n hTs))
               · rcases hb.1 with h | h
                 · exact Or.inl h
                 · right;omega
               · rcases hb.1 with h | h
                 · have:=(hG2.own.lt b e).1;have:=hS b h;omega
                 · have:=(hG.own.lt b e).2;omega)
             have hB3:Below w.heap.size w w3:=(hB2.alloc (by simp;omega) _).grown hgrow (by simp;omega) (fun k hk=>(hG2.own.lt k hk).1)
             obtain ⟨va',vc',rfl⟩:=hG3.shape;have hll:(us++[jk n { y with s:=cs }]).length=us.length+1:=by simp
             rw[hll]at hG3 ⊢
             clear hown' hll;go_wp2_with fail
             go_roundg (ts.length-j)
             case measure => omega
             case rel =>
              refine ⟨j,_,_,by omega,by go_num,hG3,hB3,?_,by simp;omega⟩
              rw[HEnd.out,HH.out];simp
  · have hkk : k = ts.length := by omega
    subst hkk;go_wp2_with fail;go_ret;refine ⟨_,rfl,?_,hB⟩;have:=HJ.out;rw[List.drop_length,show qv n []=[] from rfl,List.append_nil]at this
    show qa _ wr (n+1) _ (qv n ts)
    rw[this];exact hG.done
theorem xF (n:Nat):JOk n:=by
 induction n with
 | zero=>exact joinR_zero
 | succ n ih=>exact j2 n ih
end Go.Proofs.Ytfdbipeidmpciaa
