/- One round of joinKids' loop keeps what its state says. No condition. -/
import Derived.Test.YtfdbipeidmpciaaKids
namespace Go.Proofs.Ytfdbipeidmpciaa
open Go.ChangeShapes Go.WideShapes Go.ChangeAt Go.RowKit
set_option maxRecDepth 100000
theorem xL {S:Nat→Prop}{B jb:Nat}{w:World}{n:Nat}{us:List Tr}{vs:List Value}{k:Nat}{wr w1 w3:World}{qs qs1:List (Bool × ByteArray × Value × Value)}{P P1:List Ent}{X X1:Nat→Prop}{g cap:Nat}{v1:Value}{q:Bool × ByteArray × Value × Value}{t:Tr}
 (I:zI S B jb w (.slice (some ⟨g,0,none⟩) us.length cap) n us vs k wr qs P X) (hS:∀ b,S b→b<B) (hgw:g<w.heap.size)
 (hq:qs[k]?=some q) (ht:us[k]?=some t) (hraw1:Raw S (n-1) wr.heap.size w1 v1 (jt t.kids) qs1) (hb1:Below wr.heap.size wr w1)
 (J:JK S B jb (w1.setCell ⟨g,k*4+3,none⟩ v1) v1 (n-1) (jt t.kids) (vs++P.map (·.v)) w3 P1 X1) :
 zI S B jb w (.slice (some ⟨g,0,none⟩) us.length cap) n us vs (k+1) w3 (qs.set k (q.1,q.2.1,q.2.2.1,v1)) (P++P1) (fun b=>X b∨X1 b∨qy B 65 wr b):=by
 have hk:k<us.length:=by
  rcases Nat.lt_or_ge k us.length with h|h
  · exact h
  · rw[List.getElem?_eq_none h]at ht;cases ht
 have hwr:w.heap.size≤wr.heap.size:=I.below.size;have hsz1:=hb1.size;have hsz2:(w1.setCell ⟨g,k*4+3,none⟩ v1).heap.size=w1.heap.size:=by simp
 have hsz3:=J.below.size;rw[hsz2]at hsz3
 have hgT:qy B 29 wr g:=qg I.own rfl;have hgj:g≠jb:=I.jst.ne hgT (by decide)
 have hv1:∀ b,v1.ownBlock=some b→wr.heap.size≤b∧b<w1.heap.size:=fun b hb=>hraw1.own.lt b hb
 have h2:∀ b,b≠g→(w1.setCell ⟨g,k*4+3,none⟩ v1).heap[b]?=w1.heap[b]?:=fun b hb=>Below.heap_setCell _ _ _ _ hb
 have keep:∀ b,b<wr.heap.size→b≠g→b≠jb→qE wr b→w3.heap[b]?=wr.heap[b]?:=by
  intro b hb hbg hbj hnr;have e1:(w1.setCell ⟨g,k*4+3,none⟩ v1).heap[b]?=wr.heap[b]?:=(h2 b hbg).trans (hb1.block b hb);rw[J.frame b (by rw[hsz2];omega) hbj (fun e=>by have:=hv1 b e;omega) (hnr.of_heap e1),e1]
 have keepA:∀ b,qy B 65 wr b→w3.heap[b]?=wr.heap[b]?:=by
  intro b hb;refine keep b hb.lt (fun e=>?_) (I.jst.ne hb (by decide)) (qE.of_own hb (by decide))
  subst e;exact absurd rfl (qr I.own hb (by decide))
 have keepL:∀ b,b<B→w3.heap[b]?=wr.heap[b]?:=by
  intro b hb;have hgB:=hgT.1;rw[J.below.block b hb,h2 b (by omega),hb1.block b (by omega)]
 have keepG:w3.heap[g]?=(w1.setCell ⟨g,k*4+3,none⟩ v1).heap[g]?:=by
  refine J.frame g (by rw[hsz2];omega) hgj (fun e=>by have:=hv1 g e;omega) ?_
  have hown1:=qj I.own hb1;have hst:=(World.ownsRow.stored hown1 (k*4+3) v1).1;exact qE.of_own (qg hst rfl) (by decide)
 have hBw3:Below B wr w3:=⟨by rw[J.below.os];exact hb1.os,by rw[J.below.tape];exact hb1.tape,by rw[J.below.output];exact hb1.output,by omega,keepL⟩
 have pendLt:∀ e∈P,∀ b,e.v.ownBlock=some b→b<wr.heap.size∧qy B 29 wr b:=by
  intro e he b hb;have:=qg (I.pend e he).2.1.own hb;exact ⟨this.lt,this⟩
 have keepX:∀ b,X b→w3.heap[b]?=wr.heap[b]?:=by
  intro b hb;obtain ⟨_,p2,p3,p4,p5,_⟩:=I.prot b hb;exact keep b p2 (fun e=>p5 (by rw[e];rfl)) p4 p3
 refine ⟨I.below.trans hBw3,by simp[I.len],?_,?_,?_,?_,?_,?_,?_,?_,?_,?_⟩
 · -- own
   rw[yM qs k q v1 hq];have hown1:=qj I.own hb1;have hst:=(World.ownsRow.stored hown1 (k*4+3) v1).1;exact qn hst fun b hb=>by cases hb;exact keepG
 · -- rest
   intro i q' t' hi hq' ht';rw[List.getElem?_set_ne (by omega)]at hq'
   obtain ⟨a,b,c,d⟩:=I.rest i q' t' (by omega) hq' ht'
   exact ⟨a,b,c.carry (fun b hb=>⟨hb.to (nR9 _) (keepA b hb),keepA b hb⟩),qa.carry (fun b hb=>⟨hb,keepL b (hS b hb)⟩) n d⟩
 · -- done
   intro i q' t' hi hq' ht'
   by_cases hik:i=k
   · subst hik;rw[List.getElem?_set_self (by rw[I.len];exact hk)]at hq'
     rw[ht]at ht'
     cases ht';cases hq';obtain ⟨a,b,c,d⟩:=I.rest i q t (nR9 _) hq ht;refine ⟨a,b,fun ws hX hP=>⟨?_,?_⟩⟩
     · exact c.carry (fun b hb=>⟨hb.1,(hX b (Or.inr (Or.inr hb))).trans (keepA b hb)⟩)
     · refine Qz (fun h0 => ?_) (J.wand ws (fun b hb => hX b (Or.inr (Or.inl hb))) (fun e he => hP e (by simp[he])))
       subst h0;exact d.1
   · rw[List.getElem?_set_ne (by omega)]at hq'
     obtain ⟨a,b,c⟩:=I.done i q' t' (by omega) hq' ht'
     exact ⟨a,b,fun ws hX hP=>c ws (fun b hb=>(hX b (Or.inl hb)).trans (keepX b hb)) (fun e he=>hP e (by simp[he]))⟩
 · -- jst
   have:=J.jst
   simpa using this
 · -- pend
   intro e he
   rcases List.mem_append.1 he with he|he
   · refine ⟨(I.pend e he).1, (I.pend e he).2.1.stand hS (fun b hb => ?_) keepA keepL, (I.pend e he).2.2⟩
     obtain ⟨l1,l2⟩:=pendLt e he b hb;exact keep b l1 (fun e'=>by have:=I.blocks e he b hb;omega) (I.jst.ne l2 (by decide)) (qE.of_own l2 (by decide))
   · exact J.pend e he
 · -- blocks
   intro e he b hb
   rcases List.mem_append.1 he with he|he
   · exact I.blocks e he b hb
   · rcases J.blocks e he b hb with h | h
     · rw[hsz2]at h;omega
     · have:=hv1 b h;omega
 · -- apart
   refine List.pairwise_append.2 ⟨I.apart,J.apart,fun e he f hf hef=>?_⟩
   obtain ⟨b,hb⟩:∃ b,f.v.ownBlock=some b:=by
    obtain ⟨h1,h2,_⟩:=J.pend f hf
    rcases h2.own.2 with ⟨_,h0⟩|⟨g',c',cu,hv,_⟩
    · exact absurd (List.eq_nil_of_length_eq_zero h0) h1
    · exact ⟨g',by rw[hv];rfl⟩
   have h1:=(pendLt e he b (hef.trans hb)).1
   rcases J.blocks f hf b hb with h|h
   · rw[hsz2]at h;omega
   · have:=hv1 b h;omega
 · -- frame
   intro b hb hbj hbg hnr;have e1:=I.frame b hb hbj hbg hnr;rw[keep b (by omega) (fun e=>hbg (by rw[e];rfl)) hbj (hnr.of_heap e1),e1]
 · -- less
   have hl:=I.less
   have hd:us.drop k=t::us.drop (k+1):=by
    rw[List.drop_eq_getElem_cons hk];congr 1;simpa[hk] using ht
   rw[hd,qp]at hl
   rw[jW];have h1:=J.less;have h2:=yt (n-1) t.kids
   have h3:cnt (n-1+1) t.kids≤cnt n t.kids:=by
    cases n with
    | zero =>
      obtain ⟨_,_,_,d⟩:=I.rest k q t (nR9 _) hq ht;rw[d.1];simp[cnt]
    | succ m=>exact nR9 _
   omega
 · -- prot
   intro b hb
   rcases hb with hb|hb|hb
   · obtain ⟨p1, p2, p3, p4, p5, p6, p7⟩ := I.prot b hb;refine ⟨p1,by omega,p3.of_heap (keepX b hb),p4,p5,p6.imp id (fun h=>h.to (nR9 _) (keepX b hb)),fun e he=>?_⟩
     rcases List.mem_append.1 he with he|he
     · exact p7 e he
     · intro heb
       rcases J.blocks e he b heb with h|h
       · rw[hsz2]at h;omega
       · have:=hv1 b h;omega
   · obtain ⟨p1, p2, p3, p4, p5, p6⟩ := J.prot b hb
     have hbg:b≠g:=by
      intro e;subst e
      rcases p5 with h|h|h
      · rw[hsz2]at h;omega
      · have:=hv1 b h;omega
      · have hown1 := qj I.own hb1;have hst:=(World.ownsRow.stored hown1 (k*4+3) v1).1;have hT:=(qg hst rfl).to (nR9 _) keepG;obtain ⟨_,c1,f1,e1⟩:=hT;obtain ⟨_,c2,f2,e2⟩:=h;rw[e1]at e2
        simp at e2
     refine ⟨p1,p2,p3,p4,fun e=>hbg (by simpa[Value.ownBlock] using e.symm),?_,fun e he=>?_⟩
     · rcases p5 with h | h | h
       · left;rw[hsz2]at h;omega
       · left;have:=hv1 b h;omega
       · right;exact h
     · rcases List.mem_append.1 he with he | he
       · intro heb;obtain ⟨l1,l2⟩:=pendLt e he b heb
         rcases p5 with h|h|h
         · rw[hsz2]at h;omega
         · have:=hv1 b h;omega
         · have e1 := keep b l1 hbg p4 (qE.of_own l2 (by decide))
           obtain ⟨_,c1,f1,e2⟩:=l2;obtain ⟨_,c2,f2,e3⟩:=h;rw[e1,e2]at e3
           simp at e3
       · exact p6 e he
   · have e0 := keepA b hb;refine ⟨hb.1,by have:=hb.lt;omega,(qE.of_own hb (by decide)).of_heap e0,I.jst.ne hb (by decide),fun e=>qr I.own hb (by decide) e.symm,Or.inr (hb.to (nR9 _) e0),fun e he heb=>?_⟩
     rcases List.mem_append.1 he with he|he
     · obtain ⟨_, l2⟩ := pendLt e he b heb;obtain ⟨_,c1,f1,e1⟩:=l2;obtain ⟨_,c2,f2,e2⟩:=hb;rw[e1]at e2
       simp at e2
     · rcases J.blocks e he b heb with h | h
       · rw[hsz2]at h;have:=hb.lt;omega
       · have:=hv1 b h;have:=hb.lt;omega
end Go.Proofs.Ytfdbipeidmpciaa
