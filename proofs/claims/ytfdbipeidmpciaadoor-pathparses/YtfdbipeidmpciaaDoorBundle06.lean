/- Bundled: TakeL Kids KidsS KidsW Joined. What each says stands ahead of it. -/
import Derived.Test.YtfdbipeidmpciaaDoorBundle03
import Derived.WalkSmall
namespace Go.Proofs.YtfdbipeidmpciaaDoor
open Go.ChangeShapes Go.WideShapes Go.ChangeAt Go.RowKit
set_option maxRecDepth 100000
structure Jst (B jb:Nat) (w:World) (vs:List Value):Prop where
 base:B≤jb
 held:∃ v,w.heap[jb]?=some (.cells #[v] 136 (0,0))∧w.ownsRow B 23 1 v vs.length vs
 slices:∀ x∈vs,∃ a l c,x=.slice a l c
theorem Jk (B jb:Nat)(w:World)(vs:List Value)(x:Value)(h:Jst B jb w (vs++[x])) :
 Calls Tryd.prog 118 #[.pointer (some ⟨jb,0,none⟩)] w fun e w'=>e=.returned x∧Jst B jb w' vs∧w'.heap.size=w.heap.size∧(∀ b,b≠jb→w'.heap[b]?=w.heap[b]?)∧Below B w w':=by
 obtain ⟨hB,⟨v,hj,hown⟩,hsl⟩:=h;obtain ⟨xa,xl,xc,rfl⟩:=hsl x (by simp)
 rcases hown.2 with ⟨_,h0⟩|⟨g,cap,cur,rfl,hg,hh,hc,hm,hs,ht⟩
 · simp at h0
 have hlen:(vs++[Value.slice xa xl xc]).length=vs.length+1:=by simp
 rw[hlen]at hown hj hc ht
 have c0:w.cell? ⟨jb,0,none⟩=some (.slice (some ⟨g,0,none⟩) (vs.length+1) cap):=by rw[cH9 hj];rfl
 have f0:w.frozen? ⟨jb,0,none⟩=false:=fH9 hj 0
 have cl:w.cell? ⟨g,vs.length,none⟩=some (.slice xa xl xc):=by
  rw[World.ownsRow.cellAt hown vs.length (by omega)];simp
 unfold maxLen at hm
 go_enter Tryd.func118,Tryd.ntmps118
 go_wp2_with fail;go_ret
 have hgj:g≠jb:=by
  intro e;subst e;rw[hh]at hj;simp at hj
 have hpop:=ownsRow_pop (by simp) hown
 refine ⟨rfl,⟨hB,⟨_,by simp[World.setCell,Array.getElem?_modify,hj];rfl,?_⟩,fun y hy=>hsl y (by simp[hy])⟩,by simp,fun b hb=>Below.heap_setCell _ _ _ _ hb,(Below.refl B w).setCell hB _⟩
 refine qj hpop fun k hk=>?_
 cases hk;exact Below.heap_setCell _ _ _ _ hgj
def jk:Nat→Tr→Tr
 | 0,t=>{ t with kids:=[] }
 | n+1,t=>{ t with kids:=(jt t.kids).map (jk n) }
theorem qbq (n:Nat)(t:Tr):(jk n t).text=t.text:=by cases n<;>rfl
theorem qcb (n:Nat)(t:Tr):(jk n t).s=t.s:=by cases n<;>rfl
theorem qay (n:Nat)(t:Tr):(jk n t).attrs=t.attrs:=by cases n<;>rfl
def cnt:Nat→List Tr→Nat
 | 0,_=>0
 | n+1,ts=>(ts.map fun t=>1+cnt n t.kids).sum
theorem qI (n:Nat):cnt n []=0:=by cases n<;>rfl
theorem qK (n:Nat)(t:Tr)(r:List Tr):cnt (n+1) (t::r)=1+cnt n t.kids+cnt (n+1) r:=by simp[cnt]
theorem Q0 (n:Nat)(ts:List Tr):ts.length≤cnt (n+1) ts:=by
 induction ts with
 | nil=>simp
 | cons t r ih=>rw[qK];simp;omega
theorem XL (n:Nat)(ts:List Tr):cnt (n+1) (jt ts)≤cnt (n+1) ts:=by
 induction ts with
 | nil=>simp[jt]
 | cons t r ih =>
   rw[qK]
   by_cases ht:t.text=true
   · rw[KW t r ht]
     split
     · omega
     · split
       · rw[qK,qI];omega
       · rename_i u r' hj
         rw[hj,qK]at ih
         split
         · rw[qK];simp only;omega
         · rw[qK,qK];omega
   · rw[KV t r (by simpa using ht),qK];omega
structure Ent where
 v:Value
 n:Nat
 us:List Tr
 qs:List (Bool × ByteArray × Value × Value)
def qb3 (S:Nat→Prop)(B:Nat)(w:World)(e:Ent):Prop:=e.us≠[]∧Raw S e.n B w e.v e.us e.qs∧Small (e.n+1) e.us
def qae (B:Nat)(w:World)(e:Ent):Prop:=qb (fun b=>B≤b) w (e.n+1) e.v (e.us.map (jk e.n))
def zM (w:World)(b:Nat):Prop:=∀ c fz,w.heap[b]?≠some (.cells c 23 fz)
def jP (P:List Ent):Nat:=(P.map fun e=>cnt (e.n+1) e.us).sum
theorem XB (P Q:List Ent):jP (P++Q)=jP P+jP Q:=by simp[jP]
theorem qbd {P:List Ent}(h:∀ e∈P,e.us≠[]):P.length≤jP P:=by
 induction P with
 | nil=>simp
 | cons e r ih =>
   have h1:=ih (fun x hx=>h x (List.mem_cons_of_mem _ hx))
   have h2:=Q0 e.n e.us;have h3:=List.length_pos_iff.2 (h e List.mem_cons_self);have h4:jP (e::r)=cnt (e.n+1) e.us+jP r:=by simp[jP]
   simp only[List.length_cons];omega
structure JK (S:Nat→Prop) (B jb:Nat) (w:World) (v:Value) (n:Nat) (us:List Tr) (vs:List Value) (w':World) (P:List Ent) (X:Nat→Prop):Prop where
 below:Below B w w'
 jst:Jst B jb w' (vs++P.map (·.v))
 pend:∀ e∈P,qb3 S B w' e
 blocks:∀ e∈P,∀ b,e.v.ownBlock=some b→w.heap.size≤b∨v.ownBlock=some b
 apart:P.Pairwise fun e f=>e.v.ownBlock≠f.v.ownBlock
 frame:∀ b,b<w.heap.size→b≠jb→v.ownBlock≠some b→zM w b→w'.heap[b]?=w.heap[b]?
 less:jP P≤cnt (n+1) us
 prot:∀ b,X b→B≤b∧b<w'.heap.size∧zM w' b∧b≠jb∧(w.heap.size≤b∨v.ownBlock=some b∨qG B 69 w' b)∧∀ e∈P,e.v.ownBlock≠some b
 wand:∀ ws:World,(∀ b,X b→ws.heap[b]?=w'.heap[b]?)→(∀ e∈P,qae B ws e)→qb (fun b=>B≤b) ws (n+1) v (us.map (jk n))
structure xV (S:Nat→Prop) (B jb:Nat) (w:World) (v:Value) (n:Nat) (us:List Tr) (vs:List Value) (k:Nat) (w':World) (qs:List (Bool × ByteArray × Value × Value)) (P:List Ent) (X:Nat→Prop):Prop where
 below:Below B w w'
 len:qs.length=us.length
 own:w'.ownsRow B 25 4 v us.length (quadCells qs)
 rest:∀ (i:Nat) (q:Bool × ByteArray × Value × Value) (t:Tr),k≤i→qs[i]?=some q→us[i]?=some t→q.1=t.text∧q.2.1=t.s∧qe (qG B 69 w') w' q.2.2.1 t.attrs∧qb S w' n q.2.2.2 t.kids
 done:∀ (i:Nat) (q:Bool × ByteArray × Value × Value) (t:Tr),i<k→qs[i]?=some q→us[i]?=some t→q.1=t.text∧q.2.1=t.s ∧
  ∀ ws:World,(∀ b,X b→ws.heap[b]?=w'.heap[b]?)→(∀ e∈P,qae B ws e)→qe (fun b=>B≤b) ws q.2.2.1 t.attrs∧qb (fun b=>B≤b) ws n q.2.2.2 (jk n t).kids
 jst:Jst B jb w' (vs++P.map (·.v))
 pend:∀ e∈P,qb3 S B w' e
 blocks:∀ e∈P,∀ b,e.v.ownBlock=some b→w.heap.size≤b
 apart:P.Pairwise fun e f=>e.v.ownBlock≠f.v.ownBlock
 frame:∀ b,b<w.heap.size→b≠jb→v.ownBlock≠some b→zM w b→w'.heap[b]?=w.heap[b]?
 less:jP P+cnt (n+1) (us.drop k)+k≤cnt (n+1) us
 prot:∀ b,X b→B≤b∧b<w'.heap.size∧zM w' b∧b≠jb∧v.ownBlock≠some b∧(w.heap.size≤b∨qG B 69 w' b)∧∀ e∈P,e.v.ownBlock≠some b
theorem zM.of_heap {w w':World}{b:Nat}(h:zM w b)(e:w'.heap[b]?=w.heap[b]?):zM w' b:=by
 intro c fz;rw[e];exact h c fz
theorem zM.of_own {w:World}{B b:Nat}{e:TypeId}(h:qG B e w b)(hne:e≠23):zM w b:=by
 obtain ⟨_,c,fz,hc⟩:=h;intro c' fz' h';rw[hc]at h'
 simp only[Option.some.injEq,Obj.cells.injEq]at h'
 exact hne h'.2.1
theorem Jst.ne {B jb:Nat}{w:World}{vs:List Value}(h:Jst B jb w vs){B' b:Nat}{e:TypeId}(hs:qG B' e w b)(hne:e≠136):b≠jb:=by
 obtain ⟨_,⟨v,hv,_⟩,_⟩:=h;obtain ⟨_,c,fz,hc⟩:=hs;intro hb;subst hb;rw[hv]at hc
 simp only[Option.some.injEq,Obj.cells.injEq]at hc
 exact hne hc.2.1.symm
theorem Raw.base {S:Nat→Prop}{n B B':Nat}{w:World}{v:Value}{us:List Tr}{qs:List (Bool × ByteArray × Value × Value)}(h:Raw S n B' w v us qs)(hB:B≤B'):Raw S n B w v us qs:=by
 refine ⟨h.len,?_,fun i q t hq ht=>?_⟩
 · obtain ⟨h1, h2⟩ := h.own;refine ⟨h1,?_⟩
   rcases h2 with h2|⟨g,cap,cur,hv,hg,r⟩
   · exact Or.inl h2
   · exact Or.inr ⟨g,cap,cur,hv,by omega,r⟩
 · obtain ⟨a, b, c, d⟩ := h.each i q t hq ht;exact ⟨a,b,c.carry (fun b hb=>⟨hb.to hB rfl,rfl⟩),d⟩
theorem Raw.stand {S:Nat→Prop}{n B:Nat}{w w':World}{v:Value}{us:List Tr}{qs:List (Bool × ByteArray × Value × Value)}(h:Raw S n B w v us qs)(hS:∀ b,S b→b<B)
 (h1:∀ b,v.ownBlock=some b→w'.heap[b]?=w.heap[b]?) (h2:∀ b,qG B 69 w b→w'.heap[b]?=w.heap[b]?) (h3:∀ b,b<B→w'.heap[b]?=w.heap[b]?):Raw S n B w' v us qs:=by
 refine ⟨h.len,qj h.own h1,fun i q t hq ht=>?_⟩
 obtain ⟨a,b,c,d⟩:=h.each i q t hq ht;exact ⟨a,b,c.carry (fun b hb=>⟨hb.to (nR9 _) (h2 b hb),h2 b hb⟩),qb.carry (fun b hb=>⟨hb,h3 b (hS b hb)⟩) n d⟩
theorem ZV (l:List (Bool × ByteArray × Value × Value)):∀ (k:Nat)(q:Bool × ByteArray × Value × Value)(x:Value),l[k]?=some q→quadCells (l.set k (q.1,q.2.1,q.2.2.1,x))=(quadCells l).set (k*4+3) x:=by
 induction l with
 | nil=>intro k q x h;simp at h
 | cons y r ih =>
   intro k q x h;cases k with
   | zero=>simp at h;subst h;simp[quadCells]
   | succ k =>
     have:=ih k q x (by simpa using h)
     rw[show (k+1)*4+3=(k*4+3)+4 from by omega]
     simp[quadCells,this]
theorem qbs {ws:World}{B n:Nat}{v1:Value}{t:Tr}(hk:n=0→t.kids=[])(h:qb (fun b=>B≤b) ws (n-1+1) v1 ((jt t.kids).map (jk (n-1)))):qb (fun b=>B≤b) ws n v1 (jk n t).kids:=by
 cases n with
 | zero =>
   rw[hk rfl]at h
   obtain ⟨a,cap,h1,_,h3⟩:=qb.shape _ h;exact ⟨rfl,a,cap,h1,h3⟩
 | succ m=>exact h
theorem VB {S:Nat→Prop}{B jb:Nat}{w:World}{n:Nat}{us:List Tr}{vs:List Value}{k:Nat}{wr w1 w3:World}{qs qs1:List (Bool × ByteArray × Value × Value)}{P P1:List Ent}{X X1:Nat→Prop}{g cap:Nat}{v1:Value}{q:Bool × ByteArray × Value × Value}{t:Tr}
 (I:xV S B jb w (.slice (some ⟨g,0,none⟩) us.length cap) n us vs k wr qs P X) (hS:∀ b,S b→b<B) (hgw:g<w.heap.size)
 (hq:qs[k]?=some q) (ht:us[k]?=some t) (hraw1:Raw S (n-1) wr.heap.size w1 v1 (jt t.kids) qs1) (hb1:Below wr.heap.size wr w1)
 (J:JK S B jb (w1.setCell ⟨g,k*4+3,none⟩ v1) v1 (n-1) (jt t.kids) (vs++P.map (·.v)) w3 P1 X1) :
 xV S B jb w (.slice (some ⟨g,0,none⟩) us.length cap) n us vs (k+1) w3 (qs.set k (q.1,q.2.1,q.2.2.1,v1)) (P++P1) (fun b=>X b∨X1 b∨qG B 69 wr b):=by
 have hk:k<us.length:=by
  rcases Nat.lt_or_ge k us.length with h|h
  · exact h
  · rw[List.getElem?_eq_none h]at ht;cases ht
 have hwr:w.heap.size≤wr.heap.size:=I.below.size;have hsz1:=hb1.size;have hsz2:(w1.setCell ⟨g,k*4+3,none⟩ v1).heap.size=w1.heap.size:=by simp
 have hsz3:=J.below.size;rw[hsz2]at hsz3
 have hgT:qG B 25 wr g:=qk I.own rfl;have hgj:g≠jb:=I.jst.ne hgT (by decide)
 have hv1:∀ b,v1.ownBlock=some b→wr.heap.size≤b∧b<w1.heap.size:=fun b hb=>hraw1.own.lt b hb
 have h2:∀ b,b≠g→(w1.setCell ⟨g,k*4+3,none⟩ v1).heap[b]?=w1.heap[b]?:=fun b hb=>Below.heap_setCell _ _ _ _ hb
 have keep:∀ b,b<wr.heap.size→b≠g→b≠jb→zM wr b→w3.heap[b]?=wr.heap[b]?:=by
  intro b hb hbg hbj hnr;have e1:(w1.setCell ⟨g,k*4+3,none⟩ v1).heap[b]?=wr.heap[b]?:=(h2 b hbg).trans (hb1.block b hb);rw[J.frame b (by rw[hsz2];omega) hbj (fun e=>by have:=hv1 b e;omega) (hnr.of_heap e1),e1]
 have keepA:∀ b,qG B 69 wr b→w3.heap[b]?=wr.heap[b]?:=by
  intro b hb;refine keep b hb.lt (fun e=>?_) (I.jst.ne hb (by decide)) (zM.of_own hb (by decide))
  subst e;exact absurd rfl (qp I.own hb (by decide))
 have keepL:∀ b,b<B→w3.heap[b]?=wr.heap[b]?:=by
  intro b hb;have hgB:=hgT.1;rw[J.below.block b hb,h2 b (by omega),hb1.block b (by omega)]
 have keepG:w3.heap[g]?=(w1.setCell ⟨g,k*4+3,none⟩ v1).heap[g]?:=by
  refine J.frame g (by rw[hsz2];omega) hgj (fun e=>by have:=hv1 g e;omega) ?_
  have hown1:=qo I.own hb1;have hst:=(World.ownsRow.stored hown1 (k*4+3) v1).1;exact zM.of_own (qk hst rfl) (by decide)
 have hBw3:Below B wr w3:=⟨by rw[J.below.os];exact hb1.os,by rw[J.below.tape];exact hb1.tape,by rw[J.below.output];exact hb1.output,by omega,keepL⟩
 have pendLt:∀ e∈P,∀ b,e.v.ownBlock=some b→b<wr.heap.size∧qG B 25 wr b:=by
  intro e he b hb;have:=qk (I.pend e he).2.1.own hb;exact ⟨this.lt,this⟩
 have keepX:∀ b,X b→w3.heap[b]?=wr.heap[b]?:=by
  intro b hb;obtain ⟨_,p2,p3,p4,p5,_⟩:=I.prot b hb;exact keep b p2 (fun e=>p5 (by rw[e];rfl)) p4 p3
 refine ⟨I.below.trans hBw3,by simp[I.len],?_,?_,?_,?_,?_,?_,?_,?_,?_,?_⟩
 · -- own
   rw[ZV qs k q v1 hq];have hown1:=qo I.own hb1;have hst:=(World.ownsRow.stored hown1 (k*4+3) v1).1;exact qj hst fun b hb=>by cases hb;exact keepG
 · -- rest
   intro i q' t' hi hq' ht';rw[List.getElem?_set_ne (by omega)]at hq'
   obtain ⟨a,b,c,d⟩:=I.rest i q' t' (by omega) hq' ht'
   exact ⟨a,b,c.carry (fun b hb=>⟨hb.to (nR9 _) (keepA b hb),keepA b hb⟩),qb.carry (fun b hb=>⟨hb,keepL b (hS b hb)⟩) n d⟩
 · -- done
   intro i q' t' hi hq' ht'
   by_cases hik:i=k
   · subst hik;rw[List.getElem?_set_self (by rw[I.len];exact hk)]at hq'
     rw[ht]at ht'
     cases ht';cases hq';obtain ⟨a,b,c,d⟩:=I.rest i q t (nR9 _) hq ht;refine ⟨a,b,fun ws hX hP=>⟨?_,?_⟩⟩
     · exact c.carry (fun b hb=>⟨hb.1,(hX b (Or.inr (Or.inr hb))).trans (keepA b hb)⟩)
     · refine qbs (fun h0 => ?_) (J.wand ws (fun b hb => hX b (Or.inr (Or.inl hb))) (fun e he => hP e (by simp[he])))
       subst h0;exact d.1
   · rw[List.getElem?_set_ne (by omega)]at hq'
     obtain ⟨a,b,c⟩:=I.done i q' t' (by omega) hq' ht'
     exact ⟨a,b,fun ws hX hP=>c ws (fun b hb=>(hX b (Or.inl hb)).trans (keepX b hb)) (fun e he=>hP e (by simp[he]))⟩
 · -- jst
   have:=J.jst
   simpa using this
 · -- pend
   intro e he
   rcases List.mem_append.1 he with he|he
   · refine ⟨(I.pend e he).1, (I.pend e he).2.1.stand hS (fun b hb => ?_) keepA keepL, (I.pend e he).2.2⟩
     obtain ⟨l1,l2⟩:=pendLt e he b hb;exact keep b l1 (fun e'=>by have:=I.blocks e he b hb;omega) (I.jst.ne l2 (by decide)) (zM.of_own l2 (by decide))
   · exact J.pend e he
 · -- blocks
   intro e he b hb
   rcases List.mem_append.1 he with he|he
   · exact I.blocks e he b hb
   · rcases J.blocks e he b hb with h | h
     · rw[hsz2]at h;omega
     · have:=hv1 b h;omega
 · -- apart
   refine List.pairwise_append.2 ⟨I.apart,J.apart,fun e he f hf hef=>?_⟩
   obtain ⟨b,hb⟩:∃ b,f.v.ownBlock=some b:=by
    obtain ⟨h1,h2,_⟩:=J.pend f hf
    rcases h2.own.2 with ⟨_,h0⟩|⟨g',c',cu,hv,_⟩
    · exact absurd (List.eq_nil_of_length_eq_zero h0) h1
    · exact ⟨g',by rw[hv];rfl⟩
   have h1:=(pendLt e he b (hef.trans hb)).1
   rcases J.blocks f hf b hb with h|h
   · rw[hsz2]at h;omega
   · have:=hv1 b h;omega
 · -- frame
   intro b hb hbj hbg hnr;have e1:=I.frame b hb hbj hbg hnr;rw[keep b (by omega) (fun e=>hbg (by rw[e];rfl)) hbj (hnr.of_heap e1),e1]
 · -- less
   have hl:=I.less
   have hd:us.drop k=t::us.drop (k+1):=by
    rw[List.drop_eq_getElem_cons hk];congr 1;simpa[hk] using ht
   rw[hd,qK]at hl
   rw[XB];have h1:=J.less;have h2:=XL (n-1) t.kids
   have h3:cnt (n-1+1) t.kids≤cnt n t.kids:=by
    cases n with
    | zero =>
      obtain ⟨_,_,_,d⟩:=I.rest k q t (nR9 _) hq ht;rw[d.1];simp[cnt]
    | succ m=>exact nR9 _
   omega
 · -- prot
   intro b hb
   rcases hb with hb|hb|hb
   · obtain ⟨p1, p2, p3, p4, p5, p6, p7⟩ := I.prot b hb;refine ⟨p1,by omega,p3.of_heap (keepX b hb),p4,p5,p6.imp id (fun h=>h.to (nR9 _) (keepX b hb)),fun e he=>?_⟩
     rcases List.mem_append.1 he with he|he
     · exact p7 e he
     · intro heb
       rcases J.blocks e he b heb with h|h
       · rw[hsz2]at h;omega
       · have:=hv1 b h;omega
   · obtain ⟨p1, p2, p3, p4, p5, p6⟩ := J.prot b hb
     have hbg:b≠g:=by
      intro e;subst e
      rcases p5 with h|h|h
      · rw[hsz2]at h;omega
      · have:=hv1 b h;omega
      · have hown1 := qo I.own hb1;have hst:=(World.ownsRow.stored hown1 (k*4+3) v1).1;have hT:=(qk hst rfl).to (nR9 _) keepG;obtain ⟨_,c1,f1,e1⟩:=hT;obtain ⟨_,c2,f2,e2⟩:=h;rw[e1]at e2
        simp at e2
     refine ⟨p1,p2,p3,p4,fun e=>hbg (by simpa[Value.ownBlock] using e.symm),?_,fun e he=>?_⟩
     · rcases p5 with h | h | h
       · left;rw[hsz2]at h;omega
       · left;have:=hv1 b h;omega
       · right;exact h
     · rcases List.mem_append.1 he with he | he
       · intro heb;obtain ⟨l1,l2⟩:=pendLt e he b heb
         rcases p5 with h|h|h
         · rw[hsz2]at h;omega
         · have:=hv1 b h;omega
         · have e1 := keep b l1 hbg p4 (zM.of_own l2 (by decide))
           obtain ⟨_,c1,f1,e2⟩:=l2;obtain ⟨_,c2,f2,e3⟩:=h;rw[e1,e2]at e3
           simp at e3
       · exact p6 e he
   · have e0 := keepA b hb;refine ⟨hb.1,by have:=hb.lt;omega,(zM.of_own hb (by decide)).of_heap e0,I.jst.ne hb (by decide),fun e=>qp I.own hb (by decide) e.symm,Or.inr (hb.to (nR9 _) e0),fun e he heb=>?_⟩
     rcases List.mem_append.1 he with he|he
     · obtain ⟨_, l2⟩ := pendLt e he b heb;obtain ⟨_,c1,f1,e1⟩:=l2;obtain ⟨_,c2,f2,e2⟩:=hb;rw[e1]at e2
       simp at e2
     · rcases J.blocks e he b heb with h | h
       · rw[hsz2]at h;have:=hb.lt;omega
       · have:=hv1 b h;have:=hb.lt;omega
section
theorem JK.empty {S:Nat→Prop}{B jb n:Nat}{w:World}{v:Value}{vs:List Value}{qs:List (Bool × ByteArray × Value × Value)}(hr:Raw S n B w v [] qs)(hj:Jst B jb w vs):JK S B jb w v n [] vs w [] (fun _=>False) where
 below:=Below.refl _ _
 jst:=by simpa using hj
 pend:=by simp
 blocks:=by simp
 apart:=List.Pairwise.nil
 frame:=fun _ _ _ _ _=>rfl
 less:=by simp[jP]
 prot:=fun _ h=>h.elim
 wand:=fun ws _ _=>by
  refine qb.nil _ ?_
  rcases hr.own.2 with ⟨hv,_⟩|⟨g,cap,cur,hv,_,_,_,hm,_⟩
  · exact ⟨_,_,hv,nZ9 _⟩
  · exact ⟨_,_,hv,hm⟩
theorem xV.start {S:Nat→Prop}{B jb n:Nat}{w:World}{v:Value}{us:List Tr}{vs:List Value}{qs:List (Bool × ByteArray × Value × Value)}(hr:Raw S n B w v us qs)(hj:Jst B jb w vs):xV S B jb w v n us vs 0 w qs [] (fun _=>False) where
 below:=Below.refl _ _
 len:=hr.len
 own:=hr.own
 rest:=fun i q t _ hq ht=>hr.each i q t hq ht
 done:=fun i _ _ h=>by omega
 jst:=by simpa using hj
 pend:=by simp
 blocks:=by simp
 apart:=List.Pairwise.nil
 frame:=fun _ _ _ _ _=>rfl
 less:=by simp[jP]
 prot:=fun _ h=>h.elim
theorem xV.stop {S:Nat→Prop}{B jb n:Nat}{w w':World}{us:List Tr}{vs:List Value}{qs:List (Bool × ByteArray × Value × Value)}{P:List Ent}{X:Nat→Prop}{g cap:Nat}
 (I:xV S B jb w (.slice (some ⟨g,0,none⟩) us.length cap) n us vs us.length w' qs P X) (hgw:g<w.heap.size):JK S B jb w (.slice (some ⟨g,0,none⟩) us.length cap) n us vs w' P (fun b=>X b∨b=g) where
 below:=I.below
 jst:=I.jst
 pend:=I.pend
 blocks:=fun e he b hb=>Or.inl (I.blocks e he b hb)
 apart:=I.apart
 frame:=I.frame
 less:=by have:=I.less;omega
 prot:=fun b hb=>by
  rcases hb with hb|rfl
  · obtain ⟨p1, p2, p3, p4, _, p6, p7⟩ := I.prot b hb;exact ⟨p1,p2,p3,p4,p6.elim Or.inl (fun h=>Or.inr (Or.inr h)),p7⟩
  · have hT : qG B 25 w' b := qk I.own rfl;refine ⟨hT.1,hT.lt,zM.of_own hT (by decide),I.jst.ne hT (by decide),Or.inr (Or.inl rfl),fun e he heb=>?_⟩
    have:=I.blocks e he b heb;omega
 wand:=fun ws hX hP=>by
  have hown:ws.ownsRow B 25 4 (.slice (some ⟨g,0,none⟩) us.length cap) us.length (quadCells qs):=qj I.own fun b hb=>by cases hb;exact hX g (Or.inr rfl)
  rcases I.own.2 with ⟨hv,_⟩|⟨g',cap',cur,hv,hB,_,hc,hm,_⟩
  · cases hv
  cases hv;refine ⟨_,_,by rw[List.length_map],by rw[List.length_map];exact hc,hm,fun _=>⟨g,0,rfl,hB,fun i t' ht'=>?_⟩⟩
  rw[List.getElem?_map,Option.map_eq_some_iff]at ht'
  obtain ⟨t,ht,rfl⟩:=ht'
  have hi:i<us.length:=by
   rcases Nat.lt_or_ge i us.length with h|h
   · exact h
   · rw[List.getElem?_eq_none h]at ht;cases ht
  obtain ⟨q,hq⟩:∃ q,qs[i]?=some q:=⟨qs[i]'(by rw[I.len];exact hi),by simp[I.len,hi]⟩
  obtain ⟨d1,d2,d3⟩:=I.done i q t hi hq ht;obtain ⟨d4,d5⟩:=d3 ws (fun b hb=>hX b (Or.inl hb)) hP
  obtain ⟨g0,g1,g2,g3⟩:=zE qs i q hq;refine ⟨q.2.2.1,q.2.2.2,?_,?_,?_,?_,by rw[qay];exact d4,d5⟩
  · rw[Nat.zero_add,World.ownsRow.cellAt hown (i*4) (by omega),g0,qbq,d1]
  · rw[Nat.zero_add,World.ownsRow.cellAt hown (i*4+1) (by omega),g1,qcb,d2]
  · rw[Nat.zero_add,World.ownsRow.cellAt hown (i*4+2) (by omega),g2]
  · rw[Nat.zero_add,World.ownsRow.cellAt hown (i*4+3) (by omega),g3]
theorem listInfo:(Tryd.prog.info? 23).map (fun i=>(i.zero,i.size,i.bytes))=some (some (.slice none 0 0),1,24):=by kernel_rfl
theorem qaU {S:Nat→Prop}{B jb:Nat}{w:World}{n:Nat}{us us1:List Tr}{vs:List Value}{k m:Nat}{wr w1:World}{qs qs1:List (Bool × ByteArray × Value × Value)}{P:List Ent}{X:Nat→Prop}{g cap:Nat}{v1:Value}
 (hS:∀ b,S b→b<B) (I:xV S B jb w (.slice (some ⟨g,0,none⟩) us.length cap) n us vs k wr qs P X) (hB:B≤wr.heap.size)
 (hraw1:Raw S m wr.heap.size w1 v1 us1 qs1) (hb1:Below wr.heap.size wr w1) (j:Nat) :
 Raw S m B (w1.setCell ⟨g,j*4+3,none⟩ v1) v1 us1 qs1∧Jst B jb (w1.setCell ⟨g,j*4+3,none⟩ v1) (vs++P.map (·.v)):=by
 have hgT:qG B 25 wr g:=qk I.own rfl;have hgj:g≠jb:=I.jst.ne hgT (by decide)
 have hg1:w1.heap[g]?=wr.heap[g]?:=hb1.block g hgT.lt;have hgT1:qG B 25 w1 g:=hgT.to (nR9 _) hg1;refine ⟨(hraw1.base hB).stand hS (fun b hb=>Below.heap_setCell _ _ _ _ ?_) (fun b hb=>Below.heap_setCell _ _ _ _ ?_) (fun b hb=>Below.heap_setCell _ _ _ _ ?_),?_⟩
 · have:=(hraw1.own.lt b hb).1;have:=hgT.lt;simp only;omega
 · intro e;simp only at e
   subst e;obtain ⟨_,c,fz,h1⟩:=hb;obtain ⟨_,c',fz',h2⟩:=hgT1;rw[h1]at h2
   simp at h2
 · have:=hgT.1;simp only;omega
 · obtain ⟨h1, ⟨v0, h2, h3⟩, h4⟩ := I.jst
   have hlt:jb<wr.heap.size:=by
    rcases Nat.lt_or_ge jb wr.heap.size with h'|h'
    · exact h'
    · simp[Array.getElem?_eq_none h']at h2
   refine ⟨h1,⟨v0,?_,?_⟩,h4⟩
   · rw[Below.heap_setCell _ _ _ _ (by simp only;omega),hb1.block jb hlt];exact h2
   · refine qj (qo h3 hb1) fun b hb => Below.heap_setCell _ _ _ _ ?_
     intro e;simp only at e
     subst e;exact qp h3 hgT (by decide) hb.symm
attribute [local go_sem] qf
theorem Y0 (S:Nat→Prop)(B jb:Nat)(hS:∀ b,S b→b<B):∀ (L n:Nat)(v:Value)(us:List Tr)(qs:List (Bool × ByteArray × Value × Value))(vs:List Value)(w:World),L≤1000→Raw S n B w v us qs→Small (n+1) us→Jst B jb w vs→B≤w.heap.size→vs.length+cnt (n+1) us≤1048576 →
 Calls Tryd.prog 117 #[.pointer (some ⟨jb,0,none⟩),v,.int .i64 L] w fun e w'=>e=.returned (.tuple #[])∧∃ P X,JK S B jb w v n us vs w' P X∧(0<L→us≠[]→jP P<cnt (n+1) us):=by
 intro L
 induction L with
 | zero =>
   intro n v us qs vs w hL hraw hsm hj hBw hcnt;obtain ⟨va,vc,rfl⟩:=hraw.shape;cases us with
   | nil =>
     simp only[List.length_nil]at *
     go_enter Tryd.func117,Tryd.ntmps117
     go_wp2_with fail
     go_returns
     exact ⟨rfl,[],_,JK.empty hraw hj,fun h=>by omega⟩
   | cons t r => 
     obtain ⟨i0,hi,hz0,hz1,hz2⟩:=info_parts listInfo;obtain ⟨hjB,⟨v0,hj0,hown0⟩,hsl⟩:=hj;have c0:w.cell? ⟨jb,0,none⟩=some v0:=by rw[cH9 hj0];rfl
     have hlt:jb<w.heap.size:=by
      rcases Nat.lt_or_ge jb w.heap.size with h'|h'
      · exact h'
      · simp[Array.getElem?_eq_none h']at hj0
     have hne1:(((t::r).length:Int)==0)=false:=by simp;omega
     have hll:=Q0 n (t::r);simp only[List.length_cons]at hll
     go_enter Tryd.func117,Tryd.ntmps117
     go_wp2_with (at_builtin;refine wpList_append_own _ rfl _ _ 134 rfl B 23 i0 _ 1 24 Tryd.underlying134 hi hz0 hz1 hz2 rfl (by decide) _ _ _ rfl (hown0.alloc _) ⟨w.heap.size,0,none⟩ 1 1 [.slice va (t::r).length vc] rfl ?qc1 ?qc2 ?qc3 ?qc4 ?qc5 ?qc6 ?_)
     case qc1 => rfl
     case qc2 =>
      intro j u hj'
      match j,hj' with
      | 0,hj'=>simp at hj';subst hj';simp[Addr.add]
     case qc3 => intro u hu;simp at hu;subst hu;rfl
     case qc4 => unfold maxLen;omega
     case qc5 => omega
     case qc6 => simp;omega
     intro v' w1 hown1 hgrow _
     have hv0j:some jb≠v0.ownBlock:=by
      intro e;obtain ⟨_,c,fz,hc⟩:=qk hown0 e.symm;rw[hj0]at hc
      simp at hc
     have hj1:w1.heap[jb]?=some (.cells #[v0] 136 (0,0)):=by
      rw[hgrow.block jb (by simp;omega) hv0j,Lib.alloc_old _ _ _ hlt];exact hj0
     have d0:w1.cell? ⟨jb,0,none⟩=some v0:=by rw[cH9 hj1];rfl
     have f0:w1.frozen? ⟨jb,0,none⟩=false:=fH9 hj1 0
     have hv'j:v'.ownBlock≠some jb:=by
      intro e;obtain ⟨_,c,fz,hc⟩:=qk hown1 e;rw[hj1]at hc
      simp at hc
     obtain ⟨ao,l',c',rfl⟩:∃ ao l' c',v'=.slice ao l' c':=by
      rcases hown1.2 with ⟨hv,_⟩|⟨g,cap,cur,hv,_⟩
      · exact ⟨_,_,_,hv⟩
      · exact ⟨_,_,_,hv⟩
     have hsz1:=hgrow.size;simp only[World.size_alloc]at hsz1
     have keep:∀ b,b<w.heap.size→b≠jb→some b≠v0.ownBlock→(w1.setCell ⟨jb,0,none⟩ (.slice ao l' c')).heap[b]?=w.heap[b]?:=by
      intro b hb h1 h2;rw[Below.heap_setCell _ _ _ _ h1,hgrow.block b (by simp;omega) h2,Lib.alloc_old _ _ _ hb]
     have HK:Hid (∀ b,b<w.heap.size→b≠jb→some b≠v0.ownBlock→(w1.setCell ⟨jb,0,none⟩ (.slice ao l' c')).heap[b]?=w.heap[b]?):=keep;have HJ1:Hid (w1.heap[jb]?=some (.cells #[v0] 136 (0,0))):=hj1;clear keep hj1;go_wp2_with fail
     go_returns
     refine ⟨rfl,[⟨.slice va (t::r).length vc,n,t::r,qs⟩],fun _=>False,?_,fun h=>by omega⟩
     have hbelow:Below B w (w1.setCell ⟨jb,0,none⟩ (.slice ao l' c')):=((((Below.refl B w).alloc hBw _).grown hgrow (by simp;omega) (fun k hk=>(hown0.lt k hk).1))).setCell hjB _
     have hTy:∀ b,(Value.slice va (t::r).length vc).ownBlock=some b→qG B 25 w b:=fun b hb=>qk hraw.own hb
     have hneT:∀ {e b},qG B e w b→e≠23→e≠136→(w1.setCell ⟨jb,0,none⟩ (.slice ao l' c')).heap[b]?=w.heap[b]?:=by
      intro e b hb h1 h2;exact HK.out b hb.lt (Jst.ne ⟨hjB,⟨v0,hj0,hown0⟩,hsl⟩ hb h2) (qp hown0 hb h1)
     refine ⟨hbelow,⟨hjB,⟨.slice ao l' c',?_,?_⟩,?_⟩,?_,?_,?_,?_,?_,?_,?_⟩
     · simp[World.setCell,Array.getElem?_modify,HJ1.out]
     · rw[show (vs ++ List.map (·.v) [(⟨.slice va (t :: r).length vc, n, t :: r, qs⟩ : Ent)]) = vs ++ [.slice va (t :: r).length vc] from rfl, show (vs ++ [Value.slice va (t :: r).length vc]).length = vs.length + 1 from by simp]
       refine qj hown1 fun k hk=>Below.heap_setCell _ _ _ _ (fun e=>?_)
       subst e;exact hv'j hk
     · intro x hx
       rcases List.mem_append.1 hx with hx|hx
       · exact hsl x hx
       · simp at hx;exact ⟨_,_,_,hx⟩
     · intro e he;simp at he
       subst he;exact ⟨by simp,hraw.stand hS (fun b hb=>hneT (hTy b hb) (by decide) (by decide)) (fun b hb=>hneT hb (by decide) (by decide)) (fun b hb=>hbelow.block b hb),hsm⟩
     · intro e he b hb;simp at he
       subst he;exact Or.inr hb
     · simp
     · intro b hb hbj _ hnr;refine HK.out b hb hbj (fun e=>?_)
       obtain ⟨_,c,fz,hc⟩:=qk hown0 e.symm;exact hnr c fz hc
     · simp[jP]
     · intro b hb;exact hb.elim
     · intro ws _ hP;exact hP _ List.mem_cons_self
 | succ L ih =>
   intro n v us qs vs w hL hraw hsm hj hBw hcnt;obtain ⟨va,vc,rfl⟩:=hraw.shape;cases us with
   | nil =>
     simp only[List.length_nil]at *
     go_enter Tryd.func117,Tryd.ntmps117
     go_wp2_with fail
     go_returns
     exact ⟨rfl,[],_,JK.empty hraw hj,fun _ h=>absurd rfl h⟩
   | cons t0 r0 =>
     obtain ⟨us,hus⟩:∃ us,t0::r0=us:=⟨_,rfl⟩;have hne:us≠[]:=by rw[←hus];simp
     rw[hus]at hraw hsm hcnt ⊢
     clear hus;have hpos:=List.length_pos_iff.2 hne;have hne1:((us.length:Int)==0)=false:=by simp;omega
     have hll:=Q0 n us;have IH:Hid _:=ih;clear ih
     rcases hraw.own.2 with ⟨_,h0⟩|⟨g,cap,cur,hv,hg,hh,hcc,hm,_⟩
     · omega
     cases hv;unfold maxLen at hm
     have hgw:g<w.heap.size:=(qk hraw.own rfl).lt
     have hjlt:jb<w.heap.size:=by
      obtain ⟨_,⟨v0,hj0,_⟩,_⟩:=hj
      rcases Nat.lt_or_ge jb w.heap.size with h'|h'
      · exact h'
      · simp[Array.getElem?_eq_none h']at hj0
     go_enter Tryd.func117,Tryd.ntmps117
     go_wp2_with fail
     go_loopg [24] us.length (fun gk i wr=>∃ k qs P X,k+gk=us.length∧i=.int .i64 (k:Nat)∧xV S B jb w (.slice (some ⟨g,0,none⟩) us.length vc) n us vs k wr qs P X)
     case atStart => exact ⟨0,qs,[],_,by omega,rfl,xV.start hraw hj⟩
     case round =>
      obtain ⟨k,qs',P,X,hk,rfl,I⟩:=hrel
      by_cases hlt:k<us.length
      · obtain ⟨t, ht⟩ : ∃ t, us[k]? = some t := ⟨us[k], by simp[hlt]⟩
        obtain ⟨q,hq⟩:∃ q,qs'[k]?=some q:=⟨qs'[k]'(by rw[I.len];exact hlt),by simp[I.len,hlt]⟩
        obtain ⟨_,_,_,hkt⟩:=I.rest k q t (nR9 _) hq ht
        have hkt':qb S wr (n-1+1) q.2.2.2 t.kids:=by
         cases n with
         | zero=>exact qb.deeper 0 hkt
         | succ m=>exact hkt
        have hsmk:Small (n-1+1) t.kids:=by
         cases n with
         | zero=>rw[hkt.1];exact ⟨by simp,by simp[catL],by simp⟩
         | succ m=>exact (hsm.2.2 t (List.mem_of_getElem? ht)).2.2
        obtain ⟨ka,kc,hkv,_,_⟩:=qb.shape _ hkt'
        have hgc:wr.cell? ⟨g,k*4+3,none⟩=some q.2.2.2:=by
         rw[World.ownsRow.cellAt I.own (k*4+3) (by omega)];exact (zE qs' k q hq).2.2.2
        have hgf:wr.frozen? ⟨g,k*4+3,none⟩=false:=World.ownsRow.frozenAt I.own _;rw[hkv]at hgc hkt'
        have HQ:Hid (qs'[k]?=some q):=hq;have HT:Hid (us[k]?=some t):=ht;have HV:Hid (q.2.2.2=.slice ka t.kids.length kc):=hkv;clear hq ht hkt hkv;have hwr:=I.below.size;go_wp2_with fail;refine (xu S (n-1) _ t.kids _ hkt' hsmk (fun b hb=>by have:=hS b hb;omega)).mono ?_
        rintro e w1 ⟨v1,qs1,rfl,hraw1,hb1⟩;obtain ⟨a1,c1,rfl⟩:=hraw1.shape;have hg1:w1.cell? ⟨g,k*4+3,none⟩=some (.slice ka t.kids.length kc):=by rw[hb1.cell (p:=⟨g,k*4+3,none⟩) (by simp only;omega)];exact hgc
        have hf1:w1.frozen? ⟨g,k*4+3,none⟩=false:=by rw[hb1.frozen (p:=⟨g,k*4+3,none⟩) (by simp only;omega)];exact hgf
        go_wp2_with fail;obtain ⟨hraw2,hj2⟩:=qaU hS I (by omega) hraw1 hb1 k
        have hbnd:(vs++P.map (·.v)).length+cnt (n-1+1) (jt t.kids)≤1048576:=by
         have h1:=I.less;have h2:=XL (n-1) t.kids;have h3:=qbd (fun e he=>(I.pend e he).1)
         have hd:us.drop k=t::us.drop (k+1):=by
          rw[List.drop_eq_getElem_cons hlt];congr 1;simpa[hlt] using HT.out
         rw[hd,qK]at h1
         have h4:cnt (n-1+1) t.kids≤cnt n t.kids:=by
          cases n with
          | zero =>
            obtain ⟨_,_,_,d⟩:=I.rest k q t (nR9 _) HQ.out HT.out;rw[d.1];simp[cnt]
          | succ m=>exact nR9 _
         rw[List.length_append,List.length_map];omega
        refine (IH.out (n-1) _ (jt t.kids) qs1 (vs++P.map (·.v)) _ (by omega) hraw2 (JV hsmk) hj2 (by have:=hb1.size;simp;omega) hbnd).mono ?_
        rintro e w3 ⟨rfl,P1,X1,J,_⟩;go_wp2_with fail
        go_roundg (us.length-(k+1))
        case measure => omega
        case rel => exact ⟨k+1,_,_,_,by omega,by go_num,VB I hS hgw HQ.out HT.out hraw1 hb1 J⟩
      · have hkk : k = us.length := by omega
        subst hkk;go_wp2_with fail
        go_returns
        refine ⟨rfl,P,_,I.stop hgw,fun _ _=>?_⟩
        have:=I.less;omega
end
def jN (P:List Ent):Nat:=(P.map fun e=>max 1 (cnt (e.n+1) e.us)).sum
theorem j4 (P Q:List Ent):jN (P++Q)=jN P+jN Q:=by simp[jN]
theorem qaM (P:List Ent):P.length≤jN P:=by
 induction P with
 | nil=>simp
 | cons e r ih =>
   have:jN (e::r)=max 1 (cnt (e.n+1) e.us)+jN r:=by simp[jN]
   simp only[List.length_cons];omega
theorem Ym {P:List Ent}(h:∀ e∈P,e.us≠[]):jN P=jP P:=by
 induction P with
 | nil=>rfl
 | cons e r ih =>
   have h1:=ih (fun x hx=>h x (List.mem_cons_of_mem _ hx))
   have h2:=Q0 e.n e.us;have h3:=List.length_pos_iff.2 (h e List.mem_cons_self);have h4:jP (e::r)=cnt (e.n+1) e.us+jP r:=by simp[jP]
   have h5:jN (e::r)=max 1 (cnt (e.n+1) e.us)+jN r:=by simp[jN]
   omega
structure qbf (S:Nat→Prop) (B jb:Nat) (w:World) (v:Value) (n:Nat) (us:List Tr) (w':World) (P:List Ent) (X:Nat→Prop):Prop where
 below:Below B w w'
 jst:Jst B jb w' (P.map (·.v))
 raw:∀ e∈P,Raw S e.n B w' e.v e.us e.qs∧Small (e.n+1) e.us
 apart:P.Pairwise fun e f=>e.v.ownBlock=none∨e.v.ownBlock≠f.v.ownBlock
 prot:∀ b,X b→B≤b∧b<w'.heap.size∧zM w' b∧b≠jb∧∀ e∈P,e.v.ownBlock≠some b
 wand:∀ ws:World,(∀ b,X b→ws.heap[b]?=w'.heap[b]?)→(∀ e∈P,qae B ws e)→qb (fun b=>B≤b) ws (n+1) v (us.map (jk n))
theorem qal {S:Nat→Prop}{B jb:Nat}{w:World}{v:Value}{n:Nat}{us:List Tr}{wr w1 w2:World}{P P1:List Ent}{e:Ent}{X X1:Nat→Prop}(hS:∀ b,S b→b<B)
 (I:qbf S B jb w v n us wr (P++[e]) X) (hs1:w1.heap.size=wr.heap.size) (h1:∀ b,b≠jb→w1.heap[b]?=wr.heap[b]?) (hb1:Below B wr w1)
 (J:JK S B jb w1 e.v e.n e.us (P.map (·.v)) w2 P1 X1):qbf S B jb w v n us w2 (P++P1) (fun b=>X b∨X1 b):=by
 have hsz2:=J.below.size;rw[hs1]at hsz2
 have keep:∀ b,b<wr.heap.size→b≠jb→e.v.ownBlock≠some b→zM wr b→w2.heap[b]?=wr.heap[b]?:=by
  intro b hb hbj hbe hnr;rw[J.frame b (by omega) hbj hbe (hnr.of_heap (h1 b hbj)),h1 b hbj]
 have keepX:∀ b,X b→w2.heap[b]?=wr.heap[b]?:=by
  intro b hb;obtain ⟨_,p2,p3,p4,p5⟩:=I.prot b hb;exact keep b p2 p4 (p5 e (by simp)) p3
 have hT:∀ f∈P++[e],∀ b,f.v.ownBlock=some b→qG B 25 wr b:=fun f hf b hb=>qk (I.raw f hf).1.own hb
 have keepA:∀ b,qG B 69 wr b→w2.heap[b]?=wr.heap[b]?:=by
  intro b hb;refine keep b hb.lt (I.jst.ne hb (by decide)) (fun h=>?_) (zM.of_own hb (by decide))
  exact qp (I.raw e (by simp)).1.own hb (by decide) h.symm
 have keepP:∀ f∈P,∀ b,f.v.ownBlock=some b→w2.heap[b]?=wr.heap[b]?:=by
  intro f hf b hb;have hTb:=hT f (by simp[hf]) b hb
  refine keep b hTb.lt (I.jst.ne hTb (by decide)) (fun h=>?_) (zM.of_own hTb (by decide))
  rcases (List.pairwise_append.1 I.apart).2.2 f hf e (by simp) with h'|h'
  · rw[hb]at h';cases h'
  · exact h' (hb.trans h.symm)
 refine ⟨I.below.trans (hb1.trans J.below),?_,?_,?_,?_,?_⟩
 · have:=J.jst;simpa using this
 · intro f hf
   rcases List.mem_append.1 hf with hf|hf
   · refine ⟨(I.raw f (by simp[hf])).1.stand hS (keepP f hf) keepA (fun b hb => ?_), (I.raw f (by simp[hf])).2⟩
     rw[J.below.block b hb,hb1.block b hb]
   · exact (J.pend f hf).2
 · refine List.pairwise_append.2 ⟨(List.pairwise_append.1 I.apart).1, J.apart.imp (fun h => Or.inr h), fun f hf f' hf' => ?_⟩
   cases hfb:f.v.ownBlock with
   | none=>exact Or.inl rfl
   | some b =>
     right
     intro h;have h3:=(hT f (by simp[hf]) b hfb).lt
     rcases J.blocks f' hf' b h.symm with h4|h4
     · omega
     · rcases (List.pairwise_append.1 I.apart).2.2 f hf e (by simp) with h' | h'
       · rw[hfb]at h';cases h'
       · exact h' (hfb.trans h4.symm)
 · intro b hb
   rcases hb with hb|hb
   · obtain ⟨p1, p2, p3, p4, p5⟩ := I.prot b hb;refine ⟨p1,by omega,p3.of_heap (keepX b hb),p4,fun f hf h=>?_⟩
     rcases List.mem_append.1 hf with hf|hf
     · exact p5 f (by simp[hf]) h
     · rcases J.blocks f hf b h with h4 | h4
       · omega
       · exact p5 e (by simp) h4
   · obtain ⟨p1, p2, p3, p4, p5, p6⟩ := J.prot b hb;refine ⟨p1,p2,p3,p4,fun f hf h=>?_⟩
     rcases List.mem_append.1 hf with hf|hf
     · have hTb := hT f (by simp[hf]) b h
       have h3:=hTb.lt
       rcases p5 with h5|h5|h5
       · omega
       · rcases (List.pairwise_append.1 I.apart).2.2 f hf e (by simp) with h' | h'
         · rw[h]at h';cases h'
         · exact h' (h.trans h5.symm)
       · have e0 := keepP f hf b h;obtain ⟨_,c1,f1,e1⟩:=hTb;obtain ⟨_,c2,f2,e2⟩:=h5;rw[e0,e1]at e2
         simp at e2
     · exact p6 f hf h
 · intro ws hX hP;refine I.wand ws (fun b hb=>(hX b (Or.inl hb)).trans (keepX b hb)) (fun f hf=>?_)
   rcases List.mem_append.1 hf with hf|hf
   · exact hP f (by simp[hf])
   · simp at hf
     subst hf;exact J.wand ws (fun b hb=>hX b (Or.inr hb)) (fun g hg=>hP g (by simp[hg]))
theorem K9 {S:Nat→Prop}{B jb n:Nat}(hS:∀ b,S b→b<B){va:Option Addr}{vc:Nat}{us:List Tr}{qs:List (Bool × ByteArray × Value × Value)}{w:World}(hraw:Raw S n B w (.slice va us.length vc) us qs)(hsm:Small (n+1) us)
 (hjb:B≤jb) (hj:w.heap[jb]?=some (.cells #[.slice none 0 0] 136 (0,0))) (hBw:B≤w.heap.size) :
 qbf S B jb w (.slice va us.length vc) n us ((w.setCell ⟨jb,0,none⟩ (.slice (some ⟨w.heap.size,0,none⟩) 1 1)).alloc (.cells #[.slice va us.length vc] 23)) [⟨.slice va us.length vc,n,us,qs⟩] (fun _=>False):=by
 have hlt:jb<w.heap.size:=by
  rcases Nat.lt_or_ge jb w.heap.size with h'|h'
  · exact h'
  · simp[Array.getElem?_eq_none h']at hj
 have keep:∀ b,b<w.heap.size→b≠jb→((w.setCell ⟨jb,0,none⟩ (.slice (some ⟨w.heap.size,0,none⟩) 1 1)).alloc (.cells #[.slice va us.length vc] 23)).heap[b]?=w.heap[b]?:=by
  intro b hb hbj;rw[Lib.alloc_old _ _ _ (by simp;omega),Below.heap_setCell _ _ _ _ hbj]
 have hne:∀ {e b},qG B e w b→e≠136→b≠jb:=by
  intro e b hb hne h;subst h;obtain ⟨_,c,fz,hc⟩:=hb;rw[hj]at hc
  simp only[Option.some.injEq,Obj.cells.injEq]at hc
  exact hne hc.2.1.symm
 have hbel:Below B w ((w.setCell ⟨jb,0,none⟩ (.slice (some ⟨w.heap.size,0,none⟩) 1 1)).alloc (.cells #[.slice va us.length vc] 23)):=((Below.refl B w).setCell hjb _).alloc (by simp;omega) _
 refine ⟨hbel,⟨hjb,⟨.slice (some ⟨w.heap.size,0,none⟩) 1 1,?_,?_⟩,?_⟩,?_,?_,?_,?_⟩
 · rw[Lib.alloc_old _ _ _ (by simp;omega)]
   simp[World.setCell,Array.getElem?_modify,hj]
 · have := World.ownsRow_lit (base := B) (e := 23) (size := 1) (w.setCell ⟨jb, 0, none⟩ (.slice (some ⟨w.heap.size, 0, none⟩) 1 1)) #[.slice va us.length vc] 1 (by simp;omega) (by unfold maxLen;omega) rfl
   simpa using this
 · intro x hx;simp at hx
   exact ⟨_,_,_,hx⟩
 · intro e he;simp at he
   subst he;exact ⟨hraw.stand hS (fun b hb=>keep b (qk hraw.own hb).lt (hne (qk hraw.own hb) (by decide))) (fun b hb=>keep b hb.lt (hne hb (by decide))) (fun b hb=>hbel.block b hb),hsm⟩
 · simp
 · intro b hb;exact hb.elim
 · intro ws _ hP;exact hP _ List.mem_cons_self
theorem JU (S:Nat→Prop)(B jb n:Nat)(hS:∀ b,S b→b<B)(v:Value)(us:List Tr)(qs:List (Bool × ByteArray × Value × Value))(w:World)(hraw:Raw S n B w v us qs)(hsm:Small (n+1) us)
 (hjb:B≤jb) (hj:w.heap[jb]?=some (.cells #[.slice none 0 0] 136 (0,0))) (hBw:B≤w.heap.size) (hcnt:cnt (n+1) us≤1048576) :
 Calls Tryd.prog 95 #[.pointer (some ⟨jb,0,none⟩),v] w fun e w'=>e=.returned (.tuple #[])∧qb (fun b=>B≤b) w' (n+1) v (us.map (jk n))∧Below B w w':=by
 obtain ⟨va,vc,rfl⟩:=hraw.shape
 have hlt:jb<w.heap.size:=by
  rcases Nat.lt_or_ge jb w.heap.size with h'|h'
  · exact h'
  · simp[Array.getElem?_eq_none h']at hj
 have c0:w.cell? ⟨jb,0,none⟩=some (.slice none 0 0):=by rw[cH9 hj];rfl
 have f0:w.frozen? ⟨jb,0,none⟩=false:=fH9 hj 0;have HJ:Hid (w.heap[jb]?=some (.cells #[.slice none 0 0] 136 (0,0))):=hj;clear hj
 go_enter Tryd.func95,Tryd.ntmps95
 go_wp2_with fail
 go_loopg [] (max 1 (cnt (n+1) us)) (fun g wr=>∃ P X,jN P=g∧g≤1048576∧qbf S B jb w (.slice va us.length vc) n us wr P X)
 case atStart =>
  refine ⟨[⟨.slice va us.length vc,n,us,qs⟩],fun _=>False,by simp[jN],by omega,?_⟩
  exact K9 hS hraw hsm hjb HJ.out hBw
 case round =>
  obtain ⟨P,X,hm,hle,I⟩:=hrel;subst hm;have hj:=I.jst;obtain ⟨hjB,⟨v0,hj0,hown0⟩,hsl⟩:=id hj
  obtain ⟨a0,c0',rfl⟩:∃ a c,v0=.slice a P.length c:=by
   rcases hown0.2 with ⟨hv,h0⟩|⟨g,cap,cur,hv,_⟩
   · exact ⟨none,0,by rw[hv];simp at h0;simp[h0]⟩
   · exact ⟨some ⟨g,0,none⟩,cap,by rw[hv];simp⟩
  have d0:wr.cell? ⟨jb,0,none⟩=some (.slice a0 P.length c0'):=by rw[cH9 hj0];rfl
  clear hj0
  rcases List.eq_nil_or_concat P with rfl|⟨P0,e,hPe⟩
  · simp only[List.length_nil]at d0
    go_wp2_with fail
    go_returns
    exact ⟨rfl,I.wand wr (fun _ _=>rfl) (by simp),I.below⟩
  · rw[List.concat_eq_append]at hPe
    subst hPe;have hl:(P0++[e]).length=P0.length+1:=by simp
    rw[hl]at d0
    rw[List.map_append,List.map_cons,List.map_nil]at hj
    go_wp2_with fail;refine (Jk B jb _ _ _ hj).mono ?_;rintro e' w1 ⟨rfl,hj1,hs1,h1,hb1⟩;obtain ⟨hraw1,hsm1⟩:=I.raw e (by simp)
    have hraw2:Raw S e.n B w1 e.v e.us e.qs:=hraw1.stand hS (fun b hb=>h1 b (I.jst.ne (qk hraw1.own hb) (by decide))) (fun b hb=>h1 b (I.jst.ne hb (by decide))) (fun b hb=>h1 b (by omega))
    have hmm:jN (P0++[e])=jN P0+max 1 (cnt (e.n+1) e.us):=by rw[j4];simp[jN]
    have hle0:=hle;rw[hmm]at hle0
    have hml:=qaM P0;have hsz1:B≤w1.heap.size:=by have:=I.below.size;omega
    go_wp2_with fail;refine (Y0 S B jb hS 1000 e.n e.v e.us e.qs (P0.map (·.v)) _ (nR9 _) hraw2 hsm1 hj1 hsz1 (by rw[List.length_map];omega)).mono ?_
    rintro e' w2 ⟨rfl,P1,X1,J,hless⟩;go_wp2_with fail
    go_roundg (jN (P0++P1))
    case measure =>
     rw[hmm,j4,Ym (fun f hf=>(J.pend f hf).1)]
     have h3:=J.less
     by_cases hne:e.us=[]
     · rw[hne,qI]at h3;omega
     · have:=hless (by omega) hne;omega
    case rel =>
     refine ⟨P0++P1,_,rfl,?_,qal hS I hs1 h1 hb1 J⟩;rw[j4,Ym (fun f hf=>(J.pend f hf).1)]
     have h3:=J.less;omega
theorem XW (S:Nat→Prop)(n:Nat)(v:Value)(ts:List Tr)(w:World)(h:qb S w (n+1) v ts)(hsm:Small (n+1) ts)(hS:∀ b,S b→b<w.heap.size)(hcnt:cnt (n+1) ts≤1048576) :
 Calls Tryd.prog 60 #[v] w fun e w'=>∃ v',e=.returned v'∧qb (fun b=>w.heap.size≤b) w' (n+1) v' ((jt ts).map (jk n))∧Below w.heap.size w w':=by
 go_enter Tryd.func60,Tryd.ntmps60
 go_wp2_with fail;refine (xu S n _ ts _ h hsm hS).mono ?_;rintro e w1 ⟨v1,qs,rfl,hraw,hb⟩;obtain ⟨a1,c1,rfl⟩:=hraw.shape;go_wp2_with fail;have hsz:=hb.size;refine (JU S w.heap.size w1.heap.size n hS _ (jt ts) qs _ (hraw.later (Below.alloc1 _ _)) (JV hsm) hsz (heap_alloc_new w1 _) (by simp;omega) (Nat.le_trans (XL n ts) hcnt)).mono ?_
 rintro e w2 ⟨rfl,hT,hb2⟩;go_wp2_with fail;go_ret;exact ⟨_,rfl,hT,(hb.alloc (by omega) _).trans hb2⟩
end Go.Proofs.YtfdbipeidmpciaaDoor
