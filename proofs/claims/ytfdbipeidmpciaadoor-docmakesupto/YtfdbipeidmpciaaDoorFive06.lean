/- A new list of trees that grows by append, its trees' own lists elsewhere. No condition. -/
import Derived.Test.YtfdbipeidmpciaaDoorFive05
import Derived.Maps.AppendAt
namespace Go.Proofs.YtfdbipeidmpciaaDoor
open Go.ChangeShapes Go.WideShapes Go.ChangeAt Go.RowKit
set_option maxRecDepth 100000
def Oth (S:Nat→Prop)(B:Nat)(w:World)(v:Value)(b:Nat):Prop:=(S b∨B≤b)∧b<w.heap.size∧v.ownBlock≠some b
structure qS (S:Nat→Prop) (n B:Nat) (w:World) (v:Value) (us:List Tr) (qs:List (Bool × ByteArray × Value × Value)):Prop where
 len:qs.length=us.length
 own:w.ownsRow B 25 4 v us.length (quadCells qs)
 each:∀ (i:Nat) (q:Bool × ByteArray × Value × Value) (t:Tr),qs[i]?=some q→us[i]?=some t→q.1=t.text∧q.2.1=t.s∧qe (Oth S B w v) w q.2.2.1 t.attrs∧qb (Oth S B w v) w n q.2.2.2 t.kids
theorem qS.nil (S:Nat→Prop)(n B:Nat)(w:World):qS S n B w (.slice none 0 0) [] [] :=
 ⟨rfl,World.ownsRow_nil _ _ _ _,fun i q t h=>by simp at h⟩
theorem qS.shape {S:Nat→Prop}{n B:Nat}{w:World}{v:Value}{us:List Tr}{qs:List (Bool × ByteArray × Value × Value)}(h:qS S n B w v us qs):∃ a c,v=.slice a us.length c:=by
 rcases h.own.2 with ⟨hv,h0⟩|⟨g,cap,cur,hv,_⟩
 · exact ⟨none,0,by rw[hv,h0]⟩
 · exact ⟨_,_,hv⟩
theorem Oth.later {S:Nat→Prop}{B:Nat}{w w':World}{v:Value}{b:Nat}(h:Oth S B w v b)(hb:Below w.heap.size w w'):Oth S B w' v b∧w'.heap[b]?=w.heap[b]? :=
 ⟨⟨h.1,Nat.lt_of_lt_of_le h.2.1 hb.size,h.2.2⟩,hb.block b h.2.1⟩
theorem qS.later {S:Nat→Prop}{n B:Nat}{w w':World}{v:Value}{us:List Tr}{qs:List (Bool × ByteArray × Value × Value)}(h:qS S n B w v us qs)(hb:Below w.heap.size w w'):qS S n B w' v us qs :=
 ⟨h.len,qq h.own hb,fun i q t hq ht=>by
  obtain ⟨a,b,c,d⟩:=h.each i q t hq ht;exact ⟨a,b,c.carry (fun b hs=>hs.later hb),qb.carry (fun b hs=>hs.later hb) n d⟩⟩
theorem qS.snoc {S:Nat→Prop}{n B:Nat}{w w':World}{v v':Value}{us:List Tr}{qs:List (Bool × ByteArray × Value × Value)}{t:Tr}{q:Bool × ByteArray × Value × Value}
 (h:qS S n B w v us qs) (hown:w'.ownsRow B 25 4 v' (us.length+1) (quadCells qs++[.bool q.1,.string q.2.1,q.2.2.1,q.2.2.2]))
 (hg:w.grownBy w' v.ownBlock) (hat:v'.ownBlock=v.ownBlock∨v'.ownBlock=some w.heap.size) (h1:q.1=t.text) (h2:q.2.1=t.s) (ha:qe (Oth S B w v) w q.2.2.1 t.attrs) (hk:qb (Oth S B w v) w n q.2.2.2 t.kids):qS S n B w' v' (us++[t]) (qs++[q]):=by
 have carry:∀ b,Oth S B w v b→Oth S B w' v' b∧w'.heap[b]?=w.heap[b]?:=by
  intro b hb;refine ⟨⟨hb.1,Nat.lt_of_lt_of_le hb.2.1 hg.size,?_⟩,hg.block b hb.2.1 (fun e=>hb.2.2 e.symm)⟩
  rcases hat with e|e
  · rw[e];exact hb.2.2
  · rw[e];intro e';cases e';exact Nat.lt_irrefl _ hb.2.1
 refine ⟨by simp[h.len],?_,?_⟩
 · rw[yq,List.length_append];exact hown
 · intro i q' t' hq ht
   rcases Nat.lt_or_ge i us.length with hi|hi
   · rw[List.getElem?_append_left (by rw[h.len];exact hi)]at hq
     rw[List.getElem?_append_left hi]at ht
     obtain ⟨a,b,c,d⟩:=h.each i q' t' hq ht;exact ⟨a,b,c.carry carry,qb.carry carry n d⟩
   · rw[List.getElem?_append_right (by rw[h.len];exact hi)]at hq
     rw[List.getElem?_append_right hi]at ht
     rw[h.len]at hq
     have hz:i-us.length=0:=by
      rcases Nat.eq_zero_or_pos (i-us.length) with h'|h'
      · exact h'
      · rw[List.getElem?_eq_none (by simp;omega)]at ht;cases ht
     rw[hz]at hq ht
     simp at hq ht
     subst hq ht;exact ⟨h1,h2,ha.carry carry,qb.carry carry n hk⟩
theorem qS.done {S:Nat→Prop}{n B:Nat}{w:World}{v:Value}{us:List Tr}{qs:List (Bool × ByteArray × Value × Value)}(h:qS S n B w v us qs):qb (fun b=>S b∨B≤b) w (n+1) v us:=by
 rcases h.own.2 with ⟨hv,h0⟩|⟨g,cap,cur,hv,hB,hh,hc,hm,_⟩
 · have : us = [] := List.eq_nil_of_length_eq_zero h0;subst this;exact qb.nil _ ⟨_,_,hv,nZ9 _⟩
 · subst hv;refine ⟨_,_,rfl,hc,hm,fun _=>⟨g,0,rfl,Or.inr hB,fun i t ht=>?_⟩⟩
   have hi:i<us.length:=by
    rcases Nat.lt_or_ge i us.length with h'|h'
    · exact h'
    · rw[List.getElem?_eq_none h']at ht;cases ht
   obtain ⟨q,hq⟩:∃ q,qs[i]?=some q:=⟨qs[i]'(by rw[h.len];exact hi),by simp[h.len,hi]⟩
   obtain ⟨a,b,c,d⟩:=h.each i q t hq ht;obtain ⟨g0,g1,g2,g3⟩:=yf qs i q hq;refine ⟨q.2.2.1,q.2.2.2,?_,?_,?_,?_,c.carry (fun b hb=>⟨hb.1,rfl⟩),qb.carry (fun b hb=>⟨hb.1,rfl⟩) n d⟩
   · rw[Nat.zero_add,World.ownsRow.cellAt h.own (i*4) (by omega),g0,a]
   · rw[Nat.zero_add,World.ownsRow.cellAt h.own (i*4+1) (by omega),g1,b]
   · rw[Nat.zero_add,World.ownsRow.cellAt h.own (i*4+2) (by omega),g2]
   · rw[Nat.zero_add,World.ownsRow.cellAt h.own (i*4+3) (by omega),g3]
theorem qS.fresh {S:Nat→Prop}{n B N:Nat}{w w':World}{v:Value}{us:List Tr}{qs:List (Bool × ByteArray × Value × Value)}(h:qS S n B w v us qs)(hN:w.heap.size≤N)(hB:B≤N):∀ b,N≤b∧b<w'.heap.size→Oth S B w' v b:=by
 intro b hb;refine ⟨Or.inr (by omega),hb.2,fun e=>?_⟩
 have:=(h.own.lt b e).2;omega
theorem Jk (n:Nat)(h:jr n):jr (n+1):=by
 intro S v ts w h1 hsm;have H:Hid (jr n):=h;clear h;obtain ⟨i0,hi,hz0,hz1,hz2⟩:=info_parts treeInfo;have hlen:=hsm.1;obtain ⟨a,cap,rfl,_,hm,h4⟩:=h1;unfold maxLen at hm
 go_enter Tryd.func22,Tryd.ntmps22
 go_wp2_with fail
 go_loopg [8,3] ts.length (fun g i o wr=>∃ (k:Nat) (qs:List (Bool × ByteArray × Value × Value)),k+g=ts.length∧i=.int .i64 k∧qS (fun _=>False) n w.heap.size wr o (ts.take k) qs∧Below w.heap.size w wr)
 case atStart => exact ⟨0,[],by omega,rfl,qS.nil _ _ _ _,Below.refl _ _⟩
 case round =>
  obtain ⟨k,qs,hk,rfl,hG,hB⟩:=hrel;have hsz:=hB.size
  by_cases hlt:k<ts.length
  · have hne : ts ≠ [] := by intro e;subst e;simp at hlt
    obtain ⟨b,o,rfl,hs,hcc⟩:=h4 hne;obtain ⟨t,ht⟩:∃ t,ts[k]?=some t:=⟨ts[k],by simp[hlt]⟩
    obtain ⟨va,vk,c0,c1,c2,c3,hat,hkt⟩:=hcc k t ht;obtain ⟨aa,ac,rfl⟩:=hat.shape;obtain ⟨ka,kc,rfl,_,_⟩:=qb.shape n hkt;have hbl:b<w.heap.size:=World.block_lt_of_cell? w _ c0;rw[←hB.cell (p:=⟨b,o+k*4,none⟩) hbl]at c0
    rw[←hB.cell (p:=⟨b,o+k*4+1,none⟩) hbl]at c1
    rw[←hB.cell (p:=⟨b,o+k*4+2,none⟩) hbl]at c2
    rw[←hB.cell (p:=⟨b,o+k*4+3,none⟩) hbl]at c3
    have hsn:ts.take (k+1)=ts.take k++[t]:=by
     rw[List.take_succ_eq_append_getElem hlt];congr 2;simpa[hlt] using ht
    have HS:Hid (ts.take (k+1)=ts.take k++[t]):=hsn;obtain ⟨_,_,hsk⟩:=hsm.2.2 t (List.mem_of_getElem? ht);have hal:=(hsm.2.2 t (List.mem_of_getElem? ht)).1;have hlk:(ts.take k).length=k:=by rw[List.length_take];omega
    obtain ⟨us,hus⟩:∃ us,ts.take k=us:=⟨_,rfl⟩;rw[hus]at hG hlk HS
    obtain ⟨ja,jc,rfl⟩:=hG.shape;rw[hlk]at hG ⊢
    have HL:Hid (us.length=k):=hlk;clear hcc h4 ht hsn hus hlk;go_wp2_with fail;refine (xg n H.out S _ _ t _ (hat.later (hB.alloc hsz _)) (qb.later (hB.alloc hsz _) n hkt) hal hsk).mono ?_;rintro e w1 ⟨va1,vk1,rfl,ha1,hk1,hb1⟩;obtain ⟨a1,c1',rfl⟩:=ha1.shape;obtain ⟨a2,c2',rfl,_,_⟩:=qb.shape n hk1;have hG1:qS (fun _=>False) n w.heap.size w1 (.slice ja k jc) us qs:=(hG.later (Below.alloc1 _ _)).later hb1
    have hB1:Below w.heap.size w w1:=(hB.alloc hsz _).trans (hb1.mono (by simp;omega))
    have hsz1:=hb1.size;simp only[World.size_alloc]at hsz1
    have hown1:=hG1.own;rw[HL.out]at hown1
    go_wp2_with (at_builtin;refine wpList_append_own_at _ rfl _ _ 23 rfl w.heap.size 25 i0 _ 4 72 Tryd.underlying23 hi hz0 hz1 hz2 rfl (by decide) _ _ _ rfl (hown1.alloc _) ⟨w1.heap.size,0,none⟩ 1 1 [.bool t.text,.string t.s,.slice a1 t.attrs.length c1',.slice a2 t.kids.length c2'] rfl ?qc1 ?qc2 ?qc3 ?qc4 ?qc5 ?qc6 ?_)
    case qc1 => rfl
    case qc2 => exact yW _ _ _ _ _ _
    case qc3 => intro u hu;simp at hu;rcases hu with rfl|rfl|rfl|rfl<;>rfl
    case qc4 => unfold maxLen;omega
    case qc5 => omega
    case qc6 => simp;omega
    intro v' w2 hown' hgrow _ hat';have hG2:=hG1.later (Below.alloc1 w1 (.cells #[.bool t.text,.string t.s,.slice a1 t.attrs.length c1',.slice a2 t.kids.length c2'] 25));have hfr:=hG.fresh (w':=w1.alloc (.cells #[.bool t.text,.string t.s,.slice a1 t.attrs.length c1',.slice a2 t.kids.length c2'] 25)) (nR9 _) hsz
    have hG3:=hG2.snoc (t:=t) (q:=(t.text,t.s,.slice a1 t.attrs.length c1',.slice a2 t.kids.length c2')) (by rw[HL.out];exact hown') hgrow (by rw[World.size_alloc];exact hat') rfl rfl
     ((ha1.later (Below.alloc1 w1 _)).bounded.carry (fun b hb=>⟨hfr b ⟨by have:=hb.1;simp at this;omega,hb.2⟩,rfl⟩))
     (qb.carry (fun b hb=>⟨hfr b ⟨by have:=hb.1;simp at this;omega,hb.2⟩,rfl⟩) n (qb.bounded n (qb.later (Below.alloc1 w1 _) n hk1)))
    have hB2:Below w.heap.size w w2:=(hB1.alloc (by omega) _).grown hgrow (by simp;omega) (fun k hk=>(hG2.own.lt k hk).1)
    obtain ⟨va',vc',rfl⟩:=hG3.shape;have hll:(us++[t]).length=k+1:=by rw[List.length_append,HL.out];rfl
    rw[hll]at hG3 ⊢
    clear hown' hll;go_wp2_with fail
    go_roundg (ts.length-(k+1))
    case measure => omega
    case rel => exact ⟨k+1,_,by omega,by go_num,by rw[HS.out];exact hG3,hB2⟩
  · have hkk : k = ts.length := by omega
    subst hkk;rw[List.take_length]at hG
    obtain ⟨ja,jc,rfl⟩:=hG.shape;go_wp2_with fail;go_ret;refine ⟨_,rfl,qb.carry (fun b hb=>⟨?_,rfl⟩) (n+1) hG.done,hB⟩
    rcases hb with hb|hb
    · exact hb.elim
    · exact hb
theorem J7 (n:Nat):jr n:=by
 induction n with
 | zero=>exact copy_zero
 | succ n ih=>exact Jk n ih
end Go.Proofs.YtfdbipeidmpciaaDoor
