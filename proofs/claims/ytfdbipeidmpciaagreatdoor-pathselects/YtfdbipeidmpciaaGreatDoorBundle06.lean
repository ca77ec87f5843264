/- A new list of trees that grows by append, its trees' own lists elsewhere. No condition. -/
import Derived.Test.YtfdbipeidmpciaaGreatDoorBundle05
import Derived.Maps.AppendAt
namespace Go.Proofs.YtfdbipeidmpciaaGreatDoor
open Go.ChangeShapes Go.WideShapes Go.ChangeAt Go.RowKit
set_option maxRecDepth 100000
def Oth (S:Nat→Prop)(B:Nat)(w:World)(v:Value)(b:Nat):Prop:=(S b∨B≤b)∧b<w.heap.size∧v.ownBlock≠some b
structure qW (S:Nat→Prop) (n B:Nat) (w:World) (v:Value) (us:List Tr) (qs:List (Bool × ByteArray × Value × Value)):Prop where
 len:qs.length=us.length
 own:w.ownsRow B 54 4 v us.length (quadCells qs)
 each:∀ (i:Nat) (q:Bool × ByteArray × Value × Value) (t:Tr),qs[i]?=some q→us[i]?=some t→q.1=t.text∧q.2.1=t.s∧qh (Oth S B w v) w q.2.2.1 t.attrs∧qd (Oth S B w v) w n q.2.2.2 t.kids
theorem qW.nil (S:Nat→Prop)(n B:Nat)(w:World):qW S n B w (.slice none 0 0) [] [] :=
 ⟨rfl,World.ownsRow_nil _ _ _ _,fun i q t h=>by simp at h⟩
theorem qW.shape {S:Nat→Prop}{n B:Nat}{w:World}{v:Value}{us:List Tr}{qs:List (Bool × ByteArray × Value × Value)}(h:qW S n B w v us qs):∃ a c,v=.slice a us.length c:=by
 rcases h.own.2 with ⟨hv,h0⟩|⟨g,cap,cur,hv,_⟩
 · exact ⟨none,0,by rw[hv,h0]⟩
 · exact ⟨_,_,hv⟩
theorem Oth.later {S:Nat→Prop}{B:Nat}{w w':World}{v:Value}{b:Nat}(h:Oth S B w v b)(hb:Below w.heap.size w w'):Oth S B w' v b∧w'.heap[b]?=w.heap[b]? :=
 ⟨⟨h.1,Nat.lt_of_lt_of_le h.2.1 hb.size,h.2.2⟩,hb.block b h.2.1⟩
theorem qW.later {S:Nat→Prop}{n B:Nat}{w w':World}{v:Value}{us:List Tr}{qs:List (Bool × ByteArray × Value × Value)}(h:qW S n B w v us qs)(hb:Below w.heap.size w w'):qW S n B w' v us qs :=
 ⟨h.len,qA h.own hb,fun i q t hq ht=>by
  obtain ⟨a,b,c,d⟩:=h.each i q t hq ht;exact ⟨a,b,c.carry (fun b hs=>hs.later hb),qd.carry (fun b hs=>hs.later hb) n d⟩⟩
theorem qW.snoc {S:Nat→Prop}{n B:Nat}{w w':World}{v v':Value}{us:List Tr}{qs:List (Bool × ByteArray × Value × Value)}{t:Tr}{q:Bool × ByteArray × Value × Value}
 (h:qW S n B w v us qs) (hown:w'.ownsRow B 54 4 v' (us.length+1) (quadCells qs++[.bool q.1,.string q.2.1,q.2.2.1,q.2.2.2]))
 (hg:w.grownBy w' v.ownBlock) (hat:v'.ownBlock=v.ownBlock∨v'.ownBlock=some w.heap.size) (h1:q.1=t.text) (h2:q.2.1=t.s) (ha:qh (Oth S B w v) w q.2.2.1 t.attrs) (hk:qd (Oth S B w v) w n q.2.2.2 t.kids):qW S n B w' v' (us++[t]) (qs++[q]):=by
 have carry:∀ b,Oth S B w v b→Oth S B w' v' b∧w'.heap[b]?=w.heap[b]?:=by
  intro b hb;refine ⟨⟨hb.1,Nat.lt_of_lt_of_le hb.2.1 hg.size,?_⟩,hg.block b hb.2.1 (fun e=>hb.2.2 e.symm)⟩
  rcases hat with e|e
  · rw[e];exact hb.2.2
  · rw[e];intro e';cases e';exact Nat.lt_irrefl _ hb.2.1
 refine ⟨by simp[h.len],?_,?_⟩
 · rw[zF,List.length_append];exact hown
 · intro i q' t' hq ht
   rcases Nat.lt_or_ge i us.length with hi|hi
   · rw[List.getElem?_append_left (by rw[h.len];exact hi)]at hq
     rw[List.getElem?_append_left hi]at ht
     obtain ⟨a,b,c,d⟩:=h.each i q' t' hq ht;exact ⟨a,b,c.carry carry,qd.carry carry n d⟩
   · rw[List.getElem?_append_right (by rw[h.len];exact hi)]at hq
     rw[List.getElem?_append_right hi]at ht
     rw[h.len]at hq
     have hz:i-us.length=0:=by
      rcases Nat.eq_zero_or_pos (i-us.length) with h'|h'
      · exact h'
      · rw[List.getElem?_eq_none (by simp;omega)]at ht;cases ht
     rw[hz]at hq ht
     simp at hq ht
     subst hq ht;exact ⟨h1,h2,ha.carry carry,qd.carry carry n hk⟩
theorem qW.done {S:Nat→Prop}{n B:Nat}{w:World}{v:Value}{us:List Tr}{qs:List (Bool × ByteArray × Value × Value)}(h:qW S n B w v us qs):qd (fun b=>S b∨B≤b) w (n+1) v us:=by
 rcases h.own.2 with ⟨hv,h0⟩|⟨g,cap,cur,hv,hB,hh,hc,hm,_⟩
 · have : us = [] := List.eq_nil_of_length_eq_zero h0;subst this;exact qd.nil _ ⟨_,_,hv,nZ9 _⟩
 · subst hv;refine ⟨_,_,rfl,hc,hm,fun _=>⟨g,0,rfl,Or.inr hB,fun i t ht=>?_⟩⟩
   have hi:i<us.length:=by
    rcases Nat.lt_or_ge i us.length with h'|h'
    · exact h'
    · rw[List.getElem?_eq_none h']at ht;cases ht
   obtain ⟨q,hq⟩:∃ q,qs[i]?=some q:=⟨qs[i]'(by rw[h.len];exact hi),by simp[h.len,hi]⟩
   obtain ⟨a,b,c,d⟩:=h.each i q t hq ht;obtain ⟨g0,g1,g2,g3⟩:=zB qs i q hq;refine ⟨q.2.2.1,q.2.2.2,?_,?_,?_,?_,c.carry (fun b hb=>⟨hb.1,rfl⟩),qd.carry (fun b hb=>⟨hb.1,rfl⟩) n d⟩
   · rw[Nat.zero_add,World.ownsRow.cellAt h.own (i*4) (by omega),g0,a]
   · rw[Nat.zero_add,World.ownsRow.cellAt h.own (i*4+1) (by omega),g1,b]
   · rw[Nat.zero_add,World.ownsRow.cellAt h.own (i*4+2) (by omega),g2]
   · rw[Nat.zero_add,World.ownsRow.cellAt h.own (i*4+3) (by omega),g3]
theorem qW.fresh {S:Nat→Prop}{n B N:Nat}{w w':World}{v:Value}{us:List Tr}{qs:List (Bool × ByteArray × Value × Value)}(h:qW S n B w v us qs)(hN:w.heap.size≤N)(hB:B≤N):∀ b,N≤b∧b<w'.heap.size→Oth S B w' v b:=by
 intro b hb;refine ⟨Or.inr (by omega),hb.2,fun e=>?_⟩
 have:=(h.own.lt b e).2;omega
end Go.Proofs.YtfdbipeidmpciaaGreatDoor
