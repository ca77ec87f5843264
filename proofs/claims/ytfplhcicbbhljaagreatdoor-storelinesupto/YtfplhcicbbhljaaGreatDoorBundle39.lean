/- Bundled: ApplyW FullW. What each says stands ahead of it. -/
import Derived.Test.YtfplhcicbbhljaaGreatDoorBundle36
import Derived.Test.YtfplhcicbbhljaaGreatDoorBundle38
namespace Go.Proofs.YtfplhcicbbhljaaGreatDoor
open Go.ChangeShapes Go.WideShapes Go.ChangeAt Go.RowKit
set_option maxRecDepth 100000
section
attribute [local go_sem] qd
theorem qb.narrow {S:Nat→Prop}{w:World}:∀ (m n:Nat){v:Value}{ts:List Tr},qb S w n v ts→Deep m ts→qb S w m v ts:=by
 intro m
 induction m with
 | zero =>
   intro n v ts h hd;have e:ts=[]:=hd;subst e;obtain ⟨a,c,hv,h1,h2⟩:=qb.shape n h;exact ⟨rfl,⟨a,c,hv,h2⟩⟩
 | succ m ih =>
   intro n v ts h hd
   by_cases hne:ts=[]
   · subst hne;obtain ⟨a,c,hv,h1,h2⟩:=qb.shape n h;exact ⟨a,c,hv,h1,h2,fun e=>absurd rfl e⟩
   · cases n with
     | zero=>exact absurd h.1 hne
     | succ n =>
       obtain ⟨a,cap,h1,h2,h3,h4⟩:=h;refine ⟨a,cap,h1,h2,h3,fun _=>?_⟩
       obtain ⟨b,o,ha,hs,hc⟩:=h4 hne;refine ⟨b,o,ha,hs,fun i t ht=>?_⟩
       obtain ⟨va,vk,c0,c1,c2,c3,c4,c5⟩:=hc i t ht;exact ⟨va,vk,c0,c1,c2,c3,c4,ih n c5 (hd t (List.mem_of_getElem? ht))⟩
theorem Ops.narrow {S:Nat→Prop}{w:World}{n m:Nat}{v:Value}{l:List Opn}(h:Ops S w n v l)(hd:∀ o∈l,Deep m o.content):Ops S w m v l:=by
 obtain ⟨a,cap,h1,h2,h3,h4⟩:=h;refine ⟨a,cap,h1,h2,h3,fun hne=>?_⟩
 obtain ⟨b,o,ha,hs,hc⟩:=h4 hne;refine ⟨b,o,ha,hs,fun i x hx=>?_⟩
 obtain ⟨ca,cc,c0,c1,c2,c3,c4,c5⟩:=hc i x hx;exact ⟨ca,cc,c0,c1,c2,c3,c4,qb.narrow m n c5 (hd x (List.mem_of_getElem? hx))⟩
theorem xI.of9 {S:Nat→Prop}{w w1 w2:World}{v:Value}{l:List Opn}(h:Ops S w 9 v l)(hS:∀ b,S b→b<w.heap.size)(h1:Below w.heap.size w w1)(h2:Below w1.heap.size w1 w2):xI (fun b=>b<w1.heap.size) (fun b=>b<w1.heap.size) w2 (8+1) v l :=
 Ops.row (((h.later h1).later h2).carry fun b hb=>⟨Nat.lt_of_lt_of_le (hS b hb) h1.size,rfl⟩)
structure AP (w:World) (v:Value) (W:World):Prop where
 below:Below w.heap.size w W
 box:W.heap[w.heap.size]?=some (.cells #[v] 60 (0,0))
 res:W.heap[w.heap.size+1]?=some (.cells #[.slice none 0 0] 60 (0,0))
theorem AP.later {w:World}{v:Value}{W W':World}{m:Nat}(h:AP w v W)(hb:Below m W W')(hm:w.heap.size+2≤m):AP w v W' :=
 ⟨h.below.trans (hb.mono (by omega)),(hb.block _ (by omega)).trans h.box,(hb.block _ (by omega)).trans h.res⟩
theorem AP.two {w:World}{v:Value}{W:World}(h:AP w v W):w.heap.size+2≤W.heap.size:=qh h.res
theorem qdP {S:Nat→Prop}{w:World}{n:Nat}{va vk:Value}{t:Tr}(hA:qm S w va t.attrs)(hK:qb S w n vk t.kids):qb (fun b=>b<w.heap.size+1) (w.alloc (.cells #[.bool t.text,.string t.s,va,vk] 79)) (n+1) (.slice (some ⟨w.heap.size,0,none⟩) 1 1) [t]:=by
 have hb:=Below.alloc1 w (.cells #[.bool t.text,.string t.s,va,vk] 79);have hh:=heap_alloc_new w (.cells #[.bool t.text,.string t.s,va,vk] 79);refine ⟨_,1,rfl,nR9 _,by decide,fun _=>⟨w.heap.size,0,rfl,Nat.lt_succ_self _,fun i u hu=>?_⟩⟩
 have hi:i=0:=by have:=qj hu;simp at this;exact this
 subst hi;simp at hu
 subst hu;refine ⟨va,vk,by rw[cH9 hh];rfl,by rw[cH9 hh];rfl,by rw[cH9 hh];rfl,by rw[cH9 hh];rfl,?_,?_⟩
 · exact (hA.later hb).bounded.carry fun b hb'=>⟨by have:=hb'.2;simpa using this,rfl⟩
 · exact qb.carry (fun b hb'=>⟨by have:=hb'.2;simpa using this,rfl⟩) n (qb.bounded n (qb.later hb n hK))
end
theorem Jf {s:ByteArray}(h:qN s=true):s.size≤40:=by
 simp only[qN,Bool.and_eq_true,decide_eq_true_eq]at h
 exact h.1
theorem Yv {s:ByteArray}(h:qM s=true):s.size≤8:=by
 simp only[qM,Bool.and_eq_true,decide_eq_true_eq]at h
 exact h.1.2
theorem Jh {t:Tr}(h:qz t=true):t.s.size≤40:=by
 unfold qz at h
 split at h
 · simp only[Bool.and_eq_true]at h
   exact Jf h.1.1.2
 · simp only[Bool.and_eq_true]at h
   have:=Yv h.1;omega
theorem qal {ns:List Nd}(hg:qG ns=true):∀ x∈ns,x.s.size≤40:=by
 intro y hy;obtain ⟨n,hn⟩:=List.mem_iff_getElem?.1 hy;obtain ⟨d,T,u,fs,hz⟩:=Kq hg (qj hn);obtain ⟨x',hx',_,e2,_⟩:=hz.get;rw[hn]at hx'
 obtain rfl:=Option.some.inj hx';rw[e2];exact Jh hz.right
end Go.Proofs.YtfplhcicbbhljaaGreatDoor
