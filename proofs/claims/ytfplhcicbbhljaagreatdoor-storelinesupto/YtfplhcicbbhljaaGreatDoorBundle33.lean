/- Bundled: OutW InsM. What each says stands ahead of it. -/
import Derived.Test.YtfplhcicbbhljaaGreatDoorBundle32
import Derived.Shelf.Slices.Turned
import Derived.Shelf.Slices.Cells
namespace Go.Proofs.YtfplhcicbbhljaaGreatDoor
open Go.ChangeShapes Go.WideShapes Go.ChangeAt Go.RowKit
set_option maxRecDepth 100000
section
attribute [local go_sem] qd
def Kj (xs:List Value)(o:Nat):List Value→List Value
 | []=>xs
 | v::r=>Kj (xs.set o v) (o+1) r
theorem je {B:Nat}{e:TypeId}{g n cap size:Nat}:∀ (vs:List Value)(o:Nat)(w:World)(xs:List Value),w.ownsRow B e size (.slice (some ⟨g,0,none⟩) n cap) n xs→(w.setCells g o vs).ownsRow B e size (.slice (some ⟨g,0,none⟩) n cap) n (Kj xs o vs):=by
 intro vs
 induction vs with
 | nil=>intro o w xs h;exact h
 | cons v r ih=>intro o w xs h;exact ih (o+1) _ _ (h.stored o v).1
theorem jK {g:Nat}:∀ (vs:List Value)(o:Nat)(w:World){b:Nat},b≠g→(w.setCells g o vs).heap[b]?=w.heap[b]?:=by
 intro vs
 induction vs with
 | nil=>intro o w b _;rfl
 | cons v r ih=>intro o w b h;rw[World.setCells,ih _ _ h,qc h]
theorem yA {g:Nat}:∀ (vs:List Value)(o:Nat)(w:World),Below 0 w (w.setCells g o vs)∧(w.setCells g o vs).heap.size=w.heap.size:=by
 intro vs
 induction vs with
 | nil=>intro o w;exact ⟨Below.refl _ _,rfl⟩
 | cons v r ih =>
   intro o w;obtain ⟨h1,h2⟩:=ih (o+1) (w.setCell ⟨g,o,none⟩ v);exact ⟨((Below.refl 0 w).setCell (p:=⟨g,o,none⟩) (nZ9 _) v).trans h1,by rw[World.setCells,h2];simp⟩
theorem qfS {B:Nat}{T:Nat→Prop}{N bb:Nat}{w w6:World}{g cap n:Nat}{L:List Nd}{ms:List Rw}{r:Rw}{x:Nd}{v':Value}{l:List Int}(h:Bx B T N bb w (.slice (some ⟨g,0,none⟩) L.length cap) L ms)(hr:ms[n]?=some r)(hx:L[n]?=some x)
 (hown:qZ B w6 v' l) (hbl:Below 0 w w6) (hg:∀ b,b<w.heap.size→r.vk.ownBlock≠some b→w6.heap[b]?=w.heap[b]?) (hat:∀ b,v'.ownBlock=some b→r.vk.ownBlock=some b∨w.heap.size≤b) :
 Bx B T N bb (w6.setCell ⟨g,n*5+4,none⟩ v') (.slice (some ⟨g,0,none⟩) L.length cap) (L.set n { x with kids:=l }) (ms.set n { r with vk:=v' })∧zc N bb w (w6.setCell ⟨g,n*5+4,none⟩ v') (.slice (some ⟨g,0,none⟩) L.length cap) (.slice (some ⟨g,0,none⟩) L.length cap) ms (ms.set n { r with vk:=v' }):=by
 obtain ⟨hb0,hBb,hB⟩:=h;have hR:=hB.each n r x hr hx;have hgo:zw B 90 w g:=qi hB.row rfl;have hgr:r.vk.ownBlock≠some g:=fun e=>qv hR.kids hgo (by decide) e.symm
 have row6:w6.ownsRow B 90 5 (.slice (some ⟨g,0,none⟩) L.length cap) L.length (rawCells ms):=qn hB.row fun b hb=>by
  have e:g=b:=by injection hb
  subst e;exact hg g hgo.lt hgr
 have hnm:n<ms.length:=(List.getElem?_eq_some_iff.1 hr).1;have low6:∀ b,b<B→w6.heap[b]?=w.heap[b]?:=fun b hb=>hg b (Nat.lt_of_lt_of_le hb hB.le) (fun e=>by have:=(qZ.lt hR.kids b e).1;omega)
 have hput:=hB.put (w1:=w6) (w2:=w6.setCell ⟨g,n*5+4,none⟩ v') (r':={ r with vk:=v' }) (x':={ x with kids:=l }) hr hx hbl.size (by simp)
  (fun b h1 h2 _=>hg b h1 h2) (by rw[yK ms n r v' hr];exact (row6.stored (n*5+4) v').1) (fun b hb=>qc (fun e=>hb (by rw[e];rfl)))
  ⟨hR.text,hR.s,hR.par,hown,fun hi=>qn (hR.own hi) (fun b hb=>by
   have hs:=qi (hR.own hi) hb;exact hg b hs.lt (fun e=>qv hR.kids hs (by decide) e.symm)),fun hi=>(hR.far hi).carry fun b hb=>⟨hb,low6 b (hB.low b hb)⟩⟩ hat (fun _ b hb=>Or.inl hb)
 have hbg:bb≠g:=fun e=>zL (B:=0) (w:=w) ⟨nZ9 _,_,_,hb0⟩ hgo (by decide) e
 have hbr:r.vk.ownBlock≠some bb:=fun e=>zL (qi hR.kids e) (B':=0) ⟨nZ9 _,_,_,hb0⟩ (by decide) rfl
 refine ⟨⟨?_,hBb,hput⟩,⟨?_,?_,?_⟩⟩
 · rw[qc hbg,hg bb (qh hb0) hbr];exact hb0
 · exact hbl.setCell (p:=⟨g,n*5+4,none⟩) (nZ9 _) _
 · intro b h1 h2 h3;rw[qc (fun e=>h3 (Or.inl (by rw[e];rfl))),hg b h1 (fun e=>h3 (Or.inr ⟨n,r,hr,Or.inl e⟩))]
 · intro b hb
   rcases hb with hb|⟨i,q,hq,hb⟩
   · exact Or.inl (Or.inl hb)
   · by_cases hi : i = n
     · subst hi;rw[List.getElem?_set_self hnm]at hq
       injection hq with hq
       subst hq
       rcases hb with hb|hb
       · rcases hat b hb with e | e
         · exact Or.inl (Or.inr ⟨i,r,hr,Or.inl e⟩)
         · exact Or.inr e
       · exact Or.inl (Or.inr ⟨i,r,hr,Or.inr hb⟩)
     · rw[List.getElem?_set_ne (fun e => hi e.symm)]at hq
       exact Or.inl (Or.inr ⟨i,q,hq,hb⟩)
end
theorem setL_mid:∀ (vs A M C:List Value),M.length=vs.length→Kj (A++(M++C)) A.length vs=A++(vs++C):=by
 intro vs
 induction vs with
 | nil=>intro A M C h;have:M=[]:=List.eq_nil_of_length_eq_zero h;subst this;rfl
 | cons v r ih =>
   intro A M C h;cases M with
   | nil=>simp at h
   | cons x M =>
     rw[Kj,List.set_append_right _ _ (nR9 _),Nat.sub_self,List.cons_append,List.set_cons_zero];have:=ih (A++[v]) M C (by simpa using h)
     rw[List.append_assoc,List.length_append]at this
     simp only[List.cons_append,List.nil_append,List.append_assoc]at this ⊢
     exact this
theorem Vw {B:Nat}{e:TypeId}{g n cap size:Nat}{w:World}{xs:List Value}(h:w.ownsRow B e size (.slice (some ⟨g,0,none⟩) n cap) n xs)(m:Nat)(hm:n+m≤cap):∃ sp,sp.length=m*size∧w.ownsRow B e size (.slice (some ⟨g,0,none⟩) (n+m) cap) (n+m) (xs++sp):=by
 obtain ⟨h1,h2⟩:=h
 rcases h2 with ⟨h',_⟩|⟨g',cap',cur,h',hb,hg,hnc,hcm,hcs,ht⟩
 · simp at h'
 · injection h' with h3 _ h4
   injection h3 with h3
   injection h3 with h3 _ _
   subst h3 h4;have hl:(n+m)*size≤cap*size:=Nat.mul_le_mul_right _ hm;have hadd:(n+m)*size=n*size+m*size:=Nat.add_mul _ _ _;have hcl:cur.toList.length=cap*size:=by rw[Array.length_toList];exact hcs
   refine ⟨(cur.toList.drop (n*size)).take (m*size),by rw[List.length_take,List.length_drop];omega,?_,Or.inr ⟨g,cap,cur,rfl,hb,hg,hm,hcm,hcs,?_⟩⟩
   · rw[List.length_append,h1,List.length_take,List.length_drop];omega
   · rw[hadd,List.take_add,ht]
theorem QF {B:Nat}{e:TypeId}{g n cap size:Nat}{w:World}{xs:List Value}(h:w.ownsRow B e size (.slice (some ⟨g,0,none⟩) n cap) n xs):∃ cur,w.heap[g]?=some (.cells cur e (0,0))∧cur.size=cap*size∧n≤cap∧cap≤maxLen∧B≤g:=by
 rcases h.2 with ⟨h',_⟩|⟨g',cap',cur,h',hb,hg,hnc,hcm,hcs,ht⟩
 · simp at h'
 · injection h' with h3 _ h4
   injection h3 with h3
   injection h3 with h3 _ _
   subst h3 h4;exact ⟨cur,hg,hcs,hnc,hcm,hb⟩
theorem j1 {B:Nat}{e:TypeId}{n size:Nat}{v:Value}{w:World}{xs:List Value}(h:w.ownsRow B e size v n xs)(hn:0<n):∃ g cap,v=.slice (some ⟨g,0,none⟩) n cap∧n≤cap∧cap≤maxLen:=by
 rcases h.2 with ⟨_,h0⟩|⟨g,cap,cur,hv,_,_,hnc,hcm,_⟩
 · omega
 · exact ⟨g,cap,hv,hnc,hcm⟩
theorem qbn {w:World}{g:Nat}{cur:Array Value}{e:TypeId}{fz:Nat × Nat}(h:w.heap[g]?=some (.cells cur e fz)){j:Nat}(hj:j<cur.size):(w.cell? ⟨g,j,none⟩).isSome=true:=by
 rw[cH9 h,Array.getElem?_eq_getElem hj];rfl
def qbh (B:Nat)(e:TypeId)(size:Nat)(v:Value)(n:Nat)(xs:List Value)(i m:Nat)(ys:List Value)(w:World)(x:Ending)(w':World):Prop :=
 ∃ v',x=.returned v'∧w'.ownsRow B e size v' (n+m) (xs.take (i*size)++(ys++xs.drop (i*size)))∧(∀ b,v'.ownBlock=some b→v.ownBlock=some b∨w.heap.size≤b)∧Below 0 w w'∧(∀ b,b<w.heap.size→v.ownBlock≠some b→w'.heap[b]?=w.heap[b]?)
theorem qb5 {B:Nat}{e:TypeId}{g n cap size i m q r:Nat}{w:World}{xs ys:List Value}(h:w.ownsRow B e size (.slice (some ⟨g,0,none⟩) n cap) n xs)(hroom:n+m≤cap)(hi:i≤n)(hy:ys.length=m*size) :
 qbh B e size (.slice (some ⟨g,0,none⟩) n cap) n xs i m ys w (.returned (.slice (some ⟨g,0,none⟩) (n+m) cap)) ((((w.drewN q).setCells g ((i+m)*size) (xs.drop (i*size))).drewN r).setCells g (i*size) ys):=by
 have hx:xs.length=n*size:=h.1;have hd1:Below w.heap.size w (w.drewN q):=⟨rfl,rfl,rfl,nR9 _,fun _ _=>rfl⟩
 obtain ⟨sp,hsp,h2⟩:=Vw (qq h hd1) m hroom;have him:(i+m)*size=i*size+m*size:=Nat.add_mul _ _ _;have hnm:(n+m)*size=n*size+m*size:=Nat.add_mul _ _ _;have hin:i*size≤n*size:=Nat.mul_le_mul_right _ hi;have h3:=je (xs.drop (i*size)) ((i+m)*size) _ _ h2
 have e1:Kj (xs++sp) ((i+m)*size) (xs.drop (i*size))=(xs++sp).take ((i+m)*size)++xs.drop (i*size):=by
  have hA:((xs++sp).take ((i+m)*size)).length=(i+m)*size:=by rw[List.length_take,List.length_append];omega
  have:=setL_mid (xs.drop (i*size)) ((xs++sp).take ((i+m)*size)) ((xs++sp).drop ((i+m)*size)) [] (by simp only[List.length_drop,List.length_append];omega)
  rw[List.append_nil,List.take_append_drop,hA,List.append_nil]at this
  exact this
 rw[e1]at h3
 have hd2:Below ((w.drewN q).setCells g ((i+m)*size) (xs.drop (i*size))).heap.size ((w.drewN q).setCells g ((i+m)*size) (xs.drop (i*size))) (((w.drewN q).setCells g ((i+m)*size) (xs.drop (i*size))).drewN r):=⟨rfl,rfl,rfl,nR9 _,fun _ _=>rfl⟩
 have h4:=je ys (i*size) _ _ (qq h3 hd2)
 have e2:Kj ((xs++sp).take ((i+m)*size)++xs.drop (i*size)) (i*size) ys=xs.take (i*size)++(ys++xs.drop (i*size)):=by
  have hA:(xs.take (i*size)).length=i*size:=by rw[List.length_take];omega
  have:=setL_mid ys (xs.take (i*size)) (((xs++sp).take ((i+m)*size)).drop (i*size)) (xs.drop (i*size)) (by simp only[List.length_drop,List.length_take,List.length_append];omega)
  rw[hA,←List.append_assoc,show xs.take (i*size)=((xs++sp).take ((i+m)*size)).take (i*size) from by
   rw[List.take_take,Nat.min_eq_left (by omega),List.take_append_of_le_length (by omega)],List.take_append_drop]at this
  rw[this,List.take_take,Nat.min_eq_left (by omega),List.take_append_of_le_length (by omega)]
 rw[e2]at h4
 refine ⟨_,rfl,h4,fun b hb=>Or.inl hb,?_,fun b _ hb=>?_⟩
 · exact (((hd1.mono (nZ9 _)).trans (yA _ _ _).1).trans (hd2.mono (nZ9 _))).trans (yA _ _ _).1
 · have hne : b ≠ g := fun e => hb (by rw[e];rfl)
   rw[jK _ _ _ hne]
   show (((w.drewN q).setCells g ((i+m)*size) (xs.drop (i*size)))).heap[b]?=_
   rw[jK _ _ _ hne];rfl
theorem qeM {B:Nat}{e:TypeId}{g n cap size m:Nat}{w:World}{xs ys:List Value}(h:w.ownsRow B e size (.slice (some ⟨g,0,none⟩) n cap) n xs)(hroom:n+m≤cap)(hy:ys.length=m*size) :
 qbh B e size (.slice (some ⟨g,0,none⟩) n cap) n xs n m ys w (.returned (.slice (some ⟨g,0,none⟩) (n+m) cap)) (w.setCells g (n*size) ys):=by
 have hx:xs.length=n*size:=h.1;obtain ⟨sp,hsp,h2⟩:=Vw h m hroom;have h3:=je ys (n*size) _ _ h2
 have e1:Kj (xs++sp) (n*size) ys=xs++ys:=by
  have:=setL_mid ys xs sp [] (by omega)
  rw[List.append_nil,List.append_nil,hx]at this
  exact this
 rw[e1]at h3
 refine ⟨_,rfl,?_,fun b hb=>Or.inl hb,(yA _ _ _).1,fun b _ hb=>jK _ _ _ (fun e=>hb (by rw[e];rfl))⟩
 have e2:xs.take (n*size)++(ys++xs.drop (n*size))=xs++ys:=by rw[←hx,List.take_length,List.drop_length,List.append_nil]
 rw[e2];exact h3
theorem qbD {B:Nat}{e:TypeId}{size k cap:Nat}{w:World}{cur:Array Value}(hB:B≤w.heap.size)(hk:k≤cap)(hm:cap≤maxLen)(hs:cur.size=cap*size):(w.alloc (.cells cur e)).ownsRow B e size (.slice (some ⟨w.heap.size,0,none⟩) k cap) k (cur.toList.take (k*size)):=by
 have:k*size≤cap*size:=Nat.mul_le_mul_right _ hk;refine ⟨by rw[List.length_take,Array.length_toList];omega,Or.inr ⟨w.heap.size,cap,cur,rfl,hB,heap_alloc_new w _,hk,hm,hs,rfl⟩⟩
theorem qdx {B:Nat}{e:TypeId}{n size i m q r G:Nat}{v:Value}{w:World}{xs ys:List Value}{ROW:Array Value}(hx:xs.length=n*size)(hB:B≤w.heap.size)(hi:i≤n)(hy:ys.length=m*size)(hG:n+m≤G)(hGm:G≤maxLen)(hR:ROW.size=G*size)(ht:ROW.toList.take (i*size)=xs.take (i*size)) :
 qbh B e size v n xs i m ys w (.returned (.slice (some ⟨w.heap.size,0,none⟩) (n+m) G)) (((((w.alloc (.cells ROW e)).drewN q).setCells w.heap.size (i*size) ys).drewN r).setCells w.heap.size ((i+m)*size) (xs.drop (i*size))):=by
 have him:(i+m)*size=i*size+m*size:=Nat.add_mul _ _ _;have hnm:(n+m)*size=n*size+m*size:=Nat.add_mul _ _ _;have hin:i*size≤n*size:=Nat.mul_le_mul_right _ hi;have hGs:(n+m)*size≤G*size:=Nat.mul_le_mul_right _ hG;have h0:(w.alloc (.cells ROW e)).ownsRow B e size (.slice (some ⟨w.heap.size,0,none⟩) (n+m) G) (n+m) (ROW.toList.take ((n+m)*size)):=qbD hB hG hGm hR;have hd1:Below (w.alloc (.cells ROW e)).heap.size (w.alloc (.cells ROW e)) ((w.alloc (.cells ROW e)).drewN q):=⟨rfl,rfl,rfl,nR9 _,fun _ _=>rfl⟩
 have hRl:ROW.toList.length=G*size:=by rw[Array.length_toList];exact hR
 have hrl:(ROW.toList.take ((n+m)*size)).length=(n+m)*size:=by rw[List.length_take];omega
 generalize hM:ROW.toList.take ((n+m)*size)=M at h0 hrl
 have hMt:M.take (i*size)=xs.take (i*size):=by rw[←hM,List.take_take,Nat.min_eq_left (by omega),ht]
 have h1:=je ys (i*size) _ _ (qq h0 hd1);have hxl:(xs.take (i*size)).length=i*size:=by rw[List.length_take];omega
 have e1:Kj M (i*size) ys=xs.take (i*size)++(ys++M.drop ((i+m)*size)):=by
  have:=setL_mid ys (M.take (i*size)) ((M.drop (i*size)).take (m*size)) (M.drop ((i+m)*size)) (by rw[List.length_take,List.length_drop];omega)
  rw[hMt,hxl]at this
  have hs:(M.drop (i*size)).take (m*size)++M.drop ((i+m)*size)=M.drop (i*size):=by
   rw[him,←List.drop_drop,List.take_append_drop]
  rw[hs,←hMt,List.take_append_drop]at this
  rw[this,hMt]
 rw[e1]at h1
 have hd2:Below (((w.alloc (.cells ROW e)).drewN q).setCells w.heap.size (i*size) ys).heap.size (((w.alloc (.cells ROW e)).drewN q).setCells w.heap.size (i*size) ys) ((((w.alloc (.cells ROW e)).drewN q).setCells w.heap.size (i*size) ys).drewN r):=⟨rfl,rfl,rfl,nR9 _,fun _ _=>rfl⟩
 have h2:=je (xs.drop (i*size)) ((i+m)*size) _ _ (qq h1 hd2)
 have e2:Kj (xs.take (i*size)++(ys++M.drop ((i+m)*size))) ((i+m)*size) (xs.drop (i*size))=xs.take (i*size)++(ys++xs.drop (i*size)):=by
  have:=setL_mid (xs.drop (i*size)) (xs.take (i*size)++ys) (M.drop ((i+m)*size)) [] (by rw[List.length_drop,List.length_drop];omega)
  rw[List.append_nil,List.append_nil,List.length_append,hxl,hy,←him,List.append_assoc,List.append_assoc]at this
  exact this
 rw[e2]at h2
 refine ⟨_,rfl,h2,fun b hb=>?_,?_,fun b hb _=>?_⟩
 · have : w.heap.size = b := by injection hb
   exact Or.inr (by omega)
 · exact ((((Below.alloc1 w _).mono (nZ9 _)).trans (hd1.mono (nZ9 _))).trans ((yA _ _ _).1.trans (hd2.mono (nZ9 _)))).trans (yA _ _ _).1
 · have hne : b ≠ w.heap.size := by omega
   rw[jK _ _ _ hne]
   show ((((w.alloc (.cells ROW e)).drewN q).setCells w.heap.size (i*size) ys)).heap[b]?=_
   rw[jK _ _ _ hne]
   show (w.alloc (.cells ROW e)).heap[b]?=_
   exact Lib.alloc_old _ _ _ hb
end Go.Proofs.YtfplhcicbbhljaaGreatDoor
