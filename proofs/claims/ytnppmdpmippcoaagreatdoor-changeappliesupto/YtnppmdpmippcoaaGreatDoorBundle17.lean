/- Bundled: OutW InsM ValW. What each says stands ahead of it. -/
import Derived.Test.YtnppmdpmippcoaaGreatDoorBundle15
import Derived.Test.YtnppmdpmippcoaaGreatDoorBundle16
namespace Go.Proofs.YtnppmdpmippcoaaGreatDoor
open Go.ChangeShapes Go.WideShapes Go.ChangeAt Go.RowKit
set_option maxRecDepth 100000
section
attribute [local go_sem] qD
def QP (xs:List Value)(o:Nat):List Value→List Value
 | []=>xs
 | v::r=>QP (xs.set o v) (o+1) r
theorem setL_all:∀ (vs pre xs:List Value),vs.length=xs.length→QP (pre++xs) pre.length vs=pre++vs:=by
 intro vs
 induction vs with
 | nil=>intro pre xs h;cases xs with|nil=>rfl|cons x xs=>simp at h
 | cons v r ih =>
   intro pre xs h;cases xs with
   | nil=>simp at h
   | cons x xs =>
     rw[QP,List.set_append_right _ _ (nR9 _),Nat.sub_self,List.set_cons_zero];have:=ih (pre++[v]) xs (by simpa using h)
     rw[List.append_assoc,List.length_append,List.append_assoc]at this
     exact this
theorem zT {B:Nat}{e:TypeId}{g n cap size:Nat}:∀ (vs:List Value)(o:Nat)(w:World)(xs:List Value),w.ownsRow B e size (.slice (some ⟨g,0,none⟩) n cap) n xs→(w.setCells g o vs).ownsRow B e size (.slice (some ⟨g,0,none⟩) n cap) n (QP xs o vs):=by
 intro vs
 induction vs with
 | nil=>intro o w xs h;exact h
 | cons v r ih=>intro o w xs h;exact ih (o+1) _ _ (h.stored o v).1
theorem yh {g:Nat}:∀ (vs:List Value)(o:Nat)(w:World){b:Nat},b≠g→(w.setCells g o vs).heap[b]?=w.heap[b]?:=by
 intro vs
 induction vs with
 | nil=>intro o w b _;rfl
 | cons v r ih=>intro o w b h;rw[World.setCells,ih _ _ h,qd h]
theorem zv {g:Nat}:∀ (vs:List Value)(o:Nat)(w:World),Below 0 w (w.setCells g o vs)∧(w.setCells g o vs).heap.size=w.heap.size:=by
 intro vs
 induction vs with
 | nil=>intro o w;exact ⟨Below.refl _ _,rfl⟩
 | cons v r ih =>
   intro o w;obtain ⟨h1,h2⟩:=ih (o+1) (w.setCell ⟨g,o,none⟩ v);exact ⟨((Below.refl 0 w).setCell (p:=⟨g,o,none⟩) (nZ9 _) v).trans h1,by rw[World.setCells,h2];simp⟩
theorem qa9 {B:Nat}{e:TypeId}{g n m cap:Nat}{w:World}{xs:List Value}(h:w.ownsRow B e 1 (.slice (some ⟨g,0,none⟩) n cap) n xs)(hm:m≤n):w.ownsRow B e 1 (.slice (some ⟨g,0,none⟩) m cap) m (xs.take m):=by
 obtain ⟨h1,h2⟩:=h
 rcases h2 with ⟨h',_⟩|⟨g',cap',cur,h',hb,hg,hnc,hcm,hcs,ht⟩
 · simp at h'
 · injection h' with h3 _ h4
   injection h3 with h3
   injection h3 with h3 _ _
   subst h3 h4;refine ⟨by rw[List.length_take,h1];omega,Or.inr ⟨g,cap,cur,rfl,hb,hg,by omega,hcm,hcs,?_⟩⟩
   rw[←ht,List.take_take]
   congr 1
   omega
theorem Xm (B:Nat)(v:Value)(l:List Int)(k:Nat)(w:World)(h:qY B w v l)(hk:k<l.length) :
 Calls Tryz.prog 96 #[v,.int .i64 (k:Int),.int .i64 ((k:Int)+1)] w fun e w'=>∃ v',e=.returned v'∧qY B w' v' (l.take k++l.drop (k+1))∧v'.ownBlock=v.ownBlock∧Below 0 w w'∧(∀ b,v.ownBlock≠some b→w'.heap[b]?=w.heap[b]?):=by
 have hrow:=h
 rcases h.2 with ⟨rfl,h0⟩|⟨g,cap,cur,rfl,hg,hh,hc,hm,hs,ht⟩
 · omega
 · have hm' : cap ≤ 9223372036854775807 := by unfold maxLen at hm;omega
   have hcell:∀ j,j<l.length→w.cell? ⟨g,0+j,none⟩=some (.int .i64 (l.getD j 0)):=by
    intro j hj;rw[Nat.zero_add,World.ownsRow.cellAt hrow j (by omega),j8 (x:=l.getD j 0) (by rw[List.getD_eq_getElem?_getD,List.getElem?_eq_getElem hj];rfl)]
   refine (Tryz.slices_Delete_int_cells g 0 l.length cap k (k+1) l w (nR9 _) hc hm' (by omega) (by omega) hcell (fun j _=>World.ownsRow.frozenAt hrow _)).mono ?_
   rintro e w' ⟨rfl,q,rfl⟩;have hdr:Below w.heap.size w (w.drewN q):=⟨rfl,rfl,rfl,nR9 _,fun _ _=>rfl⟩
   have hrow2:(w.drewN q).ownsRow B 3 1 (.slice (some ⟨g,0,none⟩) l.length cap) l.length (qI l):=qH hrow hdr;refine ⟨_,rfl,?_,rfl,?_,?_⟩
   · have h1 := zT (((l.take l.length).take k ++ (l.take l.length).drop (k + 1) ++ List.replicate (k + 1 - k) 0).map (Value.int .i64)) 0 _ _ hrow2;have h2:=setL_all (((l.take l.length).take k++(l.take l.length).drop (k+1)++List.replicate (k+1-k) 0).map (Value.int .i64)) [] (qI l) (by simp[qI];omega)
     simp only[List.nil_append,List.length_nil]at h2
     rw[h2]at h1
     have h3:=qa9 (m:=l.length-(k+1-k)) h1 (by omega)
     unfold qY;have e1:(l.take k++l.drop (k+1)).length=l.length-(k+1-k):=by simp;omega
     rw[e1]
     have e2:List.take (l.length-(k+1-k)) (List.map (Value.int .i64) ((l.take l.length).take k++(l.take l.length).drop (k+1)++List.replicate (k+1-k) 0))=qI (l.take k++l.drop (k+1)):=by
      rw[List.take_length,←List.map_take,List.take_append_of_le_length (by rw[e1];exact nR9 _),←e1,List.take_length]
      rfl
     rw[e2]at h3
     exact h3
   · exact (hdr.mono (nZ9 _)).trans (zv _ _ _).1
   · intro b hb;rw[yh _ _ _ (fun e=>hb (by rw[e];rfl))]
     rfl
theorem qae {B:Nat}{T:Nat→Prop}{N bb:Nat}{w w6:World}{g cap n:Nat}{L:List Nd}{ms:List Rw}{r:Rw}{x:Nd}{v':Value}{l:List Int}(h:Bx B T N bb w (.slice (some ⟨g,0,none⟩) L.length cap) L ms)(hr:ms[n]?=some r)(hx:L[n]?=some x)
 (hown:qY B w6 v' l) (hbl:Below 0 w w6) (hg:∀ b,b<w.heap.size→r.vk.ownBlock≠some b→w6.heap[b]?=w.heap[b]?) (hat:∀ b,v'.ownBlock=some b→r.vk.ownBlock=some b∨w.heap.size≤b) :
 Bx B T N bb (w6.setCell ⟨g,n*5+4,none⟩ v') (.slice (some ⟨g,0,none⟩) L.length cap) (L.set n { x with kids:=l }) (ms.set n { r with vk:=v' })∧qR N bb w (w6.setCell ⟨g,n*5+4,none⟩ v') (.slice (some ⟨g,0,none⟩) L.length cap) (.slice (some ⟨g,0,none⟩) L.length cap) ms (ms.set n { r with vk:=v' }):=by
 obtain ⟨hb0,hBb,hB⟩:=h;have hR:=hB.each n r x hr hx;have hgo:qS B 43 w g:=qx hB.row rfl;have hgr:r.vk.ownBlock≠some g:=fun e=>qE hR.kids hgo (by decide) e.symm
 have row6:w6.ownsRow B 43 5 (.slice (some ⟨g,0,none⟩) L.length cap) L.length (rawCells ms):=qF hB.row fun b hb=>by
  have e:g=b:=by injection hb
  subst e;exact hg g hgo.lt hgr
 have hnm:n<ms.length:=(List.getElem?_eq_some_iff.1 hr).1;have low6:∀ b,b<B→w6.heap[b]?=w.heap[b]?:=fun b hb=>hg b (Nat.lt_of_lt_of_le hb hB.le) (fun e=>by have:=(qY.lt hR.kids b e).1;omega)
 have hput:=hB.put (w1:=w6) (w2:=w6.setCell ⟨g,n*5+4,none⟩ v') (r':={ r with vk:=v' }) (x':={ x with kids:=l }) hr hx hbl.size (by simp)
  (fun b h1 h2 _=>hg b h1 h2) (by rw[yI ms n r v' hr];exact (row6.stored (n*5+4) v').1) (fun b hb=>qd (fun e=>hb (by rw[e];rfl)))
  ⟨hR.text,hR.s,hR.par,hown,fun hi=>qF (hR.own hi) (fun b hb=>by
   have hs:=qx (hR.own hi) hb;exact hg b hs.lt (fun e=>qE hR.kids hs (by decide) e.symm)),fun hi=>(hR.far hi).carry fun b hb=>⟨hb,low6 b (hB.low b hb)⟩⟩ hat (fun _ b hb=>Or.inl hb)
 have hbg:bb≠g:=fun e=>qV (B:=0) (w:=w) ⟨nZ9 _,_,_,hb0⟩ hgo (by decide) e
 have hbr:r.vk.ownBlock≠some bb:=fun e=>qV (qx hR.kids e) (B':=0) ⟨nZ9 _,_,_,hb0⟩ (by decide) rfl
 refine ⟨⟨?_,hBb,hput⟩,⟨?_,?_,?_⟩⟩
 · rw[qd hbg,hg bb (qA hb0) hbr];exact hb0
 · exact hbl.setCell (p:=⟨g,n*5+4,none⟩) (nZ9 _) _
 · intro b h1 h2 h3;rw[qd (fun e=>h3 (Or.inl (by rw[e];rfl))),hg b h1 (fun e=>h3 (Or.inr ⟨n,r,hr,Or.inl e⟩))]
 · intro b hb
   rcases hb with hb|⟨i,q,hq,hb⟩
   · exact Or.inl (Or.inl hb)
   · by_cases hi : i = n
     · subst hi;rw[List.getElem?_set_self hnm]at hq
       injection hq with hq
       subst hq
       rcases hb with hb|hb
       · rcases hat b hb with e | e
         · exact Or.inl (Or.inr ⟨i,r,hr,Or.inl e⟩)
         · exact Or.inr e
       · exact Or.inl (Or.inr ⟨i,r,hr,Or.inr hb⟩)
     · rw[List.getElem?_set_ne (fun e => hi e.symm)]at hq
       exact Or.inl (Or.inr ⟨i,q,hq,hb⟩)
set_option linter.unusedSimpArgs false in
set_option maxHeartbeats 1000000 in
theorem QE (B:Nat)(T:Nat→Prop)(N bb n p k:Nat)(v:Value)(ns:List Nd)(ms:List Rw)(x y:Nd)(o:Opn)(vc:Value)(w:World)(hX:Bx B T N bb w v ns ms)(ho:o.target=(n:Int))(hx:ns[n]?=some x)(hp:x.parent=(p:Int))(hy:ns[p]?=some y)(hk:Lib.idxOf y.kids (n:Int)=(k:Int))(hkl:k<y.kids.length) :
 Calls Tryz.prog 69 #[.pointer (some ⟨bb,0,none⟩),.agg #[.int .i64 o.kind,.int .i64 o.target,vc,.string o.name,.string o.s]] w fun e w'=>e=.returned (.tuple #[])∧Did B T N bb w w' v ms (ns.set p { y with kids:=y.kids.take k++y.kids.drop (k+1) }):=by
 obtain ⟨kd,tg,ct,nm,s⟩:=o;simp only at ho
 subst ho;have hb:=Below.alloc1 w (.cells #[.int .i64 kd,.int .i64 (n:Int),vc,.string nm,.string s] 30);have HX:Hid (Bx B T N bb (w.alloc (.cells #[.int .i64 kd,.int .i64 (n:Int),vc,.string nm,.string s] 30)) v ns ms):=hX.later hb;have HP:Hid _:=xK B T N bb n p v ns ms x y _ HX.out hx hp hy;rw[hk]at HP
 go_enter Tryz.func69,Tryz.ntmps69
 go_wp2_with fail;refine (Calls.mono HP.out ?_);rintro e w1 ⟨rfl,hb1⟩;have HX1:Hid _:=HX.out.later hb1;have hk0:(0:Int)≤(k:Int):=by omega
 obtain ⟨q,hq,hQ⟩:=HX1.out.2.2.get hy;obtain ⟨g,cap,rfl,hcl,hcm,hgB,hgl,_,_,_,_,m4,hfz⟩:=HX1.out.2.2.at hq
 have hpl:p<ns.length:=(List.getElem?_eq_some_iff.1 hy).1;have hpi:(p:Int)<(ns.length:Int):=by omega
 have b0:w1.cell? ⟨bb,0,none⟩=some (.slice (some ⟨g,0,none⟩) ns.length cap):=by rw[cH9 HX1.out.1];rfl
 unfold maxLen at hcm
 have HDR:Hid _:=Xm B q.vk y.kids k w1 hQ.kids hkl
 have hkm:y.kids.length≤9223372036854775807:=by
  obtain ⟨_,_,_,h1,h2⟩:=hQ.kids.shape;unfold maxLen at h2
  omega
 have hwr:wrap64 ((k:Int)+1)=(k:Int)+1:=by unfold wrap64;omega
 have HQ:Hid _:=hq;have HY:Hid _:=hy;clear hX hx hp hQ hq hy;go_wp2_with fail
 first|rw[hwr]|skip
 refine (Calls.mono HDR.out ?_);rintro e w2 ⟨v2,rfl,hI,hown,hbl,hkp⟩;obtain ⟨a2,c2,rfl,_,_⟩:=hI.shape;obtain ⟨h1,h2⟩:=qae HX1.out HQ.out HY.out hI hbl (fun b _ h=>hkp b h) (fun b h=>Or.inl (hown ▸ h))
 have HD:Hid (Did B T N bb w (w2.setCell ⟨g,p*5+4,none⟩ (.slice a2 (y.kids.take k++y.kids.drop (k+1)).length c2)) (.slice (some ⟨g,0,none⟩) ns.length cap) ms (ns.set p { y with kids:=y.kids.take k++y.kids.drop (k+1) })):=⟨_,_,h1,qR.before (hb.trans (hb1.mono hb.size)) h2⟩
 have hgq:q.vk.ownBlock≠some g:=fun e=>qV (qx (HX1.out.2.2.each p q y HQ.out HY.out).kids e) (qx HX1.out.2.2.row rfl) (by decide) rfl
 have hg2:w2.heap[g]?=w1.heap[g]?:=hkp g hgq;have z2:w2.cell? ⟨g,p*5+4,none⟩=some q.vk:=(World.cell?_of_block (a:=⟨g,p*5+4,none⟩) hg2).trans m4;have f2:w2.frozen? ⟨g,p*5+4,none⟩=false:=by have:=hfz (p*5+4);simpa[World.frozen?,hg2] using this
 clear h1 h2 hI hown hbl hkp hg2 hgq
 generalize (y.kids.take k++y.kids.drop (k+1)).length=m at HD ⊢
 go_wp2_with fail
 go_returns
 exact ⟨rfl,HD.out⟩
set_option linter.unusedSimpArgs false in
set_option maxHeartbeats 1000000 in
theorem YT (B:Nat)(T:Nat→Prop)(N bb n p:Nat)(v:Value)(ns:List Nd)(ms:List Rw)(x y:Nd)(o:Opn)(vc:Value)(w:World)(hX:Bx B T N bb w v ns ms)(ho:o.target=(n:Int))(hx:ns[n]?=some x)(hp:x.parent=(p:Int))(hy:ns[p]?=some y)(hk:Lib.idxOf y.kids (n:Int)=-1) :
 Calls Tryz.prog 69 #[.pointer (some ⟨bb,0,none⟩),.agg #[.int .i64 o.kind,.int .i64 o.target,vc,.string o.name,.string o.s]] w fun e w'=>e=.returned (.tuple #[])∧Did B T N bb w w' v ms ns:=by
 obtain ⟨kd,tg,ct,nm,s⟩:=o;simp only at ho
 subst ho;have hb:=Below.alloc1 w (.cells #[.int .i64 kd,.int .i64 (n:Int),vc,.string nm,.string s] 30);have HX:Hid (Bx B T N bb (w.alloc (.cells #[.int .i64 kd,.int .i64 (n:Int),vc,.string nm,.string s] 30)) v ns ms):=hX.later hb;have HP:Hid _:=xK B T N bb n p v ns ms x y _ HX.out hx hp hy;rw[hk]at HP
 go_enter Tryz.func69,Tryz.ntmps69
 go_wp2_with fail;refine (Calls.mono HP.out ?_);rintro e w1 ⟨rfl,hb1⟩;have HD:Hid (Did B T N bb w w1 v ms ns):=⟨_,_,HX.out.later hb1,qR.before (hb.trans (hb1.mono hb.size)) (qR.refl _ _ _ _ _)⟩;clear hX hx hp hy HX;go_wp2_with fail
 go_returns
 exact ⟨rfl,HD.out⟩
end
theorem setL_mid:∀ (vs A M C:List Value),M.length=vs.length→QP (A++(M++C)) A.length vs=A++(vs++C):=by
 intro vs
 induction vs with
 | nil=>intro A M C h;have:M=[]:=List.eq_nil_of_length_eq_zero h;subst this;rfl
 | cons v r ih =>
   intro A M C h;cases M with
   | nil=>simp at h
   | cons x M =>
     rw[QP,List.set_append_right _ _ (nR9 _),Nat.sub_self,List.cons_append,List.set_cons_zero];have:=ih (A++[v]) M C (by simpa using h)
     rw[List.append_assoc,List.length_append]at this
     simp only[List.cons_append,List.nil_append,List.append_assoc]at this ⊢
     exact this
theorem JP {B:Nat}{e:TypeId}{g n cap size:Nat}{w:World}{xs:List Value}(h:w.ownsRow B e size (.slice (some ⟨g,0,none⟩) n cap) n xs)(m:Nat)(hm:n+m≤cap):∃ sp,sp.length=m*size∧w.ownsRow B e size (.slice (some ⟨g,0,none⟩) (n+m) cap) (n+m) (xs++sp):=by
 obtain ⟨h1,h2⟩:=h
 rcases h2 with ⟨h',_⟩|⟨g',cap',cur,h',hb,hg,hnc,hcm,hcs,ht⟩
 · simp at h'
 · injection h' with h3 _ h4
   injection h3 with h3
   injection h3 with h3 _ _
   subst h3 h4;have hl:(n+m)*size≤cap*size:=Nat.mul_le_mul_right _ hm;have hadd:(n+m)*size=n*size+m*size:=Nat.add_mul _ _ _;have hcl:cur.toList.length=cap*size:=by rw[Array.length_toList];exact hcs
   refine ⟨(cur.toList.drop (n*size)).take (m*size),by rw[List.length_take,List.length_drop];omega,?_,Or.inr ⟨g,cap,cur,rfl,hb,hg,hm,hcm,hcs,?_⟩⟩
   · rw[List.length_append,h1,List.length_take,List.length_drop];omega
   · rw[hadd,List.take_add,ht]
theorem jr {B:Nat}{e:TypeId}{g n cap size:Nat}{w:World}{xs:List Value}(h:w.ownsRow B e size (.slice (some ⟨g,0,none⟩) n cap) n xs):∃ cur,w.heap[g]?=some (.cells cur e (0,0))∧cur.size=cap*size∧n≤cap∧cap≤maxLen∧B≤g:=by
 rcases h.2 with ⟨h',_⟩|⟨g',cap',cur,h',hb,hg,hnc,hcm,hcs,ht⟩
 · simp at h'
 · injection h' with h3 _ h4
   injection h3 with h3
   injection h3 with h3 _ _
   subst h3 h4;exact ⟨cur,hg,hcs,hnc,hcm,hb⟩
theorem yT {B:Nat}{e:TypeId}{n size:Nat}{v:Value}{w:World}{xs:List Value}(h:w.ownsRow B e size v n xs)(hn:0<n):∃ g cap,v=.slice (some ⟨g,0,none⟩) n cap∧n≤cap∧cap≤maxLen:=by
 rcases h.2 with ⟨_,h0⟩|⟨g,cap,cur,hv,_,_,hnc,hcm,_⟩
 · omega
 · exact ⟨g,cap,hv,hnc,hcm⟩
theorem jK {w:World}{g:Nat}{cur:Array Value}{e:TypeId}{fz:Nat × Nat}(h:w.heap[g]?=some (.cells cur e fz)){j:Nat}(hj:j<cur.size):(w.cell? ⟨g,j,none⟩).isSome=true:=by
 rw[cH9 h,Array.getElem?_eq_getElem hj];rfl
def YY (B:Nat)(e:TypeId)(size:Nat)(v:Value)(n:Nat)(xs:List Value)(i m:Nat)(ys:List Value)(w:World)(x:Ending)(w':World):Prop :=
 ∃ v',x=.returned v'∧w'.ownsRow B e size v' (n+m) (xs.take (i*size)++(ys++xs.drop (i*size)))∧(∀ b,v'.ownBlock=some b→v.ownBlock=some b∨w.heap.size≤b)∧Below 0 w w'∧(∀ b,b<w.heap.size→v.ownBlock≠some b→w'.heap[b]?=w.heap[b]?)
theorem Ya {B:Nat}{e:TypeId}{g n cap size i m q r:Nat}{w:World}{xs ys:List Value}(h:w.ownsRow B e size (.slice (some ⟨g,0,none⟩) n cap) n xs)(hroom:n+m≤cap)(hi:i≤n)(hy:ys.length=m*size) :
 YY B e size (.slice (some ⟨g,0,none⟩) n cap) n xs i m ys w (.returned (.slice (some ⟨g,0,none⟩) (n+m) cap)) ((((w.drewN q).setCells g ((i+m)*size) (xs.drop (i*size))).drewN r).setCells g (i*size) ys):=by
 have hx:xs.length=n*size:=h.1;have hd1:Below w.heap.size w (w.drewN q):=⟨rfl,rfl,rfl,nR9 _,fun _ _=>rfl⟩
 obtain ⟨sp,hsp,h2⟩:=JP (qH h hd1) m hroom;have him:(i+m)*size=i*size+m*size:=Nat.add_mul _ _ _;have hnm:(n+m)*size=n*size+m*size:=Nat.add_mul _ _ _;have hin:i*size≤n*size:=Nat.mul_le_mul_right _ hi;have h3:=zT (xs.drop (i*size)) ((i+m)*size) _ _ h2
 have e1:QP (xs++sp) ((i+m)*size) (xs.drop (i*size))=(xs++sp).take ((i+m)*size)++xs.drop (i*size):=by
  have hA:((xs++sp).take ((i+m)*size)).length=(i+m)*size:=by rw[List.length_take,List.length_append];omega
  have:=setL_mid (xs.drop (i*size)) ((xs++sp).take ((i+m)*size)) ((xs++sp).drop ((i+m)*size)) [] (by simp only[List.length_drop,List.length_append];omega)
  rw[List.append_nil,List.take_append_drop,hA,List.append_nil]at this
  exact this
 rw[e1]at h3
 have hd2:Below ((w.drewN q).setCells g ((i+m)*size) (xs.drop (i*size))).heap.size ((w.drewN q).setCells g ((i+m)*size) (xs.drop (i*size))) (((w.drewN q).setCells g ((i+m)*size) (xs.drop (i*size))).drewN r):=⟨rfl,rfl,rfl,nR9 _,fun _ _=>rfl⟩
 have h4:=zT ys (i*size) _ _ (qH h3 hd2)
 have e2:QP ((xs++sp).take ((i+m)*size)++xs.drop (i*size)) (i*size) ys=xs.take (i*size)++(ys++xs.drop (i*size)):=by
  have hA:(xs.take (i*size)).length=i*size:=by rw[List.length_take];omega
  have:=setL_mid ys (xs.take (i*size)) (((xs++sp).take ((i+m)*size)).drop (i*size)) (xs.drop (i*size)) (by simp only[List.length_drop,List.length_take,List.length_append];omega)
  rw[hA,←List.append_assoc,show xs.take (i*size)=((xs++sp).take ((i+m)*size)).take (i*size) from by
   rw[List.take_take,Nat.min_eq_left (by omega),List.take_append_of_le_length (by omega)],List.take_append_drop]at this
  rw[this,List.take_take,Nat.min_eq_left (by omega),List.take_append_of_le_length (by omega)]
 rw[e2]at h4
 refine ⟨_,rfl,h4,fun b hb=>Or.inl hb,?_,fun b _ hb=>?_⟩
 · exact (((hd1.mono (nZ9 _)).trans (zv _ _ _).1).trans (hd2.mono (nZ9 _))).trans (zv _ _ _).1
 · have hne : b ≠ g := fun e => hb (by rw[e];rfl)
   rw[yh _ _ _ hne]
   show (((w.drewN q).setCells g ((i+m)*size) (xs.drop (i*size)))).heap[b]?=_
   rw[yh _ _ _ hne];rfl
theorem qaW {B:Nat}{e:TypeId}{g n cap size m:Nat}{w:World}{xs ys:List Value}(h:w.ownsRow B e size (.slice (some ⟨g,0,none⟩) n cap) n xs)(hroom:n+m≤cap)(hy:ys.length=m*size) :
 YY B e size (.slice (some ⟨g,0,none⟩) n cap) n xs n m ys w (.returned (.slice (some ⟨g,0,none⟩) (n+m) cap)) (w.setCells g (n*size) ys):=by
 have hx:xs.length=n*size:=h.1;obtain ⟨sp,hsp,h2⟩:=JP h m hroom;have h3:=zT ys (n*size) _ _ h2
 have e1:QP (xs++sp) (n*size) ys=xs++ys:=by
  have:=setL_mid ys xs sp [] (by omega)
  rw[List.append_nil,List.append_nil,hx]at this
  exact this
 rw[e1]at h3
 refine ⟨_,rfl,?_,fun b hb=>Or.inl hb,(zv _ _ _).1,fun b _ hb=>yh _ _ _ (fun e=>hb (by rw[e];rfl))⟩
 have e2:xs.take (n*size)++(ys++xs.drop (n*size))=xs++ys:=by rw[←hx,List.take_length,List.drop_length,List.append_nil]
 rw[e2];exact h3
theorem Ku {B:Nat}{e:TypeId}{size k cap:Nat}{w:World}{cur:Array Value}(hB:B≤w.heap.size)(hk:k≤cap)(hm:cap≤maxLen)(hs:cur.size=cap*size):(w.alloc (.cells cur e)).ownsRow B e size (.slice (some ⟨w.heap.size,0,none⟩) k cap) k (cur.toList.take (k*size)):=by
 have:k*size≤cap*size:=Nat.mul_le_mul_right _ hk;refine ⟨by rw[List.length_take,Array.length_toList];omega,Or.inr ⟨w.heap.size,cap,cur,rfl,hB,heap_alloc_new w _,hk,hm,hs,rfl⟩⟩
theorem Jw {B:Nat}{e:TypeId}{n size i m q r G:Nat}{v:Value}{w:World}{xs ys:List Value}{ROW:Array Value}(hx:xs.length=n*size)(hB:B≤w.heap.size)(hi:i≤n)(hy:ys.length=m*size)(hG:n+m≤G)(hGm:G≤maxLen)(hR:ROW.size=G*size)(ht:ROW.toList.take (i*size)=xs.take (i*size)) :
 YY B e size v n xs i m ys w (.returned (.slice (some ⟨w.heap.size,0,none⟩) (n+m) G)) (((((w.alloc (.cells ROW e)).drewN q).setCells w.heap.size (i*size) ys).drewN r).setCells w.heap.size ((i+m)*size) (xs.drop (i*size))):=by
 have him:(i+m)*size=i*size+m*size:=Nat.add_mul _ _ _;have hnm:(n+m)*size=n*size+m*size:=Nat.add_mul _ _ _;have hin:i*size≤n*size:=Nat.mul_le_mul_right _ hi;have hGs:(n+m)*size≤G*size:=Nat.mul_le_mul_right _ hG;have h0:(w.alloc (.cells ROW e)).ownsRow B e size (.slice (some ⟨w.heap.size,0,none⟩) (n+m) G) (n+m) (ROW.toList.take ((n+m)*size)):=Ku hB hG hGm hR;have hd1:Below (w.alloc (.cells ROW e)).heap.size (w.alloc (.cells ROW e)) ((w.alloc (.cells ROW e)).drewN q):=⟨rfl,rfl,rfl,nR9 _,fun _ _=>rfl⟩
 have hRl:ROW.toList.length=G*size:=by rw[Array.length_toList];exact hR
 have hrl:(ROW.toList.take ((n+m)*size)).length=(n+m)*size:=by rw[List.length_take];omega
 generalize hM:ROW.toList.take ((n+m)*size)=M at h0 hrl
 have hMt:M.take (i*size)=xs.take (i*size):=by rw[←hM,List.take_take,Nat.min_eq_left (by omega),ht]
 have h1:=zT ys (i*size) _ _ (qH h0 hd1);have hxl:(xs.take (i*size)).length=i*size:=by rw[List.length_take];omega
 have e1:QP M (i*size) ys=xs.take (i*size)++(ys++M.drop ((i+m)*size)):=by
  have:=setL_mid ys (M.take (i*size)) ((M.drop (i*size)).take (m*size)) (M.drop ((i+m)*size)) (by rw[List.length_take,List.length_drop];omega)
  rw[hMt,hxl]at this
  have hs:(M.drop (i*size)).take (m*size)++M.drop ((i+m)*size)=M.drop (i*size):=by
   rw[him,←List.drop_drop,List.take_append_drop]
  rw[hs,←hMt,List.take_append_drop]at this
  rw[this,hMt]
 rw[e1]at h1
 have hd2:Below (((w.alloc (.cells ROW e)).drewN q).setCells w.heap.size (i*size) ys).heap.size (((w.alloc (.cells ROW e)).drewN q).setCells w.heap.size (i*size) ys) ((((w.alloc (.cells ROW e)).drewN q).setCells w.heap.size (i*size) ys).drewN r):=⟨rfl,rfl,rfl,nR9 _,fun _ _=>rfl⟩
 have h2:=zT (xs.drop (i*size)) ((i+m)*size) _ _ (qH h1 hd2)
 have e2:QP (xs.take (i*size)++(ys++M.drop ((i+m)*size))) ((i+m)*size) (xs.drop (i*size))=xs.take (i*size)++(ys++xs.drop (i*size)):=by
  have:=setL_mid (xs.drop (i*size)) (xs.take (i*size)++ys) (M.drop ((i+m)*size)) [] (by rw[List.length_drop,List.length_drop];omega)
  rw[List.append_nil,List.append_nil,List.length_append,hxl,hy,←him,List.append_assoc,List.append_assoc]at this
  exact this
 rw[e2]at h2
 refine ⟨_,rfl,h2,fun b hb=>?_,?_,fun b hb _=>?_⟩
 · have : w.heap.size = b := by injection hb
   exact Or.inr (by omega)
 · exact ((((Below.alloc1 w _).mono (nZ9 _)).trans (hd1.mono (nZ9 _))).trans ((zv _ _ _).1.trans (hd2.mono (nZ9 _)))).trans (zv _ _ _).1
 · have hne : b ≠ w.heap.size := by omega
   rw[yh _ _ _ hne]
   show ((((w.alloc (.cells ROW e)).drewN q).setCells w.heap.size (i*size) ys)).heap[b]?=_
   rw[yh _ _ _ hne]
   show (w.alloc (.cells ROW e)).heap[b]?=_
   exact Lib.alloc_old _ _ _ hb
theorem xN {P:Program}(w:World)(dT sT ty elem:TypeId)(b o dLen dCap:Nat)(a:Addr)(sLen sCap k:Nat)(cs:List Value)
 (hu:P.underlying dT=some (.slice elem)) (hs:(P.info? elem).map (·.size)=some k) (hn:cs.length=Nat.min sLen dLen*k)
 (hsrc:∀ j v,cs[j]?=some v→w.cell? (a.add j)=some v) (hc:∀ j,j<cs.length→(w.cell? ⟨b,o+j,none⟩).isSome=true) (hf:∀ j,j<cs.length→w.frozen? ⟨b,o+j,none⟩=false) (h1:∀ v∈cs,v.oneCell'=true) :
 (Builtin.copy_ #[dT,sT] ty #[.slice (some ⟨b,o,none⟩) dLen dCap,.slice (some a) sLen sCap]).run P w=.ok (goInt (Nat.min sLen dLen)) (w.setCells b o cs):=by
 have hl:=run_loadCells_list (P:=P) w a cs hsrc;have hst:=run_storeCells_cells (P:=P) b o cs 0 w (by simpa using hc) (by simpa using hf) h1
 cases hq:P.info? elem with
 | none=>simp[hq]at hs
 | some i =>
   have hi:i.size=k:=by simpa[hq] using hs
   simp[Builtin.copy_,run_underlying hu,Builtin.lenOf,Builtin.firstCells,sizeOf,typeInfo,hq,hi,←hn,hl,hst]
section
attribute [local go_sem] qD
set_option linter.unusedSimpArgs false in
set_option maxHeartbeats 1000000 in
theorem X8 (B:Nat)(T:Nat→Prop)(N bb n:Nat)(v:Value)(ns:List Nd)(ms:List Rw)(x:Nd)(o:Opn)(vc:Value)(w:World)(hX:Bx B T N bb w v ns ms)(ho:o.target=(n:Int))(hx:ns[n]?=some x)(ht:x.text=false)(hN:N≤ns.length)(hc:ns.length<1048576) :
 Calls Tryz.prog 70 #[.pointer (some ⟨bb,0,none⟩),.agg #[.int .i64 o.kind,.int .i64 o.target,vc,.string o.name,.string o.s]] w fun e w'=>e=.returned (.tuple #[])∧Did B T N bb w w' v ms ((ns++[(⟨true,o.s,[],(n:Int),[]⟩:Nd)]).set n { x with kids:=[(ns.length:Int)] }):=by
 obtain ⟨k,tg,ct,nm,s⟩:=o;simp only at ho
 subst ho;have hb:=Below.alloc1 w (.cells #[.int .i64 k,.int .i64 (n:Int),vc,.string nm,.string s] 30);have hbb0:=hX.1;have hX1:=hX.later hb;have HX1:Hid (Bx B T N bb (w.alloc (.cells #[.int .i64 k,.int .i64 (n:Int),vc,.string nm,.string s] 30)) v ns ms):=hX1;obtain ⟨r,hr,hR⟩:=hX1.2.2.get hx;obtain ⟨g,cap,rfl,hcl,hcm,hgB,hgl,k0,_,_,_,_,_⟩:=hX1.2.2.at hr
 have hnl:n<ns.length:=(List.getElem?_eq_some_iff.1 hx).1;have hni:(n:Int)<(ns.length:Int):=by omega
 have b0:(w.alloc (.cells #[.int .i64 k,.int .i64 (n:Int),vc,.string nm,.string s] 30)).cell? ⟨bb,0,none⟩=some (.slice (some ⟨g,0,none⟩) ns.length cap):=by rw[cH9 hX1.1];rfl
 rw[hR.text,ht]at k0
 have HL:Hid (∀ W,Below w.heap.size w W→Calls Tryz.prog 97 #[.pointer (some ⟨bb,0,none⟩),.agg #[.bool true,.string s,.slice none 0 0,.slice none 0 0],.int .i64 (n:Int)] W fun e w'=>e=.returned (.int .i64 (ns.length:Int))∧∃ v' ms',Bx B T N bb w' v' (ns++[(⟨true,s,[],(n:Int),[]⟩:Nd)]) ms'∧qR N bb W w' (.slice (some ⟨g,0,none⟩) ns.length cap) v' ms ms'):=by
  intro W hW;exact blay_any 0 B T N bb (.slice none 0 0) (.slice none 0 0) ⟨true,s,[],[]⟩ (n:Int) _ ns ms W ⟨none,0,rfl,nR9 _,nZ9 _,fun h=>absurd rfl h⟩ (qw.nil 0 ⟨none,0,rfl,nZ9 _⟩) (hX.later hW) hN (by simp[cnt];omega)
 clear hX hX1 hR;unfold maxLen at hcm
 have HXD:Hid (w.heap[bb]?=_∧True):=⟨hbb0,trivial⟩;have HS1:Hid ((w.alloc (.cells #[.int .i64 k,.int .i64 (n:Int),vc,.string nm,.string s] 30)).drew.cell? ⟨bb,0,none⟩=some (.slice (some ⟨g,0,none⟩) ns.length cap)∧(w.alloc (.cells #[.int .i64 k,.int .i64 (n:Int),vc,.string nm,.string s] 30)).drew.cell? ⟨w.heap.size,1,none⟩=some (.int .i64 (n:Int))∧(w.alloc (.cells #[.int .i64 k,.int .i64 (n:Int),vc,.string nm,.string s] 30)).drew.cell? ⟨g,n*5,none⟩=some (.bool false)):=⟨b0,by show (w.alloc (.cells #[.int .i64 k,.int .i64 (n:Int),vc,.string nm,.string s] 30)).cell? _=_;simp,k0⟩
 go_enter Tryz.func70,Tryz.ntmps70
 go_wp2_with fail;refine wp_region_held_drew (S:=fun W:World=>W.cell? ⟨bb,0,none⟩=some (.slice (some ⟨g,0,none⟩) ns.length cap)∧W.cell? ⟨w.heap.size,1,none⟩=some (.int .i64 (n:Int))∧W.cell? ⟨g,n*5,none⟩=some (.bool false)) (by kernel_rfl) HS1.out (fun hHeld=>?_)
 refine wqi [0,1,2,3,4,5,6,7,8] ?_
 repeat (refine wqt (v:=?_) rfl (by kernel_rfl) (fun _ _ _ h=>h) (by rfl) (by assumption) ?_ ?_;rotate_left;(· (intro w hSw;(try dsimp only at hSw);go_simp;try with_reducible rfl));try simp only[Act.put,List.getElem_toArray,List.getElem_cons_succ,List.getElem_cons_zero,List.setIfInBounds_toArray,List.set_cons_zero,List.set_cons_succ])
 refine wqn ?_;refine wpAnyH_done (by kernel_rfl) ?_ _
 go_wp2_with fail;refine (HL.out _ hb.drew).mono ?_;rintro e w1 ⟨rfl,v1,ms1,hX1,hS1⟩;have HXd:Hid (Bx B T N bb (w.alloc (.cells #[.int .i64 k,.int .i64 (n:Int),vc,.string nm,.string s] 30)).drew (.slice (some ⟨g,0,none⟩) ns.length cap) ns ms):=HX1.out.later (Below.refl _ _).drew;have hox:(w.alloc (.cells #[.int .i64 k,.int .i64 (n:Int),vc,.string nm,.string s] 30)).drew.heap[w.heap.size]?=some (.cells #[.int .i64 k,.int .i64 (n:Int),vc,.string nm,.string s] 30 (0,0)):=heap_alloc_new _ _;have hbo:w.heap.size≠bb:=by have:=qA HXD.out.1;omega
 have ho1:w1.heap[w.heap.size]?=some (.cells #[.int .i64 k,.int .i64 (n:Int),vc,.string nm,.string s] 30 (0,0)):=by
  rw[hS1.keep _ (qA hox) hbo (Tch.not HXd.out.2.2 hox (by decide) (by decide) (by decide))]
  exact hox
 have HX2:Hid _:=hX1;have HS2:Hid _:=hS1;have hx2:(ns++[(⟨true,s,[],(n:Int),[]⟩:Nd)])[n]?=some x:=by rw[List.getElem?_append_left hnl];exact hx
 obtain ⟨r1,hr1,hR1⟩:=hX1.2.2.get hx2;obtain ⟨g1,cap1,rfl,hcl1,hcm1,hgB1,hgl1,_,_,_,_,m4,hfz⟩:=hX1.2.2.at hr1
 clear hX1 hS1 HL HS1 hr hx k0 b0 hR1;obtain ⟨m,hm⟩:∃ m,(ns++[(⟨true,s,[],(n:Int),[]⟩:Nd)]).length=m:=⟨_,rfl⟩;have HM:Hid _:=hm;rw[hm]at HX2 HS2 hcl1
 have hmn:m=ns.length+1:=by rw[←hm];simp
 have hnm:(n:Int)<(m:Int):=by omega
 clear hm hmn;unfold maxLen at hcm1
 have hbx1:w1.heap[bb]?=some (.cells #[.slice (some ⟨g1,0,none⟩) m cap1] 82 (0,0)):=HX2.out.1;have hb1l:=qA hbx1;have ho1l:=qA ho1;have hbg:bb≠g1:=fun e=>qV (B:=0) (w:=w1) ⟨nZ9 _,_,_,hbx1⟩ (qx HX2.out.2.2.row rfl) (by decide) e
 have hog:w.heap.size≠g1:=fun e=>qV (B:=0) (w:=w1) ⟨nZ9 _,_,_,ho1⟩ (qx HX2.out.2.2.row rfl) (by decide) e
 have HWW:Hid (∀ W':World,W'.heap[bb]?=w1.heap[bb]?→W'.heap[w.heap.size]?=w1.heap[w.heap.size]?→W'.cell? ⟨bb,0,none⟩=some (.slice (some ⟨g1,0,none⟩) m cap1)∧W'.cell? ⟨w.heap.size,1,none⟩=some (.int .i64 (n:Int))):=by
  intro W' e1 e2;rw[hbx1]at e1
  rw[ho1]at e2
  exact ⟨by rw[cH9 e1];rfl,by rw[cH9 e2];rfl⟩
 have HT1:Hid _:=HWW.out w1.drew rfl rfl;have HT2:Hid _:=HWW.out (w1.drew.alloc (.cells #[.int .i64 (ns.length:Int)] 3)) (Lib.alloc_old _ _ _ hb1l) (Lib.alloc_old _ _ _ ho1l);have HT3:Hid _:=HWW.out ((w1.drew.alloc (.cells #[.int .i64 (ns.length:Int)] 3)).setCell ⟨g1,n*5+4,none⟩ (.slice (some ⟨w1.heap.size,0,none⟩) 1 1)) ((qd hbg).trans (Lib.alloc_old _ _ _ hb1l)) ((qd hog).trans (Lib.alloc_old _ _ _ ho1l));have hI:qY B (w1.drew.alloc (.cells #[.int .i64 (ns.length:Int)] 3)) (.slice (some ⟨w1.heap.size,0,none⟩) 1 1) [(ns.length:Int)]:=⟨rfl,Or.inr ⟨w1.heap.size,1,#[.int .i64 (ns.length:Int)],rfl,HX2.out.2.2.le,heap_alloc_new _ _,nR9 _,by decide,rfl,rfl⟩⟩
 have HD:Hid (Did B T N bb w ((w1.drew.alloc (.cells #[.int .i64 (ns.length:Int)] 3)).setCell ⟨g1,n*5+4,none⟩ (.slice (some ⟨w1.heap.size,0,none⟩) 1 1)) (.slice (some ⟨g,0,none⟩) ns.length cap) ms ((ns++[(⟨true,s,[],(n:Int),[]⟩:Nd)]).set n { x with kids:=[(ns.length:Int)] })):=by
  have hX:=HX2.out;have hS:=HS2.out;rw[←HM.out]at hX hS
  obtain ⟨h1,h2⟩:=qae hX hr1 hx2 hI ((Below.refl 0 w1).drew.alloc (nZ9 _) _) (fun b h _=>Lib.alloc_old _ _ _ h) (fun b h=>Or.inr (Nat.le_of_eq (Option.some.inj (show some w1.heap.size=some b from h))))
  exact ⟨_,_,h1,(qR.before hb.drew hS).trans h2⟩
 have m4a:(w1.drew.alloc (.cells #[.int .i64 (ns.length:Int)] 3)).cell? ⟨g1,n*5+4,none⟩=some r1.vk:=Lib.cell?_alloc_some (W:=w1.drew) _ m4;have m4b:(w1.alloc (.cells #[.int .i64 (ns.length:Int)] 3)).cell? ⟨g1,n*5+4,none⟩=some r1.vk:=Lib.cell?_alloc_some _ m4;have hg4:(w1.alloc (.cells #[.int .i64 (ns.length:Int)] 3)).heap[g1]?=w1.heap[g1]?:=Lib.alloc_old _ _ _ hgl1;have f4:(w1.alloc (.cells #[.int .i64 (ns.length:Int)] 3)).frozen? ⟨g1,n*5+4,none⟩=false:=by have:=hfz (n*5+4);simpa[World.frozen?,hg4] using this
 have f4a:(w1.drew.alloc (.cells #[.int .i64 (ns.length:Int)] 3)).frozen? ⟨g1,n*5+4,none⟩=false:=f4;clear hI hbx1 ho1 hg4;go_wp2_with fail;refine wp_region_held_drew (S:=fun W:World=>W.cell? ⟨bb,0,none⟩=some (.slice (some ⟨g1,0,none⟩) m cap1)∧W.cell? ⟨w.heap.size,1,none⟩=some (.int .i64 (n:Int))) (by kernel_rfl) HT1.out (fun hHeld=>?_)
 refine wqi [0,1,2,3,4,5,6] ?_
 repeat (refine wqt (v:=?_) rfl (by kernel_rfl) (fun _ _ _ h=>h) (by rfl) (by assumption) ?_ ?_;rotate_left;(· (intro w hSw;(try dsimp only at hSw);go_simp;try with_reducible rfl));try simp only[Act.put,List.getElem_toArray,List.getElem_cons_succ,List.getElem_cons_zero,List.setIfInBounds_toArray,List.set_cons_zero,List.set_cons_succ])
 refine wqn ?_;refine wpAnyH_ready (rs:=[7]) (by kernel_rfl) (by simp) ?_
 refine AllReadyH.cons rfl (fun K hK=>?_) AllReadyH.nil
 go_simp;refine hK.out _ (w1.drew.alloc (.cells #[.int .i64 (ns.length:Int)] 3)) HT2.out (fun hHeld=>?_)
 clear hK K;clear m4b f4 HT2 HT1
 generalize w1.drew.alloc (.cells #[.int .i64 (ns.length:Int)] 3)=w5 at HT3 HD m4a f4a hHeld ⊢
 try simp only[Act.put,List.setIfInBounds_toArray,List.set_cons_zero,List.set_cons_succ]
 refine wqi [8,9] ?_
 repeat (refine wqt (v:=?_) rfl (by kernel_rfl) (fun _ _ _ h=>h) (by rfl) (by assumption) ?_ ?_;rotate_left;(· (intro w hSw;(try dsimp only at hSw);go_simp;try with_reducible rfl));try simp only[Act.put,List.getElem_toArray,List.getElem_cons_succ,List.getElem_cons_zero,List.setIfInBounds_toArray,List.set_cons_zero,List.set_cons_succ])
 refine wqn ?_;refine wpAnyH_ready (rs:=[10]) (by kernel_rfl) (by simp) ?_
 refine AllReadyH.cons rfl (fun K hK=>?_) AllReadyH.nil
 go_simp;refine hK.out _ _ HT3.out (fun hHeld=>?_)
 clear hK K
 try simp only[Act.put,List.setIfInBounds_toArray,List.set_cons_zero,List.set_cons_succ]
 refine wpAnyH_done (by kernel_rfl) ?_ _
 go_wp2_with fail
 go_returns
 exact ⟨rfl,HD.out⟩
set_option linter.unusedSimpArgs false in
set_option maxHeartbeats 1000000 in
theorem X9 (B:Nat)(T:Nat→Prop)(N bb n:Nat)(v:Value)(ns:List Nd)(ms:List Rw)(x:Nd)(o:Opn)(vc:Value)(w:World)(hX:Bx B T N bb w v ns ms)(ho:o.target=(n:Int))(hx:ns[n]?=some x)(ht:x.text=true) :
 Calls Tryz.prog 70 #[.pointer (some ⟨bb,0,none⟩),.agg #[.int .i64 o.kind,.int .i64 o.target,vc,.string o.name,.string o.s]] w fun e w'=>e=.returned (.tuple #[])∧Did B T N bb w w' v ms (ns.set n { x with s:=o.s }):=by
 obtain ⟨k,tg,ct,nm,s⟩:=o;simp only at ho
 subst ho;have hb:=Below.alloc1 w (.cells #[.int .i64 k,.int .i64 (n:Int),vc,.string nm,.string s] 30);have hX1:Bx B T N bb (w.alloc (.cells #[.int .i64 k,.int .i64 (n:Int),vc,.string nm,.string s] 30)).drew v ns ms:=hX.later hb.drew;have hb2:Below w.heap.size w (w.alloc (.cells #[.int .i64 k,.int .i64 (n:Int),vc,.string nm,.string s] 30)).drew.drew:=hb.drew.drew;have hX2:Bx B T N bb (w.alloc (.cells #[.int .i64 k,.int .i64 (n:Int),vc,.string nm,.string s] 30)).drew.drew v ns ms:=hX.later hb2;have hox:(w.alloc (.cells #[.int .i64 k,.int .i64 (n:Int),vc,.string nm,.string s] 30)).drew.heap[w.heap.size]?=some (.cells #[.int .i64 k,.int .i64 (n:Int),vc,.string nm,.string s] 30 (0,0)):=heap_alloc_new _ _;obtain ⟨r,hr,hR⟩:=hX1.2.2.get hx;obtain ⟨g,cap,rfl,hcl,hcm,hgB,hgl,k0,k1,_,_,_,hfz⟩:=hX1.2.2.at hr
 have hnl:n<ns.length:=(List.getElem?_eq_some_iff.1 hx).1;obtain ⟨h1,h2⟩:=qbr s hX2 hr hx;have HD:Hid (Did B T N bb w ((w.alloc (.cells #[.int .i64 k,.int .i64 (n:Int),vc,.string nm,.string s] 30)).drew.drew.setCell ⟨g,n*5+1,none⟩ (.string s)) (.slice (some ⟨g,0,none⟩) ns.length cap) ms (ns.set n { x with s:=s })):=⟨_,_,h1,qR.before hb2 h2⟩
 have hbx:=hX1.1;have hbg:bb≠g:=fun e=>qV (B:=0) (w:=(w.alloc (.cells #[.int .i64 k,.int .i64 (n:Int),vc,.string nm,.string s] 30)).drew) ⟨nZ9 _,_,_,hbx⟩ (qx hX1.2.2.row rfl) (by decide) e
 have hog:w.heap.size≠g:=fun e=>qV (B:=0) (w:=(w.alloc (.cells #[.int .i64 k,.int .i64 (n:Int),vc,.string nm,.string s] 30)).drew) ⟨nZ9 _,_,_,hox⟩ (qx hX1.2.2.row rfl) (by decide) e
 have HWW:Hid (∀ W':World,W'.heap[bb]?=(w.alloc (.cells #[.int .i64 k,.int .i64 (n:Int),vc,.string nm,.string s] 30)).drew.heap[bb]?→W'.heap[w.heap.size]?=(w.alloc (.cells #[.int .i64 k,.int .i64 (n:Int),vc,.string nm,.string s] 30)).drew.heap[w.heap.size]?→W'.cell? ⟨bb,0,none⟩=some (.slice (some ⟨g,0,none⟩) ns.length cap)∧W'.cell? ⟨w.heap.size,1,none⟩=some (.int .i64 (n:Int))∧W'.cell? ⟨w.heap.size,4,none⟩=some (.string s)):=by
  intro W' e1 e2;rw[hbx]at e1
  rw[hox]at e2
  exact ⟨by rw[cH9 e1];rfl,by rw[cH9 e2];rfl,by rw[cH9 e2];rfl⟩
 rw[hR.text,ht]at k0
 have HS1:Hid ((w.alloc (.cells #[.int .i64 k,.int .i64 (n:Int),vc,.string nm,.string s] 30)).drew.cell? ⟨bb,0,none⟩=some (.slice (some ⟨g,0,none⟩) ns.length cap)∧(w.alloc (.cells #[.int .i64 k,.int .i64 (n:Int),vc,.string nm,.string s] 30)).drew.cell? ⟨w.heap.size,1,none⟩=some (.int .i64 (n:Int))∧(w.alloc (.cells #[.int .i64 k,.int .i64 (n:Int),vc,.string nm,.string s] 30)).drew.cell? ⟨g,n*5,none⟩=some (.bool true)):=⟨(HWW.out _ rfl rfl).1,(HWW.out _ rfl rfl).2.1,k0⟩;have HS2:Hid _:=HWW.out (w.alloc (.cells #[.int .i64 k,.int .i64 (n:Int),vc,.string nm,.string s] 30)).drew.drew rfl rfl;have HS6:Hid _:=HWW.out ((w.alloc (.cells #[.int .i64 k,.int .i64 (n:Int),vc,.string nm,.string s] 30)).drew.drew.setCell ⟨g,n*5+1,none⟩ (.string s)) (qd hbg) (qd hog);have hni:(n:Int)<(ns.length:Int):=by omega
 have f1:=hfz (n*5+1);clear h1 h2 hX hX1 hX2 hR hr hx hfz hox hbx;unfold maxLen at hcm
 go_enter Tryz.func70,Tryz.ntmps70
 go_wp2_with fail;refine wp_region_held_drew (S:=fun W:World=>W.cell? ⟨bb,0,none⟩=some (.slice (some ⟨g,0,none⟩) ns.length cap)∧W.cell? ⟨w.heap.size,1,none⟩=some (.int .i64 (n:Int))∧W.cell? ⟨g,n*5,none⟩=some (.bool true)) (by kernel_rfl) HS1.out (fun hHeld=>?_)
 refine wqi [0,1,2,3,4,5,6,7,8] ?_
 repeat (refine wqt (v:=?_) rfl (by kernel_rfl) (fun _ _ _ h=>h) (by rfl) (by assumption) ?_ ?_;rotate_left;(· (intro w hSw;(try dsimp only at hSw);go_simp;try with_reducible rfl));try simp only[Act.put,List.getElem_toArray,List.getElem_cons_succ,List.getElem_cons_zero,List.setIfInBounds_toArray,List.set_cons_zero,List.set_cons_succ])
 refine wqn ?_;refine wpAnyH_done (by kernel_rfl) ?_ _
 go_wp2_with fail;refine wp_region_held_drew (S:=fun W:World=>W.cell? ⟨bb,0,none⟩=some (.slice (some ⟨g,0,none⟩) ns.length cap)∧W.cell? ⟨w.heap.size,1,none⟩=some (.int .i64 (n:Int))∧W.cell? ⟨w.heap.size,4,none⟩=some (.string s)) (by kernel_rfl) HS2.out (fun hHeld=>?_)
 refine wqi [0,1,2,3,4,5,6,7,8,9] ?_
 repeat (refine wqt (v:=?_) rfl (by kernel_rfl) (fun _ _ _ h=>h) (by rfl) (by assumption) ?_ ?_;rotate_left;(· (intro w hSw;(try dsimp only at hSw);go_simp;try with_reducible rfl));try simp only[Act.put,List.getElem_toArray,List.getElem_cons_succ,List.getElem_cons_zero,List.setIfInBounds_toArray,List.set_cons_zero,List.set_cons_succ])
 refine wqn ?_;refine wpAnyH_ready (rs:=[10]) (by kernel_rfl) (by simp) ?_
 refine AllReadyH.cons rfl (fun K hK=>?_) AllReadyH.nil
 go_simp;refine hK.out _ ((w.alloc (.cells #[.int .i64 k,.int .i64 (n:Int),vc,.string nm,.string s] 30)).drew.drew.setCell ⟨g,n*5+1,none⟩ (.string s)) HS6.out (fun hHeld=>?_)
 clear hK K
 try simp only[Act.put,List.setIfInBounds_toArray,List.set_cons_zero,List.set_cons_succ]
 refine wpAnyH_done (by kernel_rfl) ?_ _
 generalize (w.alloc (.cells #[.int .i64 k,.int .i64 (n:Int),vc,.string nm,.string s] 30)).drew.drew.setCell ⟨g,n*5+1,none⟩ (.string s)=w5 at HD ⊢
 go_wp2_with fail
 go_returns
 exact ⟨rfl,HD.out⟩
end
end Go.Proofs.YtnppmdpmippcoaaGreatDoor
