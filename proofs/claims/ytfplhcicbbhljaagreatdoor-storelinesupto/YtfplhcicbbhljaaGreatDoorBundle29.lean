/- Bundled: BegunF ForestF BegunD ForestD. What each says stands ahead of it. -/
import Derived.Test.YtfplhcicbbhljaaGreatDoorBundle27
import Derived.Test.YtfplhcicbbhljaaGreatDoorBundle28
import Derived.Test.YtfplhcicbbhljaaGreatDoorBundle23
namespace Go.Proofs.YtfplhcicbbhljaaGreatDoor
open Go.ChangeShapes Go.WideShapes Go.ChangeAt Go.RowKit
set_option maxRecDepth 100000
theorem qeh (t:TypeId)(a b:ByteArray):binOp .gtr t (.string a) (.string b)=pure (.bool (Op.bytesLess b.toList a.toList)):=by
 simp only[binOp,Op.stringOp,less_not,Bool.not_not]
def qev (w:World)(u:List UInt8)(e:Ending)(w':World):Prop:=Below w.heap.size w w'∧∃ nm ra rn rc b ok,e=.returned (.tuple #[.agg #[.bool false,.string nm,.slice ra rn rc,.slice none 0 0],.bool b,.bool ok])∧match yq u with
 | none=>ok=false
 | some (n,L,x)=>ok=true∧b=x∧nm=qa n∧qm (fun b=>w.heap.size≤b) w' (.slice ra rn rc) (asB (qW L))
theorem qci (u1:List UInt8):(qa u1).extract 0 (u1.length-(u1.dropWhile qg).length)=qa (u1.takeWhile qg)∧(qa u1).extract (u1.length-(u1.dropWhile qg).length) u1.length=qa (u1.dropWhile qg):=by
 have e:=List.takeWhile_append_dropWhile (p:=qg) (l:=u1);have el:=congrArg List.length e;rw[List.length_append]at el
 have hn:u1.length-(u1.dropWhile qg).length=(u1.takeWhile qg).length:=by omega
 rw[hn]
 constructor
 · rw[qU, List.drop_zero, Nat.sub_zero]
   generalize u1.takeWhile qg=a at *
   rw[←e,List.take_left' rfl]
 · rw[qU, List.take_of_length_le (by rw[List.length_drop];omega)]
   generalize u1.takeWhile qg=a at *
   generalize u1.dropWhile qg=b at *
   rw[←e,List.drop_left' rfl]
theorem xm {w:World}{b:Nat}{o:Obj}(hx:w.heap[b]?=some o):b<w.heap.size:=by
 rcases Nat.lt_or_ge b w.heap.size with h|h
 · exact h
 · rw[Array.getElem?_eq_none h]at hx;cases hx
theorem j4 {W:World}{b:Nat}{T:TypeId}{c0 c1 c2 c3:Value}(h:W.heap[b]?=some (.cells #[c0,c1,c2,c3] T (0,0))) :
 W.cell? ⟨b,0,none⟩=some c0∧W.cell? ⟨b,1,none⟩=some c1∧W.cell? ⟨b,2,none⟩=some c2∧W.cell? ⟨b,3,none⟩=some c3:=by
 refine ⟨?_,?_,?_,?_⟩<;>rw[cH9 h]<;>rfl
theorem qfL {B:Nat}{w:World}{v:Value}{l:List (ByteArray × ByteArray)}(h:w.ownsRow B 93 2 v l.length (attrCells l)):qm (fun b=>B≤b) w v l:=by
 rcases h.2 with ⟨rfl,h0⟩|⟨g,cap,cur,rfl,hB,hh,hc,hm,_⟩
 · have : l = [] := List.eq_nil_of_length_eq_zero h0;subst this;exact ⟨none,0,rfl,nR9 _,nZ9 _,fun h=>absurd rfl h⟩
 · refine ⟨_, cap, rfl, hc, hm, fun _ => ⟨g, 0, rfl, hB, fun i x hx => ?_⟩⟩
   have hi:=yx hx;obtain ⟨e0,e1⟩:=zV l i x hx;exact ⟨by rw[Nat.zero_add,World.ownsRow.cellAt h (i*2) (by omega),e0],by rw[Nat.zero_add,World.ownsRow.cellAt h (i*2+1) (by omega),e1]⟩
structure BI (w:World) (tb:Nat) (nm m0 m':List UInt8) (L:List (List UInt8 × List UInt8)) (va:Value) (W:World):Prop where
 below:Below w.heap.size w W
 big:w.heap.size<tb
 res:W.heap[w.heap.size]?=some (.cells #[.bool false,.string ⟨#[]⟩,.slice none 0 0,.slice none 0 0] 79 (0,0))
 box:W.heap[tb]?=some (.cells #[.bool false,.string (qa nm),va,.slice none 0 0] 79 (0,0))
 row:W.ownsRow w.heap.size 93 2 va (qW L).length (attrCells (asB (qW L)))
 att:zW m0=(zW m').map (L++·)
 few:L.length+m'.length≤m0.length
theorem BI.later {w:World}{tb:Nat}{nm m0 m':List UInt8}{L:List (List UInt8 × List UInt8)}{va:Value}{W W':World}(h:BI w tb nm m0 m' L va W)(hb:Below W.heap.size W W'):BI w tb nm m0 m' L va W' :=
 ⟨h.below.trans (hb.mono h.below.size),h.big,(hb.block _ (xm h.res)).trans h.res,(hb.block _ (xm h.box)).trans h.box,qq h.row hb,h.att,h.few⟩
theorem KU (u sep:List UInt8):(Lib.cut u sep).1.length≤u.length∧(Lib.cut u sep).2.1.length≤u.length:=by
 unfold Lib.cut
 split
 · simp only[List.length_take,List.length_drop];omega
 · simp
theorem qbO {m:List UInt8}(h:m.all qo=false):∃ (rest na af:List UInt8)(f2:Bool)(vl nx:List UInt8)(f3:Bool)(vm:List UInt8)(f4:Bool),
 m.dropWhile qo=rest∧Lib.cut rest [61,34]=(na,af,f2)∧Lib.cut af [34]=(vl,nx,f3)∧zh true vl=(vm,f4)∧rest.length≤m.length∧af.length≤m.length∧vl.length≤m.length∧na.length≤m.length ∧
 zW m=(if decide (rest.length=m.length)||!f2||!f3||!f4||!qI na then none else (zW nx).map ((na,vm)::·))∧((decide (rest.length=m.length)||!f2||!f3||!f4||!qI na)=false→nx.length<m.length):=by
 have l0:(m.dropWhile qo).length≤m.length:=q6 _ _;have l1:=KU (m.dropWhile qo) [61,34];have l2:=KU (zP m) [34];have l3:(zP m).length≤m.length:=Nat.le_trans l1.2 l0;exact ⟨_,nameOf m,zP m,qdt m,xB m,Zd m,ZQ m,_,_,rfl,rfl,rfl,rfl,l0,l3,Nat.le_trans l2.1 l3,Nat.le_trans l1.1 l0,Kv h,fun hb=>qcj hb⟩
theorem Jj {W:World}{b:Nat}{T:TypeId}{c0 c1 c2 c3:Value}(h:W.heap[b]?=some (.cells #[c0,c1,c2,c3] T (0,0)))(x0 x1 x2 x3:Value) :
 ((((W.setCell ⟨b,0,none⟩ x0).setCell ⟨b,1,none⟩ x1).setCell ⟨b,2,none⟩ x2).setCell ⟨b,3,none⟩ x3).heap[b]?=some (.cells #[x0,x1,x2,x3] T (0,0))∧(∀ k,k≠b→((((W.setCell ⟨b,0,none⟩ x0).setCell ⟨b,1,none⟩ x1).setCell ⟨b,2,none⟩ x2).setCell ⟨b,3,none⟩ x3).heap[k]?=W.heap[k]?) ∧
 ∀ {N:Nat} {w:World},N≤b→Below N w W→Below N w ((((W.setCell ⟨b,0,none⟩ x0).setCell ⟨b,1,none⟩ x1).setCell ⟨b,2,none⟩ x2).setCell ⟨b,3,none⟩ x3):=by
 refine ⟨?_,fun k hk=>?_,fun hN hw=>?_⟩
 · exact heap_setCell_same _ b 3 _ T x3 (heap_setCell_same _ b 2 _ T x2 (heap_setCell_same _ b 1 _ T x1 (heap_setCell_same W b 0 _ T x0 h)))
 · rw[heap_setCell_other _ _ k _ hk,heap_setCell_other _ _ k _ hk,heap_setCell_other _ _ k _ hk,heap_setCell_other _ _ k _ hk]
 · exact (((hw.setCell (p:=⟨b,0,none⟩) hN _).setCell (p:=⟨b,1,none⟩) hN _).setCell (p:=⟨b,2,none⟩) hN _).setCell (p:=⟨b,3,none⟩) hN _
theorem BI.attrs {w:World}{tb:Nat}{nm m0 m':List UInt8}{L:List (List UInt8 × List UInt8)}{va:Value}{W W':World}(h:BI w tb nm m0 m' L va W)(hk:∀ k,k≠w.heap.size→W'.heap[k]?=W.heap[k]?):qm (fun b=>w.heap.size≤b) W' va (asB (qW L)):=by
 have hl:(asB (qW L)).length=(qW L).length:=by unfold asB;simp
 have hr:W'.ownsRow w.heap.size 93 2 va (asB (qW L)).length (attrCells (asB (qW L))):=by
  rw[hl];exact qn h.row fun g hg=>hk g fun e=>qv h.row (b:=w.heap.size) (B':=0) ⟨nZ9 _,_,_,h.res⟩ (by decide) (by rw[hg,e])
 exact qfL hr
theorem qdL (w:World)(a b:Value)(e:TypeId):∀ (j:Nat)(u:Value),([a,b]:List Value)[j]?=some u→(w.alloc (.cells #[a,b] e)).cell? ((⟨w.heap.size,0,none⟩:Addr).add j)=some u:=by
 intro j u h;rw[Addr.add_lit,cH9 (heap_alloc_new w _)]
 match j with
 | 0=>simpa using h
 | 1=>simpa using h
 | j+2=>simp at h
theorem Yy {w:World}{B:Nat}{e:TypeId}{size n:Nat}{v:Value}{xs:List Value}(h:w.ownsRow B e size v (n+1) xs):∃ g c,v=.slice (some ⟨g,0,none⟩) (n+1) c∧B≤g∧n+1≤c∧c≤maxLen:=by
 rcases h.2 with ⟨_,h0⟩|⟨g,cap,cur,rfl,hb,_,hc,hm,_⟩
 · omega
 · exact ⟨g,cap,rfl,hb,hc,hm⟩
structure BJ (w:World) (tb:Nat) (nm:List UInt8) (A:List (List UInt8 × List UInt8)) (x:List UInt8 × List UInt8) (k:Nat) (va:Value) (W:World):Prop where
 below:Below w.heap.size w W
 big:w.heap.size<tb
 res:W.heap[w.heap.size]?=some (.cells #[.bool false,.string ⟨#[]⟩,.slice none 0 0,.slice none 0 0] 79 (0,0))
 box:W.heap[tb]?=some (.cells #[.bool false,.string (qa nm),va,.slice none 0 0] 79 (0,0))
 row:W.ownsRow w.heap.size 93 2 va (A.length+1) (attrCells (asB (A.take k++x::A.drop k)))
 pos:xU x.1 A A.length=xU x.1 A k
 le:k≤A.length
theorem BI.start {w:World}{tb:Nat}{nm m0 m':List UInt8}{L:List (List UInt8 × List UInt8)}{va:Value}{W w':World}{x:List UInt8 × List UInt8}{v':Value}(h:BI w tb nm m0 m' L va W)
 (hown:w'.ownsRow w.heap.size 93 2 v' ((qW L).length+1) (attrCells (asB (qW L))++[.string (qa x.1),.string (qa x.2)])) (hg:(W.alloc (.cells #[.string (qa x.1),.string (qa x.2)] 93)).grownBy w' va.ownBlock) (hat:v'.ownBlock=va.ownBlock∨v'.ownBlock=some (W.heap.size+1)) :
 w'.heap[tb]?=some (.cells #[.bool false,.string (qa nm),va,.slice none 0 0] 79 (0,0))∧BJ w tb nm (qW L) x (qW L).length v' (w'.setCell ⟨tb,2,none⟩ v'):=by
 have hne1:some tb≠va.ownBlock:=qv h.row (b:=tb) (B':=0) ⟨nZ9 _,_,_,h.box⟩ (by decide)
 have hne2:some w.heap.size≠va.ownBlock:=qv h.row (b:=w.heap.size) (B':=0) ⟨nZ9 _,_,_,h.res⟩ (by decide)
 have l1:=xm h.box;have l2:=xm h.res;have b1:w'.heap[tb]?=some (.cells #[.bool false,.string (qa nm),va,.slice none 0 0] 79 (0,0)):=(hg.block tb (by simp;omega) hne1).trans ((heap_alloc_old _ _ l1).trans h.box)
 have b2:w'.heap[w.heap.size]?=some (.cells #[.bool false,.string ⟨#[]⟩,.slice none 0 0,.slice none 0 0] 79 (0,0)):=(hg.block _ (by simp;omega) hne2).trans ((heap_alloc_old _ _ l2).trans h.res)
 have hbig:=h.big;have hBw:Below w.heap.size w w':=(h.below.alloc h.below.size _).grown hg (by simp;omega) (fun z hz=>(h.row.lt z hz).1)
 have hne3:some tb≠v'.ownBlock:=by
  rcases hat with e|e
  · rw[e];exact hne1
  · rw[e];intro e';injection e' with e';omega
 refine ⟨b1,hBw.setCell (p:=⟨tb,2,none⟩) (by show w.heap.size≤tb;omega) _,hbig,?_,heap_setCell_same w' tb 2 _ _ v' b1,?_,rfl,nR9 _⟩
 · rw[heap_setCell_other w' _ _ _ (by show w.heap.size≠tb;omega)];exact b2
 · rw[List.take_length, List.drop_length]
   have e:attrCells (asB (qW L++[x]))=attrCells (asB (qW L))++[.string (qa x.1),.string (qa x.2)]:=by
    unfold asB;rw[List.map_append,jq];rfl
   rw[e];exact qn hown fun g hg'=>heap_setCell_other w' _ _ _ (fun e=>hne3 (by rw[hg',e]))
theorem BJ.cells {w:World}{tb:Nat}{nm:List UInt8}{A:List (List UInt8 × List UInt8)}{x:List UInt8 × List UInt8}{k ag acap:Nat}{W:World}(h:BJ w tb nm A x k (.slice (some ⟨ag,0,none⟩) (A.length+1) acap) W){i:Nat}{y:List UInt8 × List UInt8}(hy:(A.take k++x::A.drop k)[i]?=some y) :
 W.cell? ⟨ag,i*2,none⟩=some (.string (qa y.1))∧W.cell? ⟨ag,i*2+1,none⟩=some (.string (qa y.2)):=by
 have hi:=yx hy
 have hl:(A.take k++x::A.drop k).length=A.length+1:=by
  have:=h.le;simp only[List.length_append,List.length_take,List.length_cons,List.length_drop];omega
 have hm:(asB (A.take k++x::A.drop k))[i]?=some (qa y.1,qa y.2):=by unfold asB;rw[List.getElem?_map,hy];rfl
 obtain ⟨e0,e1⟩:=zV _ i _ hm;exact ⟨by rw[World.ownsRow.cellAt h.row (i*2) (by omega),e0],by rw[World.ownsRow.cellAt h.row (i*2+1) (by omega),e1]⟩
theorem BJ.done {w:World}{tb:Nat}{nm m0 nx:List UInt8}{L:List (List UInt8 × List UInt8)}{x:List UInt8 × List UInt8}{k:Nat}{va:Value}{W:World}(h:BJ w tb nm (qW L) x k va W)(hk:xU x.1 (qW L) k=k)
 (ha:zW m0=(zW nx).map ((L++[x])++·)) (hf:L.length+1+nx.length≤m0.length):BI w tb nm m0 nx (L++[x]) va W:=by
 have e:qW (L++[x])=(qW L).take k++x::(qW L).drop k:=by
  have:qW (L++[x])=JL (qW L) x:=by unfold qW;rw[List.foldl_append];rfl
  rw[this];unfold JL;rw[h.pos,hk]
 have hl:(qW (L++[x])).length=(qW L).length+1:=by
  rw[(jZ _).length_eq,(jZ _).length_eq];simp
 refine ⟨h.below,h.big,h.res,h.box,?_,ha,by simpa using hf⟩
 rw[hl,e];exact h.row
theorem qba (P R:List (List UInt8 × List UInt8))(x y:List UInt8 × List UInt8)(k:Nat)(hk:P.length=k) :
 ((((attrCells (asB (P++y::x::R))).set ((k+1)*2) (.string (qa y.1))).set ((k+1)*2+1) (.string (qa y.2))).set (k*2) (.string (qa x.1))).set (k*2+1) (.string (qa x.2))=attrCells (asB (P++x::y::R)):=by
 have e:∀ a b:List UInt8 × List UInt8,attrCells (asB (P++a::b::R))=attrCells (asB P)++(.string (qa a.1)::.string (qa a.2)::.string (qa b.1)::.string (qa b.2)::attrCells (asB R)):=fun a b=>by
  unfold asB;rw[List.map_append,jq];rfl
 have hl:(attrCells (asB P)).length=k*2:=by rw[zH];unfold asB;rw[List.length_map,hk]
 rw[e,e]
 generalize attrCells (asB P)=Q at *
 rw[List.set_append_right _ _ (by omega),List.set_append_right _ _ (by omega),List.set_append_right _ _ (by omega),List.set_append_right _ _ (by omega),hl]
 rw[show (k+1)*2-k*2=2 by omega,show (k+1)*2+1-k*2=3 by omega,show k*2-k*2=0 by omega,show k*2+1-k*2=1 by omega]
 rfl
theorem BJ.swap {w:World}{tb:Nat}{nm:List UInt8}{A:List (List UInt8 × List UInt8)}{x y:List UInt8 × List UInt8}{k ag acap:Nat}{W:World}(h:BJ w tb nm A x (k+1) (.slice (some ⟨ag,0,none⟩) (A.length+1) acap) W)(hag:w.heap.size≤ag)(hy:A[k]?=some y)(hlt:x.1<y.1) :
 BJ w tb nm A x k (.slice (some ⟨ag,0,none⟩) (A.length+1) acap) ((((W.setCell ⟨ag,(k+1)*2,none⟩ (.string (qa y.1))).setCell ⟨ag,(k+1)*2+1,none⟩ (.string (qa y.2))).setCell ⟨ag,k*2,none⟩ (.string (qa x.1))).setCell ⟨ag,k*2+1,none⟩ (.string (qa x.2))):=by
 have hle:=h.le;have hgy:A.getD k default=y:=by rw[List.getD_eq_getElem?_getD,hy];rfl
 have hne1:ag≠tb:=fun e=>qv h.row (b:=tb) (B':=0) ⟨nZ9 _,_,_,h.box⟩ (by decide) (by rw[←e];rfl)
 have hne2:ag≠w.heap.size:=fun e=>qv h.row (b:=w.heap.size) (B':=0) ⟨nZ9 _,_,_,h.res⟩ (by decide) (by rw[←e];rfl)
 have ek:A[k]=y:=by rw[List.getElem?_eq_getElem (by omega)]at hy;exact Option.some.inj hy
 have e1:A.take (k+1)++x::A.drop (k+1)=A.take k++y::x::A.drop (k+1):=by
  rw[List.take_succ_eq_append_getElem (by omega),ek,List.append_assoc];rfl
 have e2:A.take k++x::A.drop k=A.take k++x::y::A.drop (k+1):=by
  rw[List.drop_eq_getElem_cons (by omega),ek]
 have hr:=h.row;rw[e1]at hr
 have s1:=(World.ownsRow.stored hr ((k+1)*2) (.string (qa y.1))).1;have s2:=(World.ownsRow.stored s1 ((k+1)*2+1) (.string (qa y.2))).1;have s3:=(World.ownsRow.stored s2 (k*2) (.string (qa x.1))).1;have s4:=(World.ownsRow.stored s3 (k*2+1) (.string (qa x.2))).1;rw[qba (A.take k) (A.drop (k+1)) x y k (by rw[List.length_take];omega),←e2]at s4
 refine ⟨(((h.below.setCell (p:=⟨ag,_,none⟩) hag _).setCell (p:=⟨ag,_,none⟩) hag _).setCell (p:=⟨ag,_,none⟩) hag _).setCell (p:=⟨ag,_,none⟩) hag _,h.big,?_,?_,s4,?_,by omega⟩
 · rw[heap_setCell_other _ _ _ _ (Ne.symm hne2), heap_setCell_other _ _ _ _ (Ne.symm hne2), heap_setCell_other _ _ _ _ (Ne.symm hne2), heap_setCell_other _ _ _ _ (Ne.symm hne2)];exact h.res
 · rw[heap_setCell_other _ _ _ _ (Ne.symm hne1), heap_setCell_other _ _ _ _ (Ne.symm hne1), heap_setCell_other _ _ _ _ (Ne.symm hne1), heap_setCell_other _ _ _ _ (Ne.symm hne1)];exact h.box
 · rw[h.pos,xU,if_pos (by rw[hgy];exact hlt)]
theorem BJ.drew {w:World}{tb:Nat}{nm:List UInt8}{A:List (List UInt8 × List UInt8)}{x:List UInt8 × List UInt8}{k:Nat}{va:Value}{W:World}(h:BJ w tb nm A x k va W):BJ w tb nm A x k va W.drew :=
 ⟨h.below.drew,h.big,h.res,h.box,h.row.drew,h.pos,h.le⟩
theorem Vo (l:List UInt8):qM (qa l)=qI l:=by
 cases h:qI l with
 | true =>
   simp only[qI,Bool.and_eq_true,decide_eq_true_eq]at h
   obtain ⟨⟨h1,h2⟩,h3⟩:=h;have h0:0<l.length:=List.length_pos_iff.2 h1;simp only[qM,Bool.and_eq_true,decide_eq_true_eq,qe];exact ⟨⟨h0,h2⟩,by simpa[qa] using h3⟩
 | false =>
   cases hn:qM (qa l) with
   | false=>rfl
   | true=>rw[XZ hn]at h;cases h
theorem jX (w:World)(a b:Addr)(x y:Value)(h:a.block≠b.block):(w.setCell a x).setCell b y=(w.setCell b y).setCell a x:=by
 unfold World.setCell
 congr 1
 apply Array.ext
 · simp
 · intro i h1 h2;simp only[Array.getElem_modify]
   by_cases ha:a.block=i
   · by_cases hb : b.block = i
     · exact absurd (ha.trans hb.symm) h
     · simp[ha,hb]
   · simp[ha]
theorem qdg (w:World)(o g0 g1 g2 g3:Addr)(v x0 x1 x2 x3:Value)(h0:o.block≠g0.block)(h1:o.block≠g1.block)(h2:o.block≠g2.block)(h3:o.block≠g3.block) :
 ((((w.setCell o v).setCell g0 x0).setCell g1 x1).setCell g2 x2).setCell g3 x3=((((w.setCell g0 x0).setCell g1 x1).setCell g2 x2).setCell g3 x3).setCell o v:=by
 rw[jX w o g0 v x0 h0,jX _ o g1 v x1 h1,jX _ o g2 v x2 h2,jX _ o g3 v x3 h3]
def Fst (w1 W:World)(v:Value)(st:List Tr):Prop:=Below w1.heap.size w1 W∧∃ (ob cap:Nat)(qs:List (Bool × ByteArray × Value × Value))(F:Nat→Nat),v=.slice (some ⟨ob,0,none⟩) st.length cap∧cap≤maxLen∧Stk F w1.heap.size W v ob st.reverse qs
theorem Stk.split {F:Nat→Nat}{B:Nat}{w:World}{v:Value}{ob:Nat}{ss:List Tr}{T:Tr}{qs:List (Bool × ByteArray × Value × Value)}(h:Stk F B w v ob (ss++[T]) qs):∃ qs' q,qs=qs'++[q]∧qs'.length=ss.length∧q.1=T.text∧q.2.1=T.s∧qm (Els (Lv F B ob ss.length) q.2.2.2) w q.2.2.1 T.attrs∧∃ ps,KG (Lv F B ob ss.length) (8-ss.length) w q.2.2.2 T.kids ps:=by
 have hl:=h.len
 rcases List.eq_nil_or_concat qs with rfl|⟨qs',q,rfl⟩
 · simp at hl
 · rw[List.concat_eq_append]at hl h ⊢
   have hl':qs'.length=ss.length:=by simpa using hl
   obtain ⟨a,b,c⟩:=h.each ss.length q T (by rw[List.getElem?_append_right (by omega),hl',Nat.sub_self];rfl) (by rw[List.getElem?_append_right (by omega),Nat.sub_self];rfl)
   exact ⟨qs',q,rfl,hl',a,b,c⟩
theorem Stk.cells {F:Nat→Nat}{B:Nat}{w:World}{ob cap n:Nat}{ss:List Tr}{qs:List (Bool × ByteArray × Value × Value)}(h:Stk F B w (.slice (some ⟨ob,0,none⟩) n cap) ob ss qs)(hn:n=ss.length){i:Nat}{q:Bool × ByteArray × Value × Value}(hq:qs[i]?=some q) :
 w.cell? ⟨ob,i*4,none⟩=some (.bool q.1)∧w.cell? ⟨ob,i*4+1,none⟩=some (.string q.2.1)∧w.cell? ⟨ob,i*4+2,none⟩=some q.2.2.1∧w.cell? ⟨ob,i*4+3,none⟩=some q.2.2.2:=by
 subst hn;have hi:=yx hq;rw[h.len]at hi
 obtain ⟨g0,g1,g2,g3⟩:=zY qs i q hq;exact ⟨by rw[World.ownsRow.cellAt h.own (i*4) (by omega),g0],by rw[World.ownsRow.cellAt h.own (i*4+1) (by omega),g1],by rw[World.ownsRow.cellAt h.own (i*4+2) (by omega),g2],by rw[World.ownsRow.cellAt h.own (i*4+3) (by omega),g3]⟩
theorem KG.shape {P:Nat→Prop}{n:Nat}{w:World}{v:Value}{us:List Tr}{qs:List (Bool × ByteArray × Value × Value)}(h:KG P n w v us qs):∃ a c,v=.slice a us.length c∧us.length≤c∧c≤maxLen:=jx h.own
structure Top (w1 W:World) (ob cap:Nat) (ka:Option Addr) (kc:Nat) (T:Tr) (st:List Tr) (F:Nat→Nat) (qs:List (Bool × ByteArray × Value × Value)) (q:Bool × ByteArray × Value × Value) (ps:List (Bool × ByteArray × Value × Value)):Prop where
 below:Below w1.heap.size w1 W
 capm:cap≤maxLen
 stk:Stk F w1.heap.size W (.slice (some ⟨ob,0,none⟩) (st.length+1) cap) ob (st.reverse++[T]) (qs++[q])
 kv:q.2.2.2=.slice ka T.kids.length kc
 ql:qs.length=st.length
 kg:KG (Lv F w1.heap.size ob st.length) (8-st.length) W (.slice ka T.kids.length kc) T.kids ps
theorem Fst.top {w1 W:World}{v:Value}{T:Tr}{st:List Tr}(h:Fst w1 W v (T::st)):∃ ob cap ka kc F qs q ps,v=.slice (some ⟨ob,0,none⟩) (st.length+1) cap∧Top w1 W ob cap ka kc T st F qs q ps:=by
 obtain ⟨hB,ob,cap,qs,F,rfl,hc,hS⟩:=h;rw[List.reverse_cons]at hS
 obtain ⟨qs',q,rfl,hl,_,_,_,ps,hk⟩:=hS.split;rw[List.length_reverse]at hl hk
 obtain ⟨ka,kc,hkv,_,_⟩:=hk.shape;exact ⟨ob,cap,ka,kc,F,qs',q,ps,rfl,hB,hc,hS,hkv,hl,by rw[←hkv];exact hk⟩
theorem Top.later {w1 W W':World}{ob cap:Nat}{ka:Option Addr}{kc:Nat}{T:Tr}{st:List Tr}{F:Nat→Nat}{qs:List (Bool × ByteArray × Value × Value)}{q:Bool × ByteArray × Value × Value}{ps:List (Bool × ByteArray × Value × Value)}(h:Top w1 W ob cap ka kc T st F qs q ps)(hb:Below W.heap.size W W'):Top w1 W' ob cap ka kc T st (fresh F W.heap.size) qs q ps :=
 ⟨h.below.trans (hb.mono h.below.size),h.capm,h.stk.later hb,h.kv,h.ql,h.kg.carry fun b hp hlt=>⟨⟨by unfold fresh;rw[if_pos hlt];exact hp.1,hp.2⟩,hb.block b hlt⟩⟩
theorem Top.cells {w1 W:World}{ob cap:Nat}{ka:Option Addr}{kc:Nat}{T:Tr}{st:List Tr}{F:Nat→Nat}{qs:List (Bool × ByteArray × Value × Value)}{q:Bool × ByteArray × Value × Value}{ps:List (Bool × ByteArray × Value × Value)}(h:Top w1 W ob cap ka kc T st F qs q ps) :
 W.cell? ⟨ob,st.length*4,none⟩=some (.bool q.1)∧W.cell? ⟨ob,st.length*4+1,none⟩=some (.string T.s)∧W.cell? ⟨ob,st.length*4+2,none⟩=some q.2.2.1∧W.cell? ⟨ob,st.length*4+3,none⟩=some (.slice ka T.kids.length kc)∧(∀ j,W.frozen? ⟨ob,j,none⟩=false)∧ob<W.heap.size∧w1.heap.size≤ob∧T.kids.length≤kc∧kc≤maxLen:=by
 have hq:(qs++[q])[st.length]?=some q:=by rw[List.getElem?_append_right (by rw[h.ql];exact nR9 _),h.ql,Nat.sub_self];rfl
 have hl:st.length+1=(st.reverse++[T]).length:=by simp
 obtain ⟨c0,c1,c2,c3⟩:=h.stk.cells hl hq;obtain ⟨_,hs,_⟩:=h.stk.each st.length q T hq (by rw[List.getElem?_append_right (by simp),List.length_reverse,Nat.sub_self];rfl)
 rw[h.kv]at c3
 rw[hs]at c1
 have hlt:=h.stk.own.lt ob rfl;obtain ⟨a,c,e,h1,h2⟩:=h.kg.shape
 injection e with _ _ e
 subst e
 have hfr:∀ j,W.frozen? ⟨ob,j,none⟩=false:=fun j=>by
  have:=h.stk.own;rw[←hl]at this
  exact World.ownsRow.frozenAt this j
 exact ⟨c0,c1,c2,c3,hfr,hlt.2,hlt.1,h1,h2⟩
theorem Top.run {w1 W:World}{ob cap:Nat}{ka:Option Addr}{kc:Nat}{T:Tr}{st:List Tr}{F:Nat→Nat}{qs:List (Bool × ByteArray × Value × Value)}{q:Bool × ByteArray × Value × Value}{ps:List (Bool × ByteArray × Value × Value)}(h:Top w1 W ob cap ka kc T st F qs q ps)(ty:TypeId)(hl:T.kids.length≤1048576)(zb:Nat)(x0 x1 x2 x3:Value)
    (hz:∀ j u,([x0,x1,x2,x3]:List Value)[j]?=some u→W.cell? ((⟨zb,0,none⟩:Addr).add j)=some u) (ho:∀ u∈([x0,x1,x2,x3]:List Value),u.oneCell'=true) :
    ∃ g c w', (Builtin.append_ #[22, 22] ty #[.slice ka T.kids.length kc, .slice (some ⟨zb, 0, none⟩) 1 1]).run Tryz.prog W = .ok (.slice (some ⟨g, 0, none⟩) (T.kids.length + 1) c) w' ∧ c ≤ maxLen ∧ T.kids.length + 1 ≤ c ∧
      w'.ownsRow 0 79 4 (.slice (some ⟨g,0,none⟩) (T.kids.length+1) c) (T.kids.length+1) (quadCells ps++[x0,x1,x2,x3])∧W.grownBy w' (Value.slice ka T.kids.length kc).ownBlock∧((Value.slice (some ⟨g,0,none⟩) (T.kids.length+1) c).ownBlock=(Value.slice ka T.kids.length kc).ownBlock∨(Value.slice (some ⟨g,0,none⟩) (T.kids.length+1) c).ownBlock=some W.heap.size)∧g≠ob∧w1.heap.size≤g:=by
  obtain ⟨i0,hi,hz0,hz1,hz2⟩:=info_parts treeInfo;obtain ⟨v',w',hr,h2,h3,_,h5⟩:=run_append_own_at (P:=Tryz.prog) W 0 22 ty 79 i0 _ 4 72 Tryz.underlying22 hi hz0 hz1 hz2 rfl (by decide) (.slice ka T.kids.length kc) T.kids.length (quadCells ps) h.kg.own ⟨zb,0,none⟩ 1 1 [x0,x1,x2,x3] rfl hz ho (by unfold maxLen;omega) (by omega) (nZ9 _)
  obtain ⟨g,c,rfl,_,hc1,hc2⟩:=Yy h2;have hob:=h.stk.own.lt ob rfl
  have hg:g≠ob∧w1.heap.size≤g:=by
    rcases h5 with e|e
    · have := h.kg.at_ g e.symm;exact ⟨this.2.1,this.2.2⟩
    · injection e with e
      simp at e
      have:=h.below.size;omega
  exact ⟨g,c,w',hr,hc2,hc1,h2,h3,h5,hg.1,hg.2⟩
theorem ZY {W w':World}{g c n:Nat}{xs:List Value}{row:Option Nat}{z0 z1 z2 z3:Value}(h:w'.ownsRow 0 79 4 (.slice (some ⟨g,0,none⟩) (n+1) c) (n+1) (xs++[z0,z1,z2,z3]))(hx:xs.length=n*4)(hg:W.grownBy w' row)(hat:(Value.slice (some ⟨g,0,none⟩) (n+1) c).ownBlock=row∨(Value.slice (some ⟨g,0,none⟩) (n+1) c).ownBlock=some W.heap.size)(x0 x1 x2 x3:Value) :
 ((((w'.setCell ⟨g,n*4,none⟩ x0).setCell ⟨g,n*4+1,none⟩ x1).setCell ⟨g,n*4+2,none⟩ x2).setCell ⟨g,n*4+3,none⟩ x3).ownsRow 0 79 4 (.slice (some ⟨g,0,none⟩) (n+1) c) (n+1) (xs++[x0,x1,x2,x3])∧W.grownBy ((((w'.setCell ⟨g,n*4,none⟩ x0).setCell ⟨g,n*4+1,none⟩ x1).setCell ⟨g,n*4+2,none⟩ x2).setCell ⟨g,n*4+3,none⟩ x3) row:=by
 have s1:=World.ownsRow.stored h (n*4) x0;have s2:=World.ownsRow.stored s1.1 (n*4+1) x1;have s3:=World.ownsRow.stored s2.1 (n*4+2) x2;have s4:=World.ownsRow.stored s3.1 (n*4+3) x3
 constructor
 · have e:((((xs++[z0,z1,z2,z3]).set (n*4) x0).set (n*4+1) x1).set (n*4+2) x2).set (n*4+3) x3=xs++[x0,x1,x2,x3]:=by
    rw[List.set_append_right _ _ (by omega),List.set_append_right _ _ (by omega),List.set_append_right _ _ (by omega),List.set_append_right _ _ (by omega),hx,Nat.sub_self,Nat.add_sub_cancel_left,Nat.add_sub_cancel_left,Nat.add_sub_cancel_left]
    rfl
   rw[←e];exact s4.1
 · refine ⟨hg.os, hg.tape, hg.output, by simpa using hg.size, fun k hk hne => ?_⟩
   have hkg:k≠g:=by
    rcases hat with e|e
    · intro ek;subst ek;exact hne e
    · injection e with e;simp at e;omega
   rw[heap_setCell_other _ _ _ _ hkg,heap_setCell_other _ _ _ _ hkg,heap_setCell_other _ _ _ _ hkg,heap_setCell_other _ _ _ _ hkg];exact hg.block k hk hne
theorem Top.add {w1 W w':World}{ob cap:Nat}{ka:Option Addr}{kc:Nat}{T k:Tr}{st:List Tr}{F:Nat→Nat}{qs:List (Bool × ByteArray × Value × Value)}{q p:Bool × ByteArray × Value × Value}{ps:List (Bool × ByteArray × Value × Value)}{g c:Nat}{Q:Nat→Prop}(h:Top w1 W ob cap ka kc T st F qs q ps)
 (hown:w'.ownsRow 0 79 4 (.slice (some ⟨g,0,none⟩) (T.kids.length+1) c) (T.kids.length+1) (quadCells ps++[.bool p.1,.string p.2.1,p.2.2.1,p.2.2.2])) (hg:W.grownBy w' (Value.slice ka T.kids.length kc).ownBlock) (hat:(Value.slice (some ⟨g,0,none⟩) (T.kids.length+1) c).ownBlock=(Value.slice ka T.kids.length kc).ownBlock∨(Value.slice (some ⟨g,0,none⟩) (T.kids.length+1) c).ownBlock=some W.heap.size)
 (hQ:∀ b,Q b→b<W.heap.size→F b=99∧b≠ob∧w1.heap.size≤b) (h1:p.1=k.text) (h2:p.2.1=k.s) (ha:qm Q W p.2.2.1 k.attrs) (hk:qb Q W (8-st.length) p.2.2.2 k.kids) :
 Fst w1 (w'.setCell ⟨ob,st.length*4+3,none⟩ (.slice (some ⟨g,0,none⟩) (T.kids.length+1) c)) (.slice (some ⟨ob,0,none⟩) (st.length+1) cap) (yQ T k::st):=by
 have hob:=h.stk.own.lt ob rfl;have hl:st.reverse.length=st.length:=List.length_reverse;have hadd:=Stk.add (k:=k) (p:=p) (cap:=cap) (v':=.slice (some ⟨g,0,none⟩) (T.kids.length+1) c) h.stk (by rw[hl]) (by rw[hl,h.kv];exact h.kg) hown (by rw[h.kv];exact hg) (by rw[h.kv];exact hat) h.below.size hQ h1 h2 ha (by rw[hl];exact hk)
 rw[hl]at hadd
 have hbl:Below w1.heap.size w1 (w'.setCell ⟨ob,st.length*4+3,none⟩ (.slice (some ⟨g,0,none⟩) (T.kids.length+1) c)) :=
  (h.below.grown hg h.below.size (fun b hb=>(h.kg.at_ b hb).2.2)).setCell (p:=⟨ob,_,none⟩) hob.1 _
 exact ⟨hbl,ob,cap,_,_,rfl,h.capm,by rw[List.reverse_cons];exact hadd⟩
theorem Top.pop {w1 W:World}{ob cap:Nat}{ka:Option Addr}{kc:Nat}{T T2:Tr}{st:List Tr}{F:Nat→Nat}{qs:List (Bool × ByteArray × Value × Value)}{q:Bool × ByteArray × Value × Value}{ps:List (Bool × ByteArray × Value × Value)}(h:Top w1 W ob cap ka kc T (T2::st) F qs q ps) :
 ∃ ka2 kc2 F2 qs2 q2 ps2,Top w1 W ob cap ka2 kc2 T2 st F2 qs2 q2 ps2∧q.1=T.text∧q.2.1=T.s∧q.2.2.2=.slice ka T.kids.length kc∧qm (fun b=>F2 b=99∧b≠ob∧w1.heap.size≤b) W q.2.2.1 T.attrs∧qb (fun b=>F2 b=99∧b≠ob∧w1.heap.size≤b) W (8-st.length) q.2.2.2 T.kids:=by
 have hS:=h.stk;have hl:(T2::st).reverse.length=st.length+1:=by simp
 have hf:(T2::st).length+1≤9:=by have:=hS.few;simpa using this
 have hp:=Stk.pop (cap:=cap) (ss:=(T2::st).reverse) (by rw[hl];exact hS)
 rw[hl]at hp
 obtain ⟨hS2,e1,e2,hA,hT⟩:=hp;rw[List.reverse_cons]at hS2
 obtain ⟨qs',q2,rfl,hl2,_,_,_,ps2,hk⟩:=hS2.split;rw[List.length_reverse]at hl2 hk
 obtain ⟨ka2,kc2,hkv,_,_⟩:=hk.shape;refine ⟨ka2,kc2,_,qs',q2,ps2,⟨h.below,h.capm,hS2,hkv,hl2,by rw[←hkv];exact hk⟩,e1,e2,h.kv,hA,?_⟩
 rw[show 8-st.length=8-(st.length+1)+1 by simp only[List.length_cons]at hf;omega]
 exact hT
theorem Top.push {w1 W w':World}{ob cap:Nat}{ka:Option Addr}{kc:Nat}{T:Tr}{st:List Tr}{F:Nat→Nat}{qs:List (Bool × ByteArray × Value × Value)}{q:Bool × ByteArray × Value × Value}{ps:List (Bool × ByteArray × Value × Value)}{v' va:Value}{nm:ByteArray}{al:List (ByteArray × ByteArray)}{Q:Nat→Prop}(h:Top w1 W ob cap ka kc T st F qs q ps)(hf:st.length+1≤8)
 (hown:w'.ownsRow w1.heap.size 79 4 v' (st.length+1+1) (quadCells (qs++[q])++[.bool false,.string nm,va,.slice none 0 0])) (hg:W.grownBy w' (some ob)) (hat:v'.ownBlock=some ob∨v'.ownBlock=some W.heap.size)
 (hQ:∀ b,Q b→b<W.heap.size→F b=99∧b≠ob∧w1.heap.size≤b) (ha:qm Q W va al):Fst w1 w' v' (⟨false,nm,al,[]⟩::T::st):=by
 have hob:=h.stk.own.lt ob rfl;have hl:(st.reverse++[T]).length=st.length+1:=by simp
 obtain ⟨ob',hS⟩:=Stk.push h.stk (by rw[hl];exact hf) (by rw[hl];exact hown) hg hat hQ ha
 obtain ⟨g,c,rfl,_,_,hc⟩:=Yy hown;refine ⟨h.below.grown hg h.below.size (fun b hb=>by cases hb;exact hob.1),ob',c,(qs++[q])++[(false,nm,va,.slice none 0 0)],QM F W.heap.size (st.reverse++[T]).length,?_,hc,?_⟩
 · have := hS.at_
   injection this with this
   rw[←this];rfl
 · rw[List.reverse_cons, List.reverse_cons];exact hS
theorem qaj {s:List UInt8}{ps:List (List UInt8)}{T:Tr}{st:List Tr}(h1:qT s=some ps)(h2:foldD [zeroT] ps=foldD (T::st) (ps.drop ps.length)):ze s=if st.isEmpty then some T.kids else none:=by
 unfold ze;rw[Qf,h1];simp only;rw[h2,List.drop_length,foldD];cases st<;>rfl
theorem ZB {T T':Tr}{st:List Tr}{k:Nat}(h:T'.kids.length≤T.kids.length+1)(hk:∀ t∈T::st,t.kids.length≤k):∀ t∈T'::st,t.kids.length≤k+1:=by
 intro t ht;rw[List.mem_cons]at ht
 rcases ht with rfl|ht
 · have := hk T (List.mem_cons_self ..);omega
 · have := hk t (List.mem_cons_of_mem _ ht);omega
theorem qds (u:List UInt8)(w:World) :
 Calls Tryz.prog 66 #[.string (qa (60::47::(u++[62]))),.string ⟨#[60,47]⟩] w fun e w'=>e=.returned (.bool true)∧w'=w:=Y0 (47::(u++[62])) w
theorem qeL {m:List UInt8}(h:¬ ∃ u,m=47::u)(w:World) :
 Calls Tryz.prog 66 #[.string (qa (60::(m++[62]))),.string ⟨#[60,47]⟩] w fun e w'=>e=.returned (.bool false)∧w'=w:=by
 cases m with
 | nil=>exact Y0 [62] w
 | cons c m =>
   have hc:c≠47:=fun e=>h ⟨m,by rw[e]⟩
   have h1:Calls Tryz.prog 66 #[.string (qa (60::c::(m++[62]))),.string ⟨#[60,47]⟩] w fun e w'=>e=.returned (.bool (decide (c=47)))∧w'=w:=Y0 (c::(m++[62])) w
   rw[decide_eq_false hc]at h1
   exact h1
theorem qch {m:List UInt8}(h:¬ ∃ u,m=47::u)(st:List Tr):zG st m=yJ st m:=by
 cases m with
 | nil=>rfl
 | cons c m =>
   have hc:c≠47:=fun e=>h ⟨m,by rw[e]⟩
   show (if c=47 then xE st m else yJ st (c::m))=_
   exact if_neg hc
theorem qaz (u:List UInt8)(st:List Tr):zG st (47::u)=xE st u:=by
 show (if (47:UInt8)=47 then xE st u else yJ st (47::u))=_
 exact if_pos rfl
theorem Xf (T T2:Tr)(st:List Tr)(u:List UInt8):xE (T::T2::st) u=if qa (ZS u)=T.s then some (yQ T2 T::st) else none:=rfl
theorem qcN {a b:ByteArray}(h:a≠b):(a.toList==b.toList)=false:=by
 rw[beq_eq_false_iff_ne];intro e;rw[ByteArray.toList_eq,ByteArray.toList_eq]at e
 exact h (ByteArray.ext (Array.ext' e))
theorem qeZ {m:List UInt8}{n:List UInt8}{L:List (List UInt8 × List UInt8)}{x:Bool}(h:yq m=some (n,L,x))(T:Tr)(st:List Tr):yJ (T::st) m=if 8<st.length+1 then none else if x then some (yQ T ⟨false,qa n,asB (qW L),[]⟩::st) else some (⟨false,qa n,asB (qW L),[]⟩::T::st):=by
 unfold yJ;rw[h];rfl
theorem qe0 {m:List UInt8}(h:yq m=none)(st:List Tr):yJ st m=none:=by
 unfold yJ;rw[h]
theorem qfk (u:List UInt8):(qa (60::47::(u++[62]))).extract 2 (u.length+3)=qa (u++[62]):=by
 rw[qU]
 show qa (List.take (u.length+3-2) (u++[62]))=_
 rw[List.take_of_length_le (by simp)]
theorem qbY (st:List Tr){l r:List (List UInt8)}{m:List UInt8}(h:l=(60::(m++[62]))::r):foldD st l=(zG st m).bind fun st'=>foldD st' r:=by
 have e:QH st (60::(m++[62]))=zG st m:=by
  show (if (60:UInt8)=60 then zG st (m++[62]).dropLast else yB st (60::(m++[62])))=_
  rw[if_pos rfl,List.dropLast_concat]
 rw[h,foldD,e];cases zG st m<;>rfl
theorem qbZ (T:Tr)(st:List Tr){l r:List (List UInt8)}{c:UInt8}{u vm:List UInt8}{f:Bool}(hc:c≠60)(hm:zh false (c::u)=(vm,f))(h:l=(c::u)::r):foldD (T::st) l=if f then foldD (yQ T ⟨true,qa vm,[],[]⟩::st) r else none:=by
 have e:QH (T::st) (c::u)=yB (T::st) (c::u):=by
  show (if c=60 then zG (T::st) u.dropLast else yB (T::st) (c::u))=_
  rw[if_neg hc]
 rw[h,foldD,e];unfold yB;unfold zh zu at hm
 cases hx:zt false ((c::u).length+1) (c::u) with
 | none =>
   rw[hx]at hm
   injection hm with _ h2
   subst h2;rfl
 | some x =>
   rw[hx]at hm
   injection hm with h1 h2
   subst h1 h2;rfl
theorem ZO {ops:Array Oper}{o:Oper}{a:Act}{K:Act→World→Prop}{Q:Exit→Act→World→Prop}{E:Prop}{w1 W:World}{ob cap:Nat}{ka:Option Addr}{kc:Nat}{T:Tr}{st:List Tr}{F:Nat→Nat}{qs:List (Bool × ByteArray × Value × Value)}{q:Bool × ByteArray × Value × Value}{ps:List (Bool × ByteArray × Value × Value)}
 (hg:o.guard=none) (s x:Operand) (hop:o.op=.call { callee:=.builtin .append,args:=#[s,x],argTypes:=#[22,22] }) (h:Top w1 W ob cap ka kc T st F qs q ps) (hl:T.kids.length≤1048576) (zb:Nat) (x0 x1 x2 x3:Value)
 (hs:a.eval s=.slice ka T.kids.length kc) (hx:a.eval x=.slice (some ⟨zb,0,none⟩) 1 1) (hz:∀ j u,([x0,x1,x2,x3]:List Value)[j]?=some u→W.cell? ((⟨zb,0,none⟩:Addr).add j)=some u) (ho:∀ u∈([x0,x1,x2,x3]:List Value),u.oneCell'=true)
 (hK:∀ g c w',c≤maxLen→T.kids.length+1≤c→w'.ownsRow 0 79 4 (.slice (some ⟨g,0,none⟩) (T.kids.length+1) c) (T.kids.length+1) (quadCells ps++[x0,x1,x2,x3])→W.grownBy w' (Value.slice ka T.kids.length kc).ownBlock →
  ((Value.slice (some ⟨g,0,none⟩) (T.kids.length+1) c).ownBlock=(Value.slice ka T.kids.length kc).ownBlock∨(Value.slice (some ⟨g,0,none⟩) (T.kids.length+1) c).ownBlock=some W.heap.size)→g≠ob→w1.heap.size≤g→K (a.put o.dst (.slice (some ⟨g,0,none⟩) (T.kids.length+1) c)) w') :
 if Region.wanted o (yielded ops a.tmps)=true then Oper.wp Tryz.prog o a W K Q else E:=by
 have hw:Region.wanted o (yielded ops a.tmps)=true:=by simp[Region.wanted,hg]
 rw[if_pos hw];obtain ⟨g,c,w',hr,h1,h2,h3,h4,h5,h6,h7⟩:=h.run o.type hl zb x0 x1 x2 x3 hz ho;unfold Oper.wp execOp;simp only[hop,resolve,invoke,builtin,Sem.run_bind,Sem.run_pure,Result.andThen_ok,List.map_toArray,List.map_cons,List.map_nil,hs,hx,hr];exact hK g c w' h1 h2 h3 h4 h5 h6 h7
theorem Top.behind {w1 W w':World}{ob cap:Nat}{ka:Option Addr}{kc:Nat}{T:Tr}{st:List Tr}{F:Nat→Nat}{qs:List (Bool × ByteArray × Value × Value)}{q:Bool × ByteArray × Value × Value}{ps:List (Bool × ByteArray × Value × Value)}{g c:Nat}{z0 z1 z2 z3:Value}(h:Top w1 W ob cap ka kc T st F qs q ps)
 (hown:w'.ownsRow 0 79 4 (.slice (some ⟨g,0,none⟩) (T.kids.length+1) c) (T.kids.length+1) (quadCells ps++[z0,z1,z2,z3])) (hg:W.grownBy w' (Value.slice ka T.kids.length kc).ownBlock) :
 (w'.cell? ⟨g,T.kids.length*4,none⟩=some z0∧w'.cell? ⟨g,T.kids.length*4+1,none⟩=some z1∧w'.cell? ⟨g,T.kids.length*4+2,none⟩=some z2∧w'.cell? ⟨g,T.kids.length*4+3,none⟩=some z3)∧(∀ j,w'.frozen? ⟨g,j,none⟩=false) ∧
  w'.cell? ⟨ob,st.length*4+3,none⟩=some (.slice ka T.kids.length kc)∧(∀ j,w'.frozen? ⟨ob,j,none⟩=false)∧(quadCells ps).length=T.kids.length*4:=by
 obtain ⟨_,_,_,c3,hf,hlt,_⟩:=h.cells;have hl:(quadCells ps).length=T.kids.length*4:=by rw[za,h.kg.len]
 have hne:some ob≠(Value.slice ka T.kids.length kc).ownBlock:=fun e=>(h.kg.at_ ob e.symm).2.1 rfl
 have hob:w'.heap[ob]?=W.heap[ob]?:=hg.block ob hlt hne
 have hc:∀ j u,([z0,z1,z2,z3]:List Value)[j]?=some u→j<4→w'.cell? ⟨g,T.kids.length*4+j,none⟩=some u:=fun j u hj hj4=>by
  rw[World.ownsRow.cellAt hown (T.kids.length*4+j) (by omega),List.getElem?_append_right (by omega),hl,Nat.add_sub_cancel_left]
  exact hj
 refine ⟨⟨hc 0 z0 rfl (by omega),hc 1 z1 rfl (by omega),hc 2 z2 rfl (by omega),hc 3 z3 rfl (by omega)⟩,fun j=>World.ownsRow.frozenAt hown j,?_,fun j=>?_,hl⟩
 · rw[World.cell?_of_block (a:=⟨ob,st.length*4+3,none⟩) hob];exact c3
 · rw[World.frozen?_of_block (a:=⟨ob,j,none⟩) hob];exact hf j
theorem QS (w:World)(a b c d:Value)(e:TypeId):∀ (j:Nat)(u:Value),([a,b,c,d]:List Value)[j]?=some u→((w.alloc (.cells #[a,b,c,d] e)).drew).cell? ((⟨w.heap.size,0,none⟩:Addr).add j)=some u:=fun j u h=>jI w a b c d e j u h
theorem qm.shape2 {S:Nat→Prop}{w:World}{v:Value}{l:List (ByteArray × ByteArray)}(h:qm S w v l):∃ a c,v=.slice a l.length c∧l.length≤c∧c≤maxLen:=by
 obtain ⟨a,c,h1,h2,h3,_⟩:=h;exact ⟨a,c,h1,h2,h3⟩
theorem Top.room {w1 W:World}{ob cap:Nat}{ka:Option Addr}{kc:Nat}{T:Tr}{st:List Tr}{F:Nat→Nat}{qs:List (Bool × ByteArray × Value × Value)}{q:Bool × ByteArray × Value × Value}{ps:List (Bool × ByteArray × Value × Value)}(h:Top w1 W ob cap ka kc T st F qs q ps):st.length+1≤cap:=by
 obtain ⟨a,c,e,h1,_⟩:=jx h.stk.own
 injection e with _ _ e
 subst e
 simpa using h1
theorem Vc {T T2:Tr}{st:List Tr}{k:Nat}(hk:∀ t∈T::T2::st,t.kids.length≤k):∀ t∈yQ T2 T::st,t.kids.length≤k+1 :=
 ZB (T:=T2) (by simp[yQ]) fun t ht=>hk t (List.mem_cons_of_mem _ ht)
theorem qb8 {E T:Tr}{st:List Tr}{k:Nat}(h:E.kids=[])(hk:∀ t∈T::st,t.kids.length≤k):∀ t∈E::T::st,t.kids.length≤k+1:=by
 intro t ht;rw[List.mem_cons]at ht
 rcases ht with rfl|ht
 · rw[h];exact nZ9 _
 · exact Nat.le_succ_of_le (hk t ht)
theorem qfo {F:Nat→Nat}{N b:Nat}(h:N≤b):fresh F N b=99:=by
 unfold fresh;exact if_neg (by omega)
theorem Zg (W:World)(g k:Nat)(i0 i1 i2 i3:Nat)(x0 x1 x2 x3:Value)(h:k≠g):((((W.setCell ⟨g,i0,none⟩ x0).setCell ⟨g,i1,none⟩ x1).setCell ⟨g,i2,none⟩ x2).setCell ⟨g,i3,none⟩ x3).heap[k]?=W.heap[k]?:=by
 rw[heap_setCell_other _ _ k _ h,heap_setCell_other _ _ k _ h,heap_setCell_other _ _ k _ h,heap_setCell_other _ _ k _ h]
theorem Zw {F:Nat→Nat}{N b:Nat}(h:F b=99):fresh F N b=99:=by
 unfold fresh
 split
 · exact h
 · rfl
theorem Fst.bot {w1 W:World}{v:Value}{T:Tr}{st:List Tr}(h:Fst w1 W v (T::st)):∃ ob cap a n c,v=.slice (some ⟨ob,0,none⟩) (st.length+1) cap∧W.cell? ⟨ob,3,none⟩=some (.slice a n c)∧(st=[]→qb (fun b=>w1.heap.size≤b) W 9 (.slice a n c) T.kids):=by
 obtain ⟨hB,ob,cap,qs,F,rfl,hc,hS⟩:=h;have hl:qs.length=st.length+1:=by have:=hS.len;simpa using this
 obtain ⟨q,hq⟩:∃ q,qs[0]?=some q:=⟨qs[0]'(by omega),by rw[List.getElem?_eq_getElem]⟩
 obtain ⟨t,ht⟩:∃ t,(T::st).reverse[0]?=some t:=⟨(T::st).reverse[0]'(by simp),by rw[List.getElem?_eq_getElem]⟩
 obtain ⟨_,_,_,ps,hk⟩:=hS.each 0 q t hq ht;obtain ⟨a,c,e,_,_⟩:=hk.shape;obtain ⟨_,_,_,c3⟩:=hS.cells (by simp) hq
 rw[e]at c3 hk
 refine ⟨ob,cap,a,t.kids.length,c,rfl,by simpa using c3,fun hs=>?_⟩
 subst hs;have:t=T:=by simpa using ht.symm
 subst this;exact qb.carry (fun b hb=>⟨hb.2.2,rfl⟩) 9 hk.done
theorem Fst.start (w1:World):Fst w1 (w1.alloc (.cells #[.bool false,.string ⟨#[]⟩,.slice none 0 0,.slice none 0 0] 79)) (.slice (some ⟨w1.heap.size,0,none⟩) 1 1) [zeroT]:=by
 refine ⟨Below.alloc1 w1 _,w1.heap.size,1,[(false,⟨#[]⟩,.slice none 0 0,.slice none 0 0)],fun _=>0,rfl,by unfold maxLen;omega,rfl,?_,rfl,by decide,fun i q t hq ht=>?_⟩
 · exact World.ownsRow_lit w1 _ 1 (nR9 _) (by unfold maxLen;omega) rfl
 · have hi := yx hq;have:i=0:=by simpa using hi
   subst this
   injection hq with hq
   injection ht with ht
   subst hq ht;exact ⟨rfl,rfl,⟨none,0,rfl,nR9 _,nZ9 _,fun h=>absurd rfl h⟩,[],KG.nil _ _ _⟩
section
attribute [local go_sem] qd qeh
set_option maxHeartbeats 4000000 in
theorem qbP (u:List UInt8)(w:World)(hm:xH w)(hs:u.length≤1048576) :
 Calls Tryz.prog 69 #[.string (qa (60::(u++[62])))] w (qev w u):=by
 have HM:Hid (xH w):=hm;obtain ⟨u1,hu1⟩:∃ u1,(if decide (u.getLast?=some 47) then u.dropLast else u)=u1:=⟨_,rfl⟩
 obtain ⟨en,hen⟩:∃ en,decide (u.getLast?=some 47)=en:=⟨_,rfl⟩;have HC1:Hid _:=qcO (u++[62]);have HC2:Hid (∀ W,Calls Tryz.prog 68 #[.string (qa (u++[62])),.string ⟨#[62]⟩] W fun e w'=>e=.returned (.string (qa u))∧w'=W):=fun W=>XA u W (by omega)
 have HC3:Hid (∀ W,Calls Tryz.prog 85 #[.string (qa u),.string ⟨#[47]⟩] W fun e w'=>e=.returned (.tuple #[.string (qa u1),.bool en])∧w'=W):=fun W=>by
  have:=qbT u W (by omega)
  rw[hen,←hen,hu1,hen]at this
  exact this
 have HC4:Hid _:=qcJ u1
 have hl1:u1.length≤1048576:=by
  rw[←hu1];split
  · rw[List.length_dropLast];omega
  · exact hs
 have hz1:=qe u1;have hz2:=qe (u1.dropWhile qg);obtain ⟨hE1,hE2⟩:=qci u1;obtain ⟨nm,hnm⟩:∃ nm,u1.takeWhile qg=nm:=⟨_,rfl⟩;obtain ⟨m0,hm0⟩:∃ m0,u1.dropWhile qg=m0:=⟨_,rfl⟩;rw[hnm,hm0]at hE1
 rw[hm0]at hE2 hz2 HC4
 have hnml:nm.length≤u1.length:=by rw[←hnm];exact (List.takeWhile_prefix _).length_le
 have hm0l:m0.length≤u1.length:=by rw[←hm0];exact q6 _ _
 have HBG:Hid (yq u=if !qI nm then none else match zW m0 with
  | none=>none
  | some L=>some (nm,L,en)):=by
  show _=_
  unfold yq zW;have e1:(if decide (u.getLast?=some 47) then u.dropLast else u)=u1:=hu1
  rw[e1,hnm,hm0,attrs_fuel _ (m0.length+1) m0 (by omega) (Nat.lt_succ_self _),hen]
  cases qI nm<;>cases attrsL (m0.length+1) m0<;>rfl
 clear hm hu1 hen hs hm0 hnm
 go_enter Tryz.func69,Tryz.ntmps69
 go_wp2_with fail;refine Calls.mono (HC1.out _) ?_;rintro e w1 ⟨rfl,rfl⟩;go_wp2_with fail;refine Calls.mono (HC2.out _) ?_;rintro e w2 ⟨rfl,rfl⟩;go_wp2_with fail;refine Calls.mono (HC3.out _) ?_;rintro e w3 ⟨rfl,rfl⟩;go_wp2_with fail;refine Calls.mono (HC4.out _) ?_;rintro e w4 ⟨rfl,hb4⟩;clear HC1 HC2 HC3 HC4;go_wp2_with fail;have hbA:Below w.heap.size w w4:=(Below.alloc1 w _).trans (hb4.mono (by simp))
 have hx0:=(hb4.block _ (xm (heap_alloc_new w _))).trans (heap_alloc_new w (.cells #[.bool false,.string ⟨#[]⟩,.slice none 0 0,.slice none 0 0] 79));have hz4:w.heap.size<w4.heap.size:=xm hx0
 have hBI0:BI w w4.heap.size nm m0 m0 [] (.slice none 0 0) (w4.alloc (.cells #[.bool false,.string (qa nm),.slice none 0 0,.slice none 0 0] 79)) :=
  ⟨hbA.alloc hbA.size _,hz4,(heap_alloc_old _ _ hz4).trans hx0,heap_alloc_new _ _,World.ownsRow_nil _ _ _ _,by simp,by simp⟩
 obtain ⟨tb,htb⟩:∃ tb,w4.heap.size=tb:=⟨_,rfl⟩;rw[htb]at hBI0 ⊢
 generalize (w4.alloc (.cells #[.bool false,.string (qa nm),.slice none 0 0,.slice none 0 0] 79))=w5 at *
 clear hb4 hbA hx0 hz4 htb hE1 hE2
 go_loopg [0] m0.length (fun g u0 wr=>∃ m' L va,m'.length=g∧u0=.string (qa m')∧BI w tb nm m0 m' L va wr)
 case atStart => exact ⟨m0,[],_,rfl,rfl,hBI0⟩
 case round =>
  obtain ⟨m',L,va,hg,rfl,hBI⟩:=hrel;clear hBI0 w5;have HG:Hid _:=hg;clear hg;have hml:m'.length≤1048576:=by have:=hBI.few;omega
  have HT:Hid _:=qcS m' wr (by omega)
  go_wp2_with fail;refine Calls.mono HT.out ?_;rintro e w6 ⟨z,rfl,hze,hb6⟩;clear HT;have hB6:=hBI.later hb6;clear hBI hb6;cases hsp:m'.all qo with
  | true =>
    rw[hsp]at hze
    have HAT:Hid (zW m0=some L):=by show _=_;rw[hB6.att,V3 hsp];simp
    have HB:Hid _:=hB6;have hnz:=qe nm;have hnl:(qa nm).size≤maxLen:=by unfold maxLen;rw[hnz];omega
    have HNC:Hid (∀ W,Calls Tryz.prog 62 #[.string (qa nm)] W fun e w'=>e=.returned (.bool (qI nm))∧Below W.heap.size W w'):=fun W=>by
     have:=j7 (qa nm) W hnl;rw[Vo]at this
     exact this
    have hbn:Below w6.heap.size w6 w6.drew:=(Below.refl _ w6).drew;obtain ⟨ra,rc,rfl,hrl,hrm⟩:=jx hB6.row;have HCX:Hid (∀ W,Below w6.heap.size w6 W→W.cell? ⟨tb,0,none⟩=some (.bool false)∧W.cell? ⟨tb,1,none⟩=some (.string (qa nm))∧W.cell? ⟨tb,2,none⟩=some (.slice ra (qW L).length rc)∧W.cell? ⟨tb,3,none⟩=some (.slice none 0 0)):=fun W hW=>j4 (HB.out.later hW).box
    have HCY:Hid (∀ W x0 x1 x2 x3,Below w6.heap.size w6 W→((((W.setCell ⟨w.heap.size,0,none⟩ x0).setCell ⟨w.heap.size,1,none⟩ x1).setCell ⟨w.heap.size,2,none⟩ x2).setCell ⟨w.heap.size,3,none⟩ x3).cell? ⟨tb,0,none⟩=some (.bool false)∧((((W.setCell ⟨w.heap.size,0,none⟩ x0).setCell ⟨w.heap.size,1,none⟩ x1).setCell ⟨w.heap.size,2,none⟩ x2).setCell ⟨w.heap.size,3,none⟩ x3).cell? ⟨tb,1,none⟩=some (.string (qa nm))∧((((W.setCell ⟨w.heap.size,0,none⟩ x0).setCell ⟨w.heap.size,1,none⟩ x1).setCell ⟨w.heap.size,2,none⟩ x2).setCell ⟨w.heap.size,3,none⟩ x3).cell? ⟨tb,2,none⟩=some (.slice ra (qW L).length rc)∧((((W.setCell ⟨w.heap.size,0,none⟩ x0).setCell ⟨w.heap.size,1,none⟩ x1).setCell ⟨w.heap.size,2,none⟩ x2).setCell ⟨w.heap.size,3,none⟩ x3).cell? ⟨tb,3,none⟩=some (.slice none 0 0)):=fun W x0 x1 x2 x3 hW=>by
     have hL:=HB.out.later hW;exact j4 (((Jj hL.res x0 x1 x2 x3).2.1 tb (by have:=hL.big;omega)).trans hL.box)
    clear hB6 hnz hnl;go_wp2_with fail
    go_region_held3 (fun W:World=>W.cell? ⟨tb,0,none⟩=some (.bool false)∧W.cell? ⟨tb,1,none⟩=some (.string (qa nm))∧W.cell? ⟨tb,2,none⟩=some (.slice ra (qW L).length rc)∧W.cell? ⟨tb,3,none⟩=some (.slice none 0 0))
     (first|with_reducible exact HCX.out _ hbn|exact HCX.out _ hbn|exact HCY.out _ _ _ _ _ hbn)
     (first
      | (go_at_call 62;refine (Calls.mono (HNC.out _) ?_);rintro e w7 ⟨rfl,hb7⟩;have hbn:=hbn.trans (hb7.mono hbn.size);obtain ⟨q0,q1,q2,q3⟩:=j4 (HB.out.later hbn).res;have k0:=fH9 (HB.out.later hbn).res 0;have k1:=fH9 (HB.out.later hbn).res 1;have k2:=fH9 (HB.out.later hbn).res 2;have k3:=fH9 (HB.out.later hbn).res 3))
    all_goals
     go_wp2_with fail;have hL:=HB.out.later hbn;obtain ⟨r0,r1,r2⟩:=Jj hL.res (.bool false) (.string (qa nm)) (.slice ra (qW L).length rc) (.slice none 0 0);obtain ⟨y0,y1,y2,y3⟩:=j4 r0;have hat:=hL.attrs r1;have hBf:=r2 (nR9 _) hL.below;refine bodyPost_ret (v:=.tuple #[.agg #[.bool false,.string (qa nm),.slice ra (qW L).length rc,.slice none 0 0],.bool en,.bool (qI nm)]) (by simp[results,Tryz.results69,go_sem,y0,y1,y2,y3]) rfl ?_
     refine ⟨hBf,_,_,_,_,_,_,rfl,?_⟩;rw[HBG.out,HAT.out];cases qI nm with
     | false=>rfl
     | true=>exact ⟨rfl,rfl,rfl,hat⟩
  | false =>
    rw[hsp]at hze
    obtain ⟨rest,na,af,f2,vl,nx,f3,vm,f4,hr,hc1,hc2,hmv,l0,l1,l2,l3,hat,hlt⟩:=qbO hsp;have HAT:Hid _:=hat;have HLT:Hid _:=hlt;have HB:Hid _:=hB6;have HT:Hid _:=ZR m' w6;rw[hr]at HT
    have hzr:=qe rest;have hzm:=qe m'
    have HC1:Hid (∀ W,Below w6.heap.size w6 W→Calls Tryz.prog 9 #[.string (qa rest),.string ⟨#[61,34]⟩] W fun e w'=>e=.returned (.tuple #[.string (qa na),.string (qa af),.bool f2])∧Below W.heap.size W w'):=fun W hW=>by
     have:=KR rest [61,34] W (by omega) (HM.out.later (HB.out.later hW).below)
     rw[hc1]at this
     exact this
    have HC2:Hid (∀ W,Below w6.heap.size w6 W→Calls Tryz.prog 9 #[.string (qa af),.string ⟨#[34]⟩] W fun e w'=>e=.returned (.tuple #[.string (qa vl),.string (qa nx),.bool f3])∧Below W.heap.size W w'):=fun W hW=>by
     have:=KR af [34] W (by omega) (HM.out.later (HB.out.later hW).below)
     rw[hc2]at this
     exact this
    have HC3:Hid (∀ W,Below w6.heap.size w6 W→Calls Tryz.prog 34 #[.string (qa vl),.bool true] W fun e w'=>e=.returned (.tuple #[.string (qa vm),.bool f4])∧Below W.heap.size W w'):=fun W hW=>by
     have:=Za vl true W (HM.out.later (HB.out.later hW).below) (by omega)
     rw[hmv]at this
     exact this
    have HC4:Hid (∀ W,Calls Tryz.prog 62 #[.string (qa na)] W fun e w'=>e=.returned (.bool (qI na))∧Below W.heap.size W w'):=fun W=>by
     have:=j7 (qa na) W (by rw[qe];unfold maxLen;omega)
     rw[Vo]at this
     exact this
    clear hat hlt hB6 hc1 hc2 hmv hr;go_wp2_with fail;refine Calls.mono HT.out ?_;rintro e w7 ⟨rfl,hb7⟩;clear HT;go_wp2_with fail;refine Calls.mono (HC1.out _ hb7) ?_;rintro e w8 ⟨rfl,hb8⟩;have hb8:=hb7.trans (hb8.mono hb7.size);clear HC1 hb7;go_wp2_with fail;refine Calls.mono (HC2.out _ hb8) ?_;rintro e w9 ⟨rfl,hb9⟩;have hb9:=hb8.trans (hb9.mono hb8.size);clear HC2 hb8;go_wp2_with fail;refine Calls.mono (HC3.out _ hb9) ?_;rintro e w10 ⟨rfl,hb10⟩;have hb10:=hb9.trans (hb10.mono hb9.size);clear HC3 hb9;have hBI:=HB.out.later hb10;clear HB hb10;obtain ⟨ra,rc,rfl,hrl,hrm⟩:=jx hBI.row
    by_cases hq:rest.length=m'.length
    · have hqb : ((rest.length : Int) == (m'.length : Int)) = true := by rw[hq];exact beq_self_eq_true _
      rw[decide_eq_true hq]at HAT
      clear hq HC4;have HV:Hid (zW m0=none):=by show _=_;rw[hBI.att,HAT.out];simp
      have hres:=hBI.res;obtain ⟨p0,p1,p2,p3⟩:=j4 hBI.box;obtain ⟨q0,q1,q2,q3⟩:=j4 hBI.res;have k0:=fH9 hres 0;have k1:=fH9 hres 1;have k2:=fH9 hres 2;have k3:=fH9 hres 3;have HBn:Hid _:=hBI;clear hBI hres HAT HLT;go_wp2_with fail;obtain ⟨r0,r1,r2⟩:=Jj HBn.out.res (.bool false) (.string (qa nm)) (.slice ra (qW L).length rc) (.slice none 0 0);obtain ⟨y0,y1,y2,y3⟩:=j4 r0;refine bodyPost_ret (v:=.tuple #[.agg #[.bool false,.string (qa nm),.slice ra (qW L).length rc,.slice none 0 0],.bool en,.bool false]) (by simp[results,Tryz.results69,go_sem,y0,y1,y2,y3]) rfl ?_
      refine ⟨r2 (nR9 _) HBn.out.below,_,_,_,_,_,_,rfl,?_⟩;rw[HBG.out,HV.out];cases qI nm<;>rfl
    have hqb:((rest.length:Int)==(m'.length:Int))=false:=by rw[beq_eq_false_iff_ne];omega
    rw[decide_eq_false hq]at HAT HLT
    cases f2 with
    | false =>
      clear HC4 hq;have HV:Hid (zW m0=none):=by show _=_;rw[hBI.att,HAT.out];simp
      have hres:=hBI.res;obtain ⟨p0,p1,p2,p3⟩:=j4 hBI.box;obtain ⟨q0,q1,q2,q3⟩:=j4 hBI.res;have k0:=fH9 hres 0;have k1:=fH9 hres 1;have k2:=fH9 hres 2;have k3:=fH9 hres 3;have HBn:Hid _:=hBI;clear hBI hres HAT HLT;go_wp2_with fail;obtain ⟨r0,r1,r2⟩:=Jj HBn.out.res (.bool false) (.string (qa nm)) (.slice ra (qW L).length rc) (.slice none 0 0);obtain ⟨y0,y1,y2,y3⟩:=j4 r0;refine bodyPost_ret (v:=.tuple #[.agg #[.bool false,.string (qa nm),.slice ra (qW L).length rc,.slice none 0 0],.bool en,.bool false]) (by simp[results,Tryz.results69,go_sem,y0,y1,y2,y3]) rfl ?_
      refine ⟨r2 (nR9 _) HBn.out.below,_,_,_,_,_,_,rfl,?_⟩;rw[HBG.out,HV.out];cases qI nm<;>rfl
    | true =>
    cases f3 with
    | false =>
      clear HC4 hq;have HV:Hid (zW m0=none):=by show _=_;rw[hBI.att,HAT.out];simp
      have hres:=hBI.res;obtain ⟨p0,p1,p2,p3⟩:=j4 hBI.box;obtain ⟨q0,q1,q2,q3⟩:=j4 hBI.res;have k0:=fH9 hres 0;have k1:=fH9 hres 1;have k2:=fH9 hres 2;have k3:=fH9 hres 3;have HBn:Hid _:=hBI;clear hBI hres HAT HLT;go_wp2_with fail;obtain ⟨r0,r1,r2⟩:=Jj HBn.out.res (.bool false) (.string (qa nm)) (.slice ra (qW L).length rc) (.slice none 0 0);obtain ⟨y0,y1,y2,y3⟩:=j4 r0;refine bodyPost_ret (v:=.tuple #[.agg #[.bool false,.string (qa nm),.slice ra (qW L).length rc,.slice none 0 0],.bool en,.bool false]) (by simp[results,Tryz.results69,go_sem,y0,y1,y2,y3]) rfl ?_
      refine ⟨r2 (nR9 _) HBn.out.below,_,_,_,_,_,_,rfl,?_⟩;rw[HBG.out,HV.out];cases qI nm<;>rfl
    | true =>
    cases f4 with
    | false =>
      clear HC4 hq;have HV:Hid (zW m0=none):=by show _=_;rw[hBI.att,HAT.out];simp
      have hres:=hBI.res;obtain ⟨p0,p1,p2,p3⟩:=j4 hBI.box;obtain ⟨q0,q1,q2,q3⟩:=j4 hBI.res;have k0:=fH9 hres 0;have k1:=fH9 hres 1;have k2:=fH9 hres 2;have k3:=fH9 hres 3;have HBn:Hid _:=hBI;clear hBI hres HAT HLT;go_wp2_with fail;obtain ⟨r0,r1,r2⟩:=Jj HBn.out.res (.bool false) (.string (qa nm)) (.slice ra (qW L).length rc) (.slice none 0 0);obtain ⟨y0,y1,y2,y3⟩:=j4 r0;refine bodyPost_ret (v:=.tuple #[.agg #[.bool false,.string (qa nm),.slice ra (qW L).length rc,.slice none 0 0],.bool en,.bool false]) (by simp[results,Tryz.results69,go_sem,y0,y1,y2,y3]) rfl ?_
      refine ⟨r2 (nR9 _) HBn.out.below,_,_,_,_,_,_,rfl,?_⟩;rw[HBG.out,HV.out];cases qI nm<;>rfl
    | true =>
    clear hq;go_wp2_with fail;refine Calls.mono (HC4.out _) ?_;rintro e w11 ⟨rfl,hb11⟩;have hBI:=hBI.later hb11;clear HC4 hb11;cases hok:qI na with
    | false =>
      rw[hok]at HAT
      clear hok;have HV:Hid (zW m0=none):=by show _=_;rw[hBI.att,HAT.out];simp
      have hres:=hBI.res;obtain ⟨p0,p1,p2,p3⟩:=j4 hBI.box;obtain ⟨q0,q1,q2,q3⟩:=j4 hBI.res;have k0:=fH9 hres 0;have k1:=fH9 hres 1;have k2:=fH9 hres 2;have k3:=fH9 hres 3;have HBn:Hid _:=hBI;clear hBI hres HAT HLT;go_wp2_with fail;obtain ⟨r0,r1,r2⟩:=Jj HBn.out.res (.bool false) (.string (qa nm)) (.slice ra (qW L).length rc) (.slice none 0 0);obtain ⟨y0,y1,y2,y3⟩:=j4 r0;refine bodyPost_ret (v:=.tuple #[.agg #[.bool false,.string (qa nm),.slice ra (qW L).length rc,.slice none 0 0],.bool en,.bool false]) (by simp[results,Tryz.results69,go_sem,y0,y1,y2,y3]) rfl ?_
      refine ⟨r2 (nR9 _) HBn.out.below,_,_,_,_,_,_,rfl,?_⟩;rw[HBG.out,HV.out];cases qI nm<;>rfl
    | true =>
      rw[hok]at HAT HLT
      have HAN:Hid (zW m0=(zW nx).map ((L++[(na,vm)])++·)):=by
       show _=_
       rw[hBI.att,HAT.out,if_neg (by simp),Option.map_map]
       congr 1
       funext x
       simp
      have hnx:nx.length<m'.length:=HLT.out rfl;obtain ⟨p0,p1,p2,p3⟩:=j4 hBI.box;have k2:=fH9 hBI.box 2;have HBn:Hid _:=hBI;have hfl:(qW L).length≤1048576:=by rw[(jZ L).length_eq];have:=hBI.few;omega
      obtain ⟨i0,hi,hz0,hzz1,hzz2⟩:=info_parts attrInfo;have hszb:=hBI.below.size;clear HAT HLT hBI hok;go_wp2_with (at_builtin;refine wpList_append_own_at _ rfl _ _ 77 rfl w.heap.size 93 i0 _ 2 32 Tryz.underlying77 hi hz0 hzz1 hzz2 rfl (by decide) _ _ _ rfl (HBn.out.row.alloc _) ⟨w11.heap.size,0,none⟩ 1 1 [.string (qa na),.string (qa vm)] ?qc0 ?qc1 ?qc2 ?qc3 ?qc4 ?qc5 ?qc6 ?_)
      case qc0 => rfl
      case qc1 => rfl
      case qc2 => exact qdL _ _ _ _
      case qc3 => intro z hz;simp at hz;rcases hz with rfl|rfl<;>rfl
      case qc4 => unfold maxLen;omega
      case qc5 => omega
      case qc6 => simp;omega
      intro v' w12 hown12 hgr12 _ hat12;obtain ⟨ag,acap,rfl,hag,hac,ham⟩:=Yy hown12;have hBJ:=BI.start (x:=(na,vm)) HBn.out hown12 hgr12 hat12;obtain ⟨p0,p1,p2,p3⟩:=j4 hBJ.1;have k2:=fH9 hBJ.1 2;have HBJ:Hid _:=hBJ.2;have HFW:Hid (L.length+1+nx.length≤m0.length):=by show _≤_;have:=HBn.out.few;omega
      clear hBJ hown12 hgr12 hat12 HBn hb8 hb9 hb10 hBI l0 l1 l2 hzr hzm hqb;go_wp2_with fail
      generalize w12.setCell ⟨tb,2,none⟩ (.slice (some ⟨ag,0,none⟩) ((qW L).length+1) acap)=w13 at *
      clear p0 p1 p2 p3 k2;obtain ⟨A,hA⟩:∃ A,qW L=A:=⟨_,rfl⟩;rw[hA]at HBJ hfl hac ⊢
      go_loopg [17] A.length (fun g uk wz=>∃ k:Nat,k=g∧uk=.int .i64 (k:Int)∧BJ w tb nm A (na,vm) k (.slice (some ⟨ag,0,none⟩) (A.length+1) acap) wz)
      case atStart => exact ⟨_,rfl,rfl,HBJ.out⟩
      case round =>
       obtain ⟨k,rfl,rfl,hBK⟩:=hrel;clear HBJ;cases k with
       | zero =>
         go_wp2_with fail;subst hA
         go_roundg nx.length
         case measure => have:=HG.out;omega
         case rel => exact ⟨nx,L++[(na,vm)],_,rfl,rfl,hBK.done rfl HAN.out HFW.out⟩
       | succ k =>
         have hle:=hBK.le;obtain ⟨y,hy⟩:∃ y,A[k]?=some y:=⟨A[k]'(by omega),by rw[List.getElem?_eq_getElem (by omega)]⟩
         have hgy:A.getD k default=y:=by rw[List.getD_eq_getElem?_getD,hy];rfl
         have hiy:(A.take (k+1)++(na,vm)::A.drop (k+1))[k]?=some y:=by
          rw[List.getElem?_append_left (by rw[List.length_take];omega),List.getElem?_take,if_pos (by omega),hy]
         obtain ⟨c0,c1⟩:=hBK.cells hiy;obtain ⟨p0,p1,p2,p3⟩:=j4 hBK.box
         by_cases hlt:na<y.1
         · have hbl : Op.bytesLess (qa na).toList (qa y.1).toList = true := by rw[qD, qD, less_lt];exact decide_eq_true hlt
           have hix:(A.take (k+1)++(na,vm)::A.drop (k+1))[k+1]?=some (na,vm):=by
            rw[List.getElem?_append_right (by rw[List.length_take];omega),List.length_take,Nat.min_eq_left (by omega),Nat.sub_self];rfl
           obtain ⟨d0,d1⟩:=hBK.cells hix;have hfz:∀ j,wr.frozen? ⟨ag,j,none⟩=false:=fun j=>World.ownsRow.frozenAt hBK.row j
           have hw1:IntKind.i64.wrap (((k+1:Nat):Int)-1)=(k:Int):=by
            rw[IntKind.wrap_i64];omega
           have hw2:IntKind.i64.wrap (k:Int)=(k:Int):=by rw[IntKind.wrap_i64];omega
           have HBK:Hid _:=hBK.swap hag hy hlt;have hagt:ag≠tb:=fun e=>qv hBK.row (b:=tb) (B':=0) ⟨nZ9 _,_,_,hBK.box⟩ (by decide) (by rw[←e];rfl)
           have HTB:Hid (∀ (W:World) j v,W.cell? ⟨tb,2,none⟩=some (.slice (some ⟨ag,0,none⟩) (A.length+1) acap)→(W.setCell ⟨ag,j,none⟩ v).cell? ⟨tb,2,none⟩=some (.slice (some ⟨ag,0,none⟩) (A.length+1) acap)):=fun W j v h=>(World.cell?_of_block (heap_setCell_other W ⟨ag,j,none⟩ tb v (Ne.symm hagt))).trans h
           clear hBK hiy hgy hy hix;go_wp2_with fail;refine wp_region_held_drew (S:=fun W:World=>W.cell? ⟨tb,2,none⟩=some (.slice (some ⟨ag,0,none⟩) (A.length+1) acap)) (by kernel_rfl) p2 (fun hHeld=>?_)
           refine wqi [0,1,2,3,4,5,6,7,8,9,10,11,13,14,15,16] ?_
           repeat (refine wqt (v:=?_) rfl (by kernel_rfl) (fun _ _ _ h=>h) (by rfl) (by assumption) ?_ ?_;rotate_left;(· (intro w hSw;(try dsimp only at hSw);go_simp;(try simp only[hw2,Int.toNat_natCast]);(try rw[if_pos (by omega)]);try with_reducible rfl));try simp only[Act.put,List.getElem_toArray,List.getElem_cons_succ,List.getElem_cons_zero,List.setIfInBounds_toArray,List.set_cons_zero,List.set_cons_succ])
           refine wqn ?_;refine wpAnyH_ready (rs:=[12,17]) (by kernel_rfl) (by simp) ?_
           refine AllReadyH.cons rfl (fun K hK=>?_) (AllReadyH.cons rfl (fun K hK=>?_) AllReadyH.nil)
           all_goals (go_simp;refine hK.out _ _ p2 (fun hHeld=>?_);clear hK K;try simp only[Act.put,List.getElem_toArray,List.getElem_cons_succ,List.getElem_cons_zero,List.setIfInBounds_toArray,List.set_cons_zero,List.set_cons_succ])
           rotate_left;refine wpAnyH_ready (rs:=[12]) (by kernel_rfl) (by simp) ?_
           refine AllReadyH.cons rfl (fun K hK=>?_) AllReadyH.nil
           go_simp;refine hK.out _ _ p2 (fun hHeld=>?_)
           clear hK K
           try simp only[Act.put,List.getElem_toArray,List.getElem_cons_succ,List.getElem_cons_zero,List.setIfInBounds_toArray,List.set_cons_zero,List.set_cons_succ]
           rotate_left;refine wpAnyH_ready (rs:=[17]) (by kernel_rfl) (by simp) ?_
           refine AllReadyH.cons rfl (fun K hK=>?_) AllReadyH.nil
           go_simp;refine hK.out _ _ p2 (fun hHeld=>?_)
           clear hK K
           try simp only[Act.put,List.getElem_toArray,List.getElem_cons_succ,List.getElem_cons_zero,List.setIfInBounds_toArray,List.set_cons_zero,List.set_cons_succ]
           all_goals
            refine wqi [18] ?_
            repeat (refine wqt (v:=?_) rfl (by kernel_rfl) (fun _ _ _ h=>h) (by rfl) (by assumption) ?_ ?_;rotate_left;(· (intro w hSw;(try dsimp only at hSw);go_simp;(try simp only[hw2,Int.toNat_natCast]);(try rw[if_pos (by omega)]);try with_reducible rfl));try simp only[Act.put,List.getElem_toArray,List.getElem_cons_succ,List.getElem_cons_zero,List.setIfInBounds_toArray,List.set_cons_zero,List.set_cons_succ])
            refine wqn ?_;refine wpAnyH_ready (rs:=[19]) (by kernel_rfl) (by simp) ?_
            refine AllReadyH.cons rfl (fun K hK=>?_) AllReadyH.nil
            go_simp;refine hK.out _ _ (HTB.out _ _ _ (HTB.out _ _ _ p2)) (fun hHeld=>?_)
            clear hK K
            try simp only[Act.put,List.getElem_toArray,List.getElem_cons_succ,List.getElem_cons_zero,List.setIfInBounds_toArray,List.set_cons_zero,List.set_cons_succ]
            refine wqi [20] ?_
            repeat (refine wqt (v:=?_) rfl (by kernel_rfl) (fun _ _ _ h=>h) (by rfl) (by assumption) ?_ ?_;rotate_left;(· (intro w hSw;(try dsimp only at hSw);go_simp;(try simp only[hw2,Int.toNat_natCast]);(try rw[if_pos (by omega)]);try with_reducible rfl));try simp only[Act.put,List.getElem_toArray,List.getElem_cons_succ,List.getElem_cons_zero,List.setIfInBounds_toArray,List.set_cons_zero,List.set_cons_succ])
            refine wqn ?_;refine wpAnyH_ready (rs:=[21]) (by kernel_rfl) (by simp) ?_
            refine AllReadyH.cons rfl (fun K hK=>?_) AllReadyH.nil
            go_simp;refine hK.out _ _ (HTB.out _ _ _ (HTB.out _ _ _ (HTB.out _ _ _ (HTB.out _ _ _ p2)))) (fun hHeld=>?_)
            clear hK K
            try simp only[Act.put,List.getElem_toArray,List.getElem_cons_succ,List.getElem_cons_zero,List.setIfInBounds_toArray,List.set_cons_zero,List.set_cons_succ]
            refine wpAnyH_done (by kernel_rfl) ?_ _
            have HBF:Hid _:=HBK.out.drew;clear hHeld HTB HBK p0 p1 p2 p3 c0 c1 d0 d1 hfz;go_wp2_with fail
            go_roundg k
            case measure => omega
            case rel => exact ⟨k,rfl,by go_num,HBF.out⟩
         · have hbl : Op.bytesLess (qa na).toList (qa y.1).toList = false := by rw[qD, qD, less_lt];exact decide_eq_false hlt
           have HP:Hid (xU na A (k+1)=k+1):=by show _=_;rw[xU,if_neg (by rw[hgy];exact hlt)]
           have HBK:Hid _:=hBK;clear hBK hiy hgy hy;go_wp2_with fail;subst hA
           go_roundg nx.length
           case measure => have:=HG.out;omega
           case rel => exact ⟨nx,L++[(na,vm)],_,rfl,rfl,HBK.out.done HP.out HAN.out HFW.out⟩
end
section
attribute [local go_sem] qd
def qew (w:World)(s:List UInt8)(e:Ending)(w':World):Prop:=Below w.heap.size w w'∧∃ v b,e=.returned (.tuple #[v,.bool b])∧match ze s with
 | none=>b=false
 | some l=>b=true∧qb (fun b=>w.heap.size≤b) w' 9 v l
set_option maxHeartbeats 8000000 in
theorem qai (s:List UInt8)(w:World)(hm:xH w)(hs:s.length≤1048576) :
 Calls Tryz.prog 37 #[.string (qa s)] w (qew w s):=by
 have HM:Hid (xH w):=hm;clear hm;have HFN:Hid (∀ {ps},qT s=some ps→foldD [zeroT] ps=none→ze s=none):=fun h1 h2=>by unfold ze;rw[Qf,h1];simp only;rw[h2]
 go_enter Tryz.func37,Tryz.ntmps37
 go_wp2_with fail;refine Calls.mono (qaM s w hs) ?_;rintro e w1 ⟨hb1,hp⟩;cases hps:qT s with
 | none =>
   rw[hps]at hp
   subst hp;have HV:Hid (ze s=none):=by show _=_;unfold ze;rw[Qf,hps]
   clear hps;go_wp2_with fail;refine bodyPost_ret (v:=.tuple #[.slice none 0 0,.bool false]) (by simp[results,Tryz.results37,go_sem]) rfl ?_
   exact ⟨hb1,_,_,rfl,by rw[HV.out]⟩
 | some ps =>
   rw[hps]at hp
   obtain ⟨v,rfl,hrow⟩:=hp;obtain ⟨la,lc,rfl,hl1,hl2⟩:=jx hrow;obtain ⟨hok,hpl⟩:=pieces_ok _ _ _ hps;have hpl':ps.length≤1048576:=Nat.le_trans hpl hs;have HOK:Hid _:=hok;have HROW:Hid _:=hrow;have HB1:Hid _:=hb1;have HPS:Hid _:=hps;have HFS:Hid _:=Fst.start w1;unfold maxLen at hl2
   clear hrow hok hpl hps hb1;go_wp2_with fail
   generalize (w1.alloc (.cells #[.bool false,.string ⟨#[]⟩,.slice none 0 0,.slice none 0 0] 79))=w2 at *
   go_loopg [27,6] ps.length (fun g i vo wr=>∃ k T st,k+g=ps.length∧i=.int .i64 (k:Int)∧Fst w1 wr vo (T::st)∧foldD [zeroT] ps=foldD (T::st) (ps.drop k)∧(∀ t∈T::st,t.kids.length≤k))
   case atStart => exact ⟨0,zeroT,[],by omega,rfl,HFS.out,rfl,fun t ht=>by rw[List.mem_singleton]at ht;subst ht;exact nR9 _⟩
   case round =>
    obtain ⟨k,T,st,hk,rfl,hF,hfo,hkl⟩:=hrel;have HFO:Hid _:=hfo;have HKL:Hid _:=hkl;have HK:Hid _:=hk;clear HFS hfo hkl
    by_cases hkp:k<ps.length
    · have hkpi : (k : Int) < (ps.length : Int) := by omega
      obtain ⟨p,hp⟩:∃ p,ps[k]?=some p:=⟨ps[k],List.getElem?_eq_getElem hkp⟩;have hpk:=HOK.out p (List.mem_of_getElem? hp)
      have HDR:Hid (ps.drop k=p::ps.drop (k+1)):=by
       show _=_
       rw[List.drop_eq_getElem_cons hkp];rw[List.getElem?_eq_getElem hkp]at hp
       injection hp with hp
       rw[hp]
      obtain ⟨lb,rfl,hlb,hcp⟩:∃ lb,la=some ⟨lb,0,none⟩∧lb<w1.heap.size∧w1.cell? ⟨lb,k,none⟩=some (.string (qa p)):=by
       rcases HROW.out.2 with ⟨h0,h00⟩|⟨g,cap,cur,hv,_,hh,_⟩
       · omega
       · injection hv with hv _ hv3
         subst hv hv3;refine ⟨g,rfl,xm hh,?_⟩;rw[World.ownsRow.cellAt HROW.out k (by omega)]
         unfold jV;rw[List.getElem?_map,hp];rfl
      have hcp':wr.cell? ⟨lb,k,none⟩=some (.string (qa p)):=(hF.1.cell (p:=⟨lb,k,none⟩) hlb).trans hcp;obtain ⟨ob,cap,ka,kc,F,qs,q,qp,rfl,hT⟩:=hF.top;have hBw:Below w.heap.size w wr:=HB1.out.trans (hT.below.mono HB1.out.size);have HMw:Hid _:=HM.out.later hBw;have hst9:st.length+1≤9:=by have:=hT.stk.few;simpa using this
      have hkT:T.kids.length≤1048576:=by have:=HKL.out T (List.mem_cons_self ..);omega
      obtain ⟨hpN,hpk⟩:=hpk;have hpl1:p.length≤1048576:=Nat.le_trans hpN hs;have HT:Hid _:=hT;obtain ⟨t0,t1,t2,t3,tf,tlt,tB,tk1,tk2⟩:=hT.cells;have hcap:=hT.capm;unfold maxLen at hcap tk2
      clear hT hF hcp hp hpN HROW HOK
      rcases hpk with ⟨m,rfl,hmg⟩|⟨c,u,rfl,hc⟩
      · have hz0 : (qa (60 :: (m ++ [62]))).size = m.length + 2 := by rw[qe];simp
        have he0:(((qa (60::(m++[62])))[0]'(by rw[hz0];omega)).toNat:Int)=60:=rfl
        have hml:m.length≤1048576:=by simp only[List.length_cons,List.length_append,List.length_nil]at hpl1;omega
        have HMD:Hid _:=qbY (T::st) HDR.out;clear HDR
        by_cases h47:∃ u,m=47::u
        · obtain ⟨u, rfl⟩ := h47;have HHP:Hid _:=qds u wr;have hul:u.length≤1048576:=by simp only[List.length_cons]at hml;omega
          have HSF:Hid (∀ W,Calls Tryz.prog 68 #[.string (qa (u++[62])),.string ⟨#[62]⟩] W fun e w'=>e=.returned (.string (qa u))∧w'=W):=fun W=>XA u W (by omega)
          have HTG:Hid (∀ W,Calls Tryz.prog 67 #[.string (qa u),.string ⟨#[32,10]⟩] W fun e w'=>e=.returned (.string (qa (ZS u)))∧Below W.heap.size W w'):=fun W=>qcR u W (by omega)
          have hE:=qfk u;have hzz:(qa (60::47::(u++[62]))).size=u.length+3:=by rw[qe];simp
          have he1:(((qa (60::47::(u++[62])))[0]'(by rw[hzz];exact Nat.succ_pos _)).toNat:Int)=60:=rfl
          have hcq:wr.cell? ⟨lb,k,none⟩=some (.string (qa (60::47::(u++[62])))):=hcp';have HCL:Hid _:=qaz u (T::st);clear he0 hz0 hcp';go_wp2_with fail;refine Calls.mono HHP.out ?_;rintro e w3 ⟨rfl,rfl⟩;clear HHP;go_wp2_with fail;refine Calls.mono (HSF.out _) ?_;rintro e w4 ⟨rfl,rfl⟩;clear HSF;go_wp2_with fail;refine Calls.mono (HTG.out _) ?_;rintro e w5 ⟨rfl,hb5⟩;clear HTG;have HT5:Hid _:=HT.out.later hb5;have HBF:Hid _:=hBw.trans (hb5.mono hBw.size);obtain ⟨nu,hnu⟩:∃ nu,qa (ZS u)=nu:=⟨_,rfl⟩;rw[hnu];obtain ⟨t0,t1,t2,t3,tf,tlt,tB,tk1,tk2⟩:=HT5.out.cells;cases st with
          | nil =>
            have HV:Hid (ze s=none):=HFN.out HPS.out (by rw[HFO.out,HMD.out,HCL.out];rfl)
            clear HMD HFO HPS HFN HCL;go_wp2_with fail;refine bodyPost_ret (v:=.tuple #[.slice none 0 0,.bool false]) (by simp[results,Tryz.results37,go_sem]) rfl ?_
            exact ⟨HBF.out,_,_,rfl,by rw[HV.out]⟩
          | cons T2 st =>
            obtain ⟨ka2,kc2,F2,qs2,q2,ps2,hT2,hq1,hq2,hq3,hqA,hqT⟩:=HT5.out.pop;obtain ⟨aa,ac,hva,_,_⟩:=hqA.shape2;have HT2:Hid _:=hT2;obtain ⟨s0,s1,s2,s3,sf,slt,sB,sk1,sk2⟩:=hT2.cells;have hkT2:T2.kids.length≤1048576:=by have:=HKL.out T2 (List.mem_cons_of_mem _ (List.mem_cons_self ..));omega
            simp only[List.length_cons]at t0 t1 t2 t3 hst9
            rw[hva]at t2
            rw[hq1]at t0
            by_cases hn:nu=T.s
            · have HFD:Hid (foldD [zeroT] ps=foldD (yQ T2 T::st) (ps.drop (k+1))):=by
               show _=_
               rw[HFO.out,HMD.out,HCL.out,Xf,hnu,if_pos hn];rfl
              subst hn;clear hnu HMD HFO HCL hcq hE hzz he1 hT2;go_wp2_with fail;refine wp_region_held_drew (S:=fun _:World=>True) (by kernel_rfl) trivial (fun hHeld=>?_)
              refine wpAnyH_ready (rs:=[0]) (by kernel_rfl) (by simp) ?_
              refine AllReadyH.cons rfl (fun K hK=>?_) AllReadyH.nil
              go_simp;refine hK.out _ _ trivial (fun hHeld=>?_)
              clear hK K
              try simp only[Act.put,List.getElem_toArray,List.getElem_cons_succ,List.getElem_cons_zero,List.setIfInBounds_toArray,List.set_cons_zero,List.set_cons_succ]
              refine wpAnyH_ready (rs:=[1,2]) (by kernel_rfl) (by simp) ?_
              refine AllReadyH.cons rfl (fun K hK=>?_) (AllReadyH.cons rfl (fun K hK=>?_) AllReadyH.nil)
              all_goals (go_simp;refine hK.out _ _ trivial (fun hHeld=>?_);clear hK K;try simp only[Act.put,List.getElem_toArray,List.getElem_cons_succ,List.getElem_cons_zero,List.setIfInBounds_toArray,List.set_cons_zero,List.set_cons_succ])
              rotate_left;rotate_left
              · skip
                refine wpAnyH_ready (rs:=[2]) (by kernel_rfl) (by simp) ?_
                refine AllReadyH.cons rfl (fun K hK=>?_) AllReadyH.nil
                go_simp;refine hK.out _ _ trivial (fun hHeld=>?_)
                clear hK K
                try simp only[Act.put,List.getElem_toArray,List.getElem_cons_succ,List.getElem_cons_zero,List.setIfInBounds_toArray,List.set_cons_zero,List.set_cons_succ]
                refine wpAnyH_ready (rs:=[3]) (by kernel_rfl) (by simp) ?_
                refine AllReadyH.cons rfl (fun K hK=>?_) AllReadyH.nil
                go_simp;refine hK.out _ _ trivial (fun hHeld=>?_)
                clear hK K
                try simp only[Act.put,List.getElem_toArray,List.getElem_cons_succ,List.getElem_cons_zero,List.setIfInBounds_toArray,List.set_cons_zero,List.set_cons_succ]
                refine wpAnyH_done (by kernel_rfl) ?_ _
                have hb6:Below w5.heap.size w5 (w5.alloc (.cells #[.bool false] 4)).drew:=(Below.alloc1 w5 _).drew
                generalize (w5.alloc (.cells #[.bool false] 4)).drew=w6 at *
                have HT6:Hid _:=HT2.out.later hb6;have hroom:st.length+1+1≤cap:=HT.out.room;have hroomi:(st.length:Int)+1≤(cap:Int):=by omega
                have HQA:Hid _:=hqA.later hb6;have HQT:Hid _:=qb.later hb6 _ hqT;have tt0:=(hb6.cell (p:=⟨ob,(st.length+1)*4,none⟩) tlt).trans t0;have tt1:=(hb6.cell (p:=⟨ob,(st.length+1)*4+1,none⟩) tlt).trans t1;have tt2:=(hb6.cell (p:=⟨ob,(st.length+1)*4+2,none⟩) tlt).trans t2;have tt3:=(hb6.cell (p:=⟨ob,(st.length+1)*4+3,none⟩) tlt).trans t3;obtain ⟨r0,r1,r2,r3,rf,rlt,rB,rk1,rk2⟩:=HT6.out.cells;have hw2:IntKind.i64.wrap (st.length:Int)=(st.length:Int):=by rw[IntKind.wrap_i64];omega
                have HSB:Hid (∀ W:World,W.heap[ob]?=w6.heap[ob]?→W.cell? ⟨ob,(st.length+1)*4,none⟩=some (.bool T.text)∧W.cell? ⟨ob,(st.length+1)*4+1,none⟩=some (.string T.s)∧W.cell? ⟨ob,(st.length+1)*4+2,none⟩=some (.slice aa T.attrs.length ac)∧W.cell? ⟨ob,(st.length+1)*4+3,none⟩=some (.slice ka T.kids.length kc)):=fun W hW=>⟨(World.cell?_of_block hW).trans tt0,(World.cell?_of_block hW).trans tt1,(World.cell?_of_block hW).trans tt2,(World.cell?_of_block hW).trans tt3⟩
                have HSS:Hid (∀ (W:World) v,W.heap[ob]?=w6.heap[ob]?→(W.setCell ⟨ob,st.length*4+3,none⟩ v).cell? ⟨ob,(st.length+1)*4,none⟩=some (.bool T.text)∧(W.setCell ⟨ob,st.length*4+3,none⟩ v).cell? ⟨ob,(st.length+1)*4+1,none⟩=some (.string T.s)∧(W.setCell ⟨ob,st.length*4+3,none⟩ v).cell? ⟨ob,(st.length+1)*4+2,none⟩=some (.slice aa T.attrs.length ac)∧(W.setCell ⟨ob,st.length*4+3,none⟩ v).cell? ⟨ob,(st.length+1)*4+3,none⟩=some (.slice ka T.kids.length kc)):=fun W v hW=>by
                 obtain ⟨a0,a1,a2,a3⟩:=HSB.out W hW;exact ⟨(World.cell?_setCell_other _ _ _ _ (by simp<;>omega)).trans a0,(World.cell?_setCell_other _ _ _ _ (by simp<;>omega)).trans a1,(World.cell?_setCell_other _ _ _ _ (by simp<;>omega)).trans a2,(World.cell?_setCell_other _ _ _ _ (by simp<;>omega)).trans a3⟩
                clear hHeld t0 t1 t2 t3 s0 s1 s2 s3 sf tf hb6 hq1 hq2 tt0 tt1 tt2 tt3;go_wp2_with fail;have HT7:Hid _:=HT6.out.later (Below.alloc1 w6 (.cells #[.bool T.text,.string T.s,.slice aa T.attrs.length ac,.slice ka T.kids.length kc] 79)).drew;have HSW:Hid ((w6.alloc (.cells #[.bool T.text,.string T.s,.slice aa T.attrs.length ac,.slice ka T.kids.length kc] 79)).drew.heap[ob]?=w6.heap[ob]?):=heap_alloc_old _ _ rlt;refine wp_region_held_drew (S:=fun W:World=>W.cell? ⟨ob,(st.length+1)*4,none⟩=some (.bool T.text)∧W.cell? ⟨ob,(st.length+1)*4+1,none⟩=some (.string T.s)∧W.cell? ⟨ob,(st.length+1)*4+2,none⟩=some (.slice aa T.attrs.length ac)∧W.cell? ⟨ob,(st.length+1)*4+3,none⟩=some (.slice ka T.kids.length kc)) (by kernel_rfl) (HSB.out _ rfl) (fun hHeld=>?_)
                refine wqi [0,1,2,3,4,5,6,7,9,10,11,12] ?_
                repeat (refine wqt (v:=?_) rfl (by kernel_rfl) (fun _ _ _ h=>h) (by rfl) (by assumption) ?_ ?_;rotate_left;(· (intro w hSw;(try dsimp only at hSw);go_simp;(try simp only[hw2,Int.toNat_natCast]);(try rw[if_pos (by omega)]);try with_reducible rfl));try simp only[Act.put,List.getElem_toArray,List.getElem_cons_succ,List.getElem_cons_zero,List.setIfInBounds_toArray,List.set_cons_zero,List.set_cons_succ])
                refine wqn ?_;refine wpAnyH_ready (rs:=[8,13]) (by kernel_rfl) (by simp) ?_
                refine AllReadyH.cons rfl (fun K hK=>?_) (AllReadyH.cons rfl (fun K hK=>?_) AllReadyH.nil)
                go_simp;refine hK.out _ _ (HSB.out _ rfl) (fun hHeld=>?_)
                clear hK K
                try simp only[Act.put,List.getElem_toArray,List.getElem_cons_succ,List.getElem_cons_zero,List.setIfInBounds_toArray,List.set_cons_zero,List.set_cons_succ]
                refine wpAnyH_ready (rs:=[13]) (by kernel_rfl) (by simp) ?_
                refine AllReadyH.cons rfl (fun K hK=>?_) AllReadyH.nil
                go_simp;refine hK.out _ _ (HSB.out _ HSW.out) (fun hHeld=>?_)
                clear hK K
                try simp only[Act.put,List.getElem_toArray,List.getElem_cons_succ,List.getElem_cons_zero,List.setIfInBounds_toArray,List.set_cons_zero,List.set_cons_succ]
                rotate_left;go_simp;refine hK.out _ _ (HSB.out _ HSW.out) (fun hHeld=>?_)
                clear hK K
                try simp only[Act.put,List.getElem_toArray,List.getElem_cons_succ,List.getElem_cons_zero,List.setIfInBounds_toArray,List.set_cons_zero,List.set_cons_succ]
                refine wpAnyH_ready (rs:=[8]) (by kernel_rfl) (by simp) ?_
                refine AllReadyH.cons rfl (fun K hK=>?_) AllReadyH.nil
                go_simp;refine hK.out _ _ (HSB.out _ HSW.out) (fun hHeld=>?_)
                clear hK K
                try simp only[Act.put,List.getElem_toArray,List.getElem_cons_succ,List.getElem_cons_zero,List.setIfInBounds_toArray,List.set_cons_zero,List.set_cons_succ]
                all_goals
                 refine wpAnyH_ready (rs:=[14]) (by kernel_rfl) (by simp) ?_
                 refine AllReadyH.cons rfl (fun K hK=>?_) AllReadyH.nil
                 refine ZO (by rfl) (.tmp 103) (.tmp 108) (by rfl) HT7.out hkT2 w6.heap.size (.bool T.text) (.string T.s) (.slice aa T.attrs.length ac) (.slice ka T.kids.length kc) (by simp[Act.eval]) (by simp[Act.eval]) (QS w6 _ _ _ _ _) (by intro u hu;simp at hu;rcases hu with rfl|rfl|rfl|rfl<;>rfl) ?_
                 intro g c' w7 hc7 hn7 hown7 hgr7 hat7 hgo7 hg7;obtain ⟨⟨z0,z1,z2,z3⟩,zf,zo,zfo,hql⟩:=HT7.out.behind hown7 hgr7;have HFN8:Hid _:=HT7.out.add (k:=T) (p:=(T.text,T.s,.slice aa T.attrs.length ac,.slice ka T.kids.length kc)) (Q:=fun b=>F2 b=99∧b≠ob∧w1.heap.size≤b) hown7 hgr7 hat7 (fun b hb _=>⟨Zw (Zw hb.1),hb.2⟩) rfl rfl (qm.later (by rw[←hva];exact HQA.out) (Below.alloc1 w6 _).drew) (qb.later (Below.alloc1 w6 _).drew _ (by rw[←hq3];exact HQT.out))
                 have HOB:Hid (w7.heap[ob]?=w6.heap[ob]?):=(hgr7.block ob (by have:ob<w6.heap.size:=rlt;show ob<(w6.alloc _).heap.size;simp;omega) (fun e=>(HT7.out.kg.at_ ob e.symm).2.1 rfl)).trans HSW.out
                 refine hK.out _ _ (HSB.out _ HOB.out) (fun hHeld=>?_)
                 clear hK K hown7 hgr7 hat7
                 try simp only[Act.put,List.getElem_toArray,List.getElem_cons_succ,List.getElem_cons_zero,List.setIfInBounds_toArray,List.set_cons_zero,List.set_cons_succ]
                 refine wqi [15,16] ?_
                 repeat (refine wqt (v:=?_) rfl (by kernel_rfl) (fun _ _ _ h=>h) (by rfl) (by assumption) ?_ ?_;rotate_left;(· (intro w hSw;(try dsimp only at hSw);go_simp;(try simp only[hw2,Int.toNat_natCast]);(try rw[if_pos (by omega)]);try with_reducible rfl));try simp only[Act.put,List.getElem_toArray,List.getElem_cons_succ,List.getElem_cons_zero,List.setIfInBounds_toArray,List.set_cons_zero,List.set_cons_succ])
                 refine wqn ?_;refine wpAnyH_ready (rs:=[17]) (by kernel_rfl) (by simp) ?_
                 refine AllReadyH.cons rfl (fun K hK=>?_) AllReadyH.nil
                 go_simp;refine hK.out _ _ (HSS.out _ _ HOB.out) (fun hHeld=>?_)
                 clear hK K
                 try simp only[Act.put,List.getElem_toArray,List.getElem_cons_succ,List.getElem_cons_zero,List.setIfInBounds_toArray,List.set_cons_zero,List.set_cons_succ]
                 refine wpAnyH_done (by kernel_rfl) ?_ _
                 clear hHeld r0 r1 r2 r3 rf HSB HSS HT HT2 HT5 HT6 HT7 HQA HQT z0 z1 z2 z3 zf zo zfo hql HOB HSW;go_wp2_with fail
                 go_roundg (ps.length-(k+1))
                 case measure => have:=HK.out;omega
                 case rel => exact ⟨k+1,yQ T2 T,st,by omega,by go_num,HFN8.out,HFD.out,Vc HKL.out⟩
              · skip
                refine wpAnyH_ready (rs:=[1]) (by kernel_rfl) (by simp) ?_
                refine AllReadyH.cons rfl (fun K hK=>?_) AllReadyH.nil
                go_simp;refine hK.out _ _ trivial (fun hHeld=>?_)
                clear hK K
                try simp only[Act.put,List.getElem_toArray,List.getElem_cons_succ,List.getElem_cons_zero,List.setIfInBounds_toArray,List.set_cons_zero,List.set_cons_succ]
                refine wpAnyH_ready (rs:=[3]) (by kernel_rfl) (by simp) ?_
                refine AllReadyH.cons rfl (fun K hK=>?_) AllReadyH.nil
                go_simp;refine hK.out _ _ trivial (fun hHeld=>?_)
                clear hK K
                try simp only[Act.put,List.getElem_toArray,List.getElem_cons_succ,List.getElem_cons_zero,List.setIfInBounds_toArray,List.set_cons_zero,List.set_cons_succ]
                refine wpAnyH_done (by kernel_rfl) ?_ _
                have hb6:Below w5.heap.size w5 (w5.alloc (.cells #[.bool true] 4)).drew:=(Below.alloc1 w5 _).drew
                generalize (w5.alloc (.cells #[.bool true] 4)).drew=w6 at *
                have HT6:Hid _:=HT2.out.later hb6;have hroom:st.length+1+1≤cap:=HT.out.room;have hroomi:(st.length:Int)+1≤(cap:Int):=by omega
                have HQA:Hid _:=hqA.later hb6;have HQT:Hid _:=qb.later hb6 _ hqT;have tt0:=(hb6.cell (p:=⟨ob,(st.length+1)*4,none⟩) tlt).trans t0;have tt1:=(hb6.cell (p:=⟨ob,(st.length+1)*4+1,none⟩) tlt).trans t1;have tt2:=(hb6.cell (p:=⟨ob,(st.length+1)*4+2,none⟩) tlt).trans t2;have tt3:=(hb6.cell (p:=⟨ob,(st.length+1)*4+3,none⟩) tlt).trans t3;obtain ⟨r0,r1,r2,r3,rf,rlt,rB,rk1,rk2⟩:=HT6.out.cells;have hw2:IntKind.i64.wrap (st.length:Int)=(st.length:Int):=by rw[IntKind.wrap_i64];omega
                have HSB:Hid (∀ W:World,W.heap[ob]?=w6.heap[ob]?→W.cell? ⟨ob,(st.length+1)*4,none⟩=some (.bool T.text)∧W.cell? ⟨ob,(st.length+1)*4+1,none⟩=some (.string T.s)∧W.cell? ⟨ob,(st.length+1)*4+2,none⟩=some (.slice aa T.attrs.length ac)∧W.cell? ⟨ob,(st.length+1)*4+3,none⟩=some (.slice ka T.kids.length kc)):=fun W hW=>⟨(World.cell?_of_block hW).trans tt0,(World.cell?_of_block hW).trans tt1,(World.cell?_of_block hW).trans tt2,(World.cell?_of_block hW).trans tt3⟩
                have HSS:Hid (∀ (W:World) v,W.heap[ob]?=w6.heap[ob]?→(W.setCell ⟨ob,st.length*4+3,none⟩ v).cell? ⟨ob,(st.length+1)*4,none⟩=some (.bool T.text)∧(W.setCell ⟨ob,st.length*4+3,none⟩ v).cell? ⟨ob,(st.length+1)*4+1,none⟩=some (.string T.s)∧(W.setCell ⟨ob,st.length*4+3,none⟩ v).cell? ⟨ob,(st.length+1)*4+2,none⟩=some (.slice aa T.attrs.length ac)∧(W.setCell ⟨ob,st.length*4+3,none⟩ v).cell? ⟨ob,(st.length+1)*4+3,none⟩=some (.slice ka T.kids.length kc)):=fun W v hW=>by
                 obtain ⟨a0,a1,a2,a3⟩:=HSB.out W hW;exact ⟨(World.cell?_setCell_other _ _ _ _ (by simp<;>omega)).trans a0,(World.cell?_setCell_other _ _ _ _ (by simp<;>omega)).trans a1,(World.cell?_setCell_other _ _ _ _ (by simp<;>omega)).trans a2,(World.cell?_setCell_other _ _ _ _ (by simp<;>omega)).trans a3⟩
                clear hHeld t0 t1 t2 t3 s0 s1 s2 s3 sf tf hb6 hq1 hq2 tt0 tt1 tt2 tt3;go_wp2_with fail;have HT7:Hid _:=HT6.out.later (Below.alloc1 w6 (.cells #[.bool false,.string ⟨#[]⟩,.slice none 0 0,.slice none 0 0] 79)).drew;have HSW:Hid ((w6.alloc (.cells #[.bool false,.string ⟨#[]⟩,.slice none 0 0,.slice none 0 0] 79)).drew.heap[ob]?=w6.heap[ob]?):=heap_alloc_old _ _ rlt;refine wp_region_held_drew (S:=fun W:World=>W.cell? ⟨ob,(st.length+1)*4,none⟩=some (.bool T.text)∧W.cell? ⟨ob,(st.length+1)*4+1,none⟩=some (.string T.s)∧W.cell? ⟨ob,(st.length+1)*4+2,none⟩=some (.slice aa T.attrs.length ac)∧W.cell? ⟨ob,(st.length+1)*4+3,none⟩=some (.slice ka T.kids.length kc)) (by kernel_rfl) (HSB.out _ rfl) (fun hHeld=>?_)
                refine wqi [0,1,2,3,4,5,6,7,9,10,11,12] ?_
                repeat (refine wqt (v:=?_) rfl (by kernel_rfl) (fun _ _ _ h=>h) (by rfl) (by assumption) ?_ ?_;rotate_left;(· (intro w hSw;(try dsimp only at hSw);go_simp;(try simp only[hw2,Int.toNat_natCast]);(try rw[if_pos (by omega)]);try with_reducible rfl));try simp only[Act.put,List.getElem_toArray,List.getElem_cons_succ,List.getElem_cons_zero,List.setIfInBounds_toArray,List.set_cons_zero,List.set_cons_succ])
                refine wqn ?_;refine wpAnyH_ready (rs:=[8,14]) (by kernel_rfl) (by simp) ?_
                refine AllReadyH.cons rfl (fun K hK=>?_) (AllReadyH.cons rfl (fun K hK=>?_) AllReadyH.nil)
                go_simp;refine hK.out _ _ (HSB.out _ rfl) (fun hHeld=>?_)
                clear hK K
                try simp only[Act.put,List.getElem_toArray,List.getElem_cons_succ,List.getElem_cons_zero,List.setIfInBounds_toArray,List.set_cons_zero,List.set_cons_succ]
                refine wqi [13] ?_
                repeat (refine wqt (v:=?_) rfl (by kernel_rfl) (fun _ _ _ h=>h) (by rfl) (by assumption) ?_ ?_;rotate_left;(· (intro w hSw;(try dsimp only at hSw);go_simp;(try simp only[hw2,Int.toNat_natCast]);(try rw[if_pos (by omega)]);try with_reducible rfl));try simp only[Act.put,List.getElem_toArray,List.getElem_cons_succ,List.getElem_cons_zero,List.setIfInBounds_toArray,List.set_cons_zero,List.set_cons_succ])
                refine wqn ?_;refine wpAnyH_ready (rs:=[14]) (by kernel_rfl) (by simp) ?_
                refine AllReadyH.cons rfl (fun K hK=>?_) AllReadyH.nil
                go_simp;refine hK.out _ _ (HSB.out _ HSW.out) (fun hHeld=>?_)
                clear hK K
                try simp only[Act.put,List.getElem_toArray,List.getElem_cons_succ,List.getElem_cons_zero,List.setIfInBounds_toArray,List.set_cons_zero,List.set_cons_succ]
                rotate_left;go_simp;refine hK.out _ _ (HSB.out _ HSW.out) (fun hHeld=>?_)
                clear hK K
                try simp only[Act.put,List.getElem_toArray,List.getElem_cons_succ,List.getElem_cons_zero,List.setIfInBounds_toArray,List.set_cons_zero,List.set_cons_succ]
                refine wpAnyH_ready (rs:=[8]) (by kernel_rfl) (by simp) ?_
                refine AllReadyH.cons rfl (fun K hK=>?_) AllReadyH.nil
                go_simp;refine hK.out _ _ (HSB.out _ HSW.out) (fun hHeld=>?_)
                clear hK K
                try simp only[Act.put,List.getElem_toArray,List.getElem_cons_succ,List.getElem_cons_zero,List.setIfInBounds_toArray,List.set_cons_zero,List.set_cons_succ]
                refine wqi [13] ?_
                repeat (refine wqt (v:=?_) rfl (by kernel_rfl) (fun _ _ _ h=>h) (by rfl) (by assumption) ?_ ?_;rotate_left;(· (intro w hSw;(try dsimp only at hSw);go_simp;(try simp only[hw2,Int.toNat_natCast]);(try rw[if_pos (by omega)]);try with_reducible rfl));try simp only[Act.put,List.getElem_toArray,List.getElem_cons_succ,List.getElem_cons_zero,List.setIfInBounds_toArray,List.set_cons_zero,List.set_cons_succ])
                refine wqn ?_
                all_goals
                 refine wpAnyH_ready (rs:=[15]) (by kernel_rfl) (by simp) ?_
                 refine AllReadyH.cons rfl (fun K hK=>?_) AllReadyH.nil
                 refine ZO (by rfl) (.tmp 84) (.tmp 90) (by rfl) HT7.out hkT2 w6.heap.size (.bool false) (.string ⟨#[]⟩) (.slice none 0 0) (.slice none 0 0) (by simp[Act.eval]) (by simp[Act.eval]) (QS w6 _ _ _ _ _) (by decide) ?_
                 intro g c' w7 hc7 hn7 hown7 hgr7 hat7 hgo7 hg7;obtain ⟨⟨z0,z1,z2,z3⟩,zf,zo,zfo,hql⟩:=HT7.out.behind hown7 hgr7;obtain ⟨hownF,hgrF⟩:=ZY hown7 hql hgr7 hat7 (.bool T.text) (.string T.s) (.slice aa T.attrs.length ac) (.slice ka T.kids.length kc);have HFN8:Hid _:=HT7.out.add (k:=T) (p:=(T.text,T.s,.slice aa T.attrs.length ac,.slice ka T.kids.length kc)) (Q:=fun b=>F2 b=99∧b≠ob∧w1.heap.size≤b) hownF hgrF hat7 (fun b hb _=>⟨Zw (Zw hb.1),hb.2⟩) rfl rfl (qm.later (by rw[←hva];exact HQA.out) (Below.alloc1 w6 _).drew) (qb.later (Below.alloc1 w6 _).drew _ (by rw[←hq3];exact HQT.out))
                 have HOB:Hid (w7.heap[ob]?=w6.heap[ob]?):=(hgr7.block ob (by have:ob<w6.heap.size:=rlt;show ob<(w6.alloc _).heap.size;simp;omega) (fun e=>(HT7.out.kg.at_ ob e.symm).2.1 rfl)).trans HSW.out
                 refine hK.out _ _ (HSB.out _ HOB.out) (fun hHeld=>?_)
                 clear hK K hown7 hgr7 hat7 hownF hgrF
                 try simp only[Act.put,List.getElem_toArray,List.getElem_cons_succ,List.getElem_cons_zero,List.setIfInBounds_toArray,List.set_cons_zero,List.set_cons_succ]
                 refine wqi [16,17] ?_
                 repeat (refine wqt (v:=?_) rfl (by kernel_rfl) (fun _ _ _ h=>h) (by rfl) (by assumption) ?_ ?_;rotate_left;(· (intro w hSw;(try dsimp only at hSw);go_simp;(try simp only[hw2,Int.toNat_natCast]);(try rw[if_pos (by omega)]);try with_reducible rfl));try simp only[Act.put,List.getElem_toArray,List.getElem_cons_succ,List.getElem_cons_zero,List.setIfInBounds_toArray,List.set_cons_zero,List.set_cons_succ])
                 refine wqn ?_;refine wpAnyH_ready (rs:=[18]) (by kernel_rfl) (by simp) ?_
                 refine AllReadyH.cons rfl (fun K hK=>?_) AllReadyH.nil
                 go_simp;refine hK.out _ _ (HSS.out _ _ HOB.out) (fun hHeld=>?_)
                 clear hK K
                 try simp only[Act.put,List.getElem_toArray,List.getElem_cons_succ,List.getElem_cons_zero,List.setIfInBounds_toArray,List.set_cons_zero,List.set_cons_succ]
                 refine wpAnyH_done (by kernel_rfl) ?_ _
                 have y0:(w7.setCell ⟨ob,st.length*4+3,none⟩ (.slice (some ⟨g,0,none⟩) (T2.kids.length+1) c')).cell? ⟨g,T2.kids.length*4,none⟩=some (.bool false):=(World.cell?_of_block (heap_setCell_other w7 _ g _ hgo7)).trans z0;have y1:(w7.setCell ⟨ob,st.length*4+3,none⟩ (.slice (some ⟨g,0,none⟩) (T2.kids.length+1) c')).cell? ⟨g,T2.kids.length*4+1,none⟩=some (.string ⟨#[]⟩):=(World.cell?_of_block (heap_setCell_other w7 _ g _ hgo7)).trans z1;have y2:(w7.setCell ⟨ob,st.length*4+3,none⟩ (.slice (some ⟨g,0,none⟩) (T2.kids.length+1) c')).cell? ⟨g,T2.kids.length*4+2,none⟩=some (.slice none 0 0):=(World.cell?_of_block (heap_setCell_other w7 _ g _ hgo7)).trans z2;have y3:(w7.setCell ⟨ob,st.length*4+3,none⟩ (.slice (some ⟨g,0,none⟩) (T2.kids.length+1) c')).cell? ⟨g,T2.kids.length*4+3,none⟩=some (.slice none 0 0):=(World.cell?_of_block (heap_setCell_other w7 _ g _ hgo7)).trans z3;have yf:∀ j,(w7.setCell ⟨ob,st.length*4+3,none⟩ (.slice (some ⟨g,0,none⟩) (T2.kids.length+1) c')).frozen? ⟨g,j,none⟩=false:=fun j=>(World.frozen?_of_block (heap_setCell_other w7 _ g _ hgo7)).trans (zf j)
                 have HC4:Hid _:=qdg w7 ⟨ob,st.length*4+3,none⟩ ⟨g,T2.kids.length*4,none⟩ ⟨g,T2.kids.length*4+1,none⟩ ⟨g,T2.kids.length*4+2,none⟩ ⟨g,T2.kids.length*4+3,none⟩ (.slice (some ⟨g,0,none⟩) (T2.kids.length+1) c') (.bool T.text) (.string T.s) (.slice aa T.attrs.length ac) (.slice ka T.kids.length kc) (Ne.symm hgo7) (Ne.symm hgo7) (Ne.symm hgo7) (Ne.symm hgo7);rw[←HC4.out]at HFN8
                 generalize w7.setCell ⟨ob,st.length*4+3,none⟩ (.slice (some ⟨g,0,none⟩) (T2.kids.length+1) c')=w8 at *
                 clear hHeld r0 r1 r2 r3 rf HSB HSS HT HT2 HT5 HT6 HT7 HQA HQT z0 z1 z2 z3 zf zo zfo hql HOB HSW HC4;go_wp2_with fail
                 go_roundg (ps.length-(k+1))
                 case measure => have:=HK.out;omega
                 case rel => exact ⟨k+1,yQ T2 T,st,by omega,by go_num,HFN8.out,HFD.out,Vc HKL.out⟩
            · have HV : Hid (ze s = none) := HFN.out HPS.out (by rw[HFO.out, HMD.out, HCL.out, Xf, hnu, if_neg hn];rfl)
              have hnb:=qcN hn;clear hnu HMD HFO HCL HPS HFN hcq hE hzz he1 hT2;go_wp2_with fail;refine bodyPost_ret (v:=.tuple #[.slice none 0 0,.bool false]) (by simp[results,Tryz.results37,go_sem]) rfl ?_
              exact ⟨HBF.out,_,_,rfl,by rw[HV.out]⟩
        · have HHP : Hid _ := qeL h47 wr;have hmk:=qch h47 (T::st);rw[hmk]at HMD
          clear hmk h47;go_wp2_with fail;refine Calls.mono HHP.out ?_;rintro e w3 ⟨rfl,rfl⟩;clear HHP;go_wp2_with fail;refine Calls.mono (qbP m _ HMw.out hml) ?_;rintro e w4 ⟨hb4,nm,ra,rn,rc,b,ok,rfl,hbeg⟩;have HB4:Hid _:=hBw.trans (hb4.mono hBw.size);have HBF:Hid _:=HB4.out.alloc HB4.out.size (.cells #[.bool false,.string nm,.slice ra rn rc,.slice none 0 0] 79);cases hbl:yq m with
          | none =>
            rw[hbl]at hbeg
            subst hbeg;have HV:Hid (ze s=none):=HFN.out HPS.out (by rw[HFO.out,HMD.out,qe0 hbl];rfl)
            clear HMD HFO HPS HFN hcp' he0 hz0 hbl;go_wp2_with fail;refine bodyPost_ret (v:=.tuple #[.slice none 0 0,.bool false]) (by simp[results,Tryz.results37,go_sem]) rfl ?_
            exact ⟨HBF.out,_,_,rfl,by rw[HV.out]⟩
          | some r =>
            obtain ⟨n,L,x⟩:=r;rw[hbl]at hbeg
            obtain ⟨rfl,rfl,rfl,hA⟩:=hbeg;have hop:=qeZ hbl T st
            by_cases h8:8<st.length+1
            · have HV : Hid (ze s = none) := HFN.out HPS.out (by rw[HFO.out, HMD.out, hop, if_pos h8];rfl)
              have h8i:(8:Int)<(st.length:Int)+1:=by omega
              clear HMD HFO HPS HFN hcp' he0 hz0 hbl hop;go_wp2_with fail;refine bodyPost_ret (v:=.tuple #[.slice none 0 0,.bool false]) (by simp[results,Tryz.results37,go_sem]) rfl ?_
              exact ⟨HBF.out,_,_,rfl,by rw[HV.out]⟩
            · rw[if_neg h8]at hop
              have h8i:¬ ((8:Int)<(st.length:Int)+1):=by omega
              cases b with
              | true =>
                have HFD:Hid (foldD [zeroT] ps=foldD (yQ T ⟨false,qa n,asB (qW L),[]⟩::st) (ps.drop (k+1))):=by
                 show _=_
                 rw[HFO.out,HMD.out,hop];rfl
                clear HMD HFO hcp' he0 hz0 hbl hop;have hx5:=heap_alloc_new w4 (.cells #[.bool false,.string (qa n),.slice ra rn rc,.slice none 0 0] 79);have hb5:Below w3.heap.size w3 (w4.alloc (.cells #[.bool false,.string (qa n),.slice ra rn rc,.slice none 0 0] 79)):=hb4.alloc hb4.size _;have hA5:Hid _:=qm.later hA (Below.alloc1 w4 (.cells #[.bool false,.string (qa n),.slice ra rn rc,.slice none 0 0] 79));obtain ⟨tb,htb⟩:∃ tb,w4.heap.size=tb:=⟨_,rfl⟩;have htl:w3.heap.size≤tb:=by rw[←htb];exact hb4.size
                rw[htb]at hx5
                go_wp2_with fail
                generalize w4.alloc (.cells #[.bool false,.string (qa n),.slice ra rn rc,.slice none 0 0] 79)=w5 at *
                have HT5:Hid _:=HT.out.later hb5;obtain ⟨t0,t1,t2,t3,tf,tlt5,tB5,tk3,tk4⟩:=HT5.out.cells;have hw2:IntKind.i64.wrap (st.length:Int)=(st.length:Int):=by rw[IntKind.wrap_i64];omega
                have HT6:Hid _:=HT5.out.later (Below.alloc1 w5 (.cells #[.bool false,.string ⟨#[]⟩,.slice none 0 0,.slice none 0 0] 79)).drew;have HSB:Hid (∀ W:World,W.heap[tb]?=w5.heap[tb]?→W.cell? ⟨tb,0,none⟩=some (.bool false)∧W.cell? ⟨tb,1,none⟩=some (.string (qa n))∧W.cell? ⟨tb,2,none⟩=some (.slice ra rn rc)∧W.cell? ⟨tb,3,none⟩=some (.slice none 0 0)):=fun W hW=>j4 (hW.trans hx5)
                have htlt:=xm hx5;have HSW:Hid ((w5.alloc (.cells #[.bool false,.string ⟨#[]⟩,.slice none 0 0,.slice none 0 0] 79)).drew.heap[tb]?=w5.heap[tb]?):=heap_alloc_old _ _ htlt;have hktb:some tb≠(Value.slice ka T.kids.length kc).ownBlock:=fun e=>by have:=(HT.out.kg.own.lt tb e.symm).2;omega
                clear hx5 HB4 HBF htb;refine wp_region_held_drew (S:=fun W:World=>W.cell? ⟨tb,0,none⟩=some (.bool false)∧W.cell? ⟨tb,1,none⟩=some (.string (qa n))∧W.cell? ⟨tb,2,none⟩=some (.slice ra rn rc)∧W.cell? ⟨tb,3,none⟩=some (.slice none 0 0)) (by kernel_rfl) (HSB.out _ rfl) (fun hHeld=>?_)
                refine wqi [0,1,2,3,5] ?_
                repeat (refine wqt (v:=?_) rfl (by kernel_rfl) (fun _ _ _ h=>h) (by rfl) (by assumption) ?_ ?_;rotate_left;(· (intro w hSw;(try dsimp only at hSw);go_simp;(try simp only[hw2,Int.toNat_natCast]);(try rw[if_pos (by omega)]);try with_reducible rfl));try simp only[Act.put,List.getElem_toArray,List.getElem_cons_succ,List.getElem_cons_zero,List.setIfInBounds_toArray,List.set_cons_zero,List.set_cons_succ])
                refine wqn ?_;refine wpAnyH_ready (rs:=[4,7]) (by kernel_rfl) (by simp) ?_
                refine AllReadyH.cons rfl (fun K hK=>?_) (AllReadyH.cons rfl (fun K hK=>?_) AllReadyH.nil)
                go_simp;refine hK.out _ _ (HSB.out _ rfl) (fun hHeld=>?_)
                clear hK K
                try simp only[Act.put,List.getElem_toArray,List.getElem_cons_succ,List.getElem_cons_zero,List.setIfInBounds_toArray,List.set_cons_zero,List.set_cons_succ]
                refine wqi [6] ?_
                repeat (refine wqt (v:=?_) rfl (by kernel_rfl) (fun _ _ _ h=>h) (by rfl) (by assumption) ?_ ?_;rotate_left;(· (intro w hSw;(try dsimp only at hSw);go_simp;(try simp only[hw2,Int.toNat_natCast]);(try rw[if_pos (by omega)]);try with_reducible rfl));try simp only[Act.put,List.getElem_toArray,List.getElem_cons_succ,List.getElem_cons_zero,List.setIfInBounds_toArray,List.set_cons_zero,List.set_cons_succ])
                refine wqn ?_;refine wpAnyH_ready (rs:=[7]) (by kernel_rfl) (by simp) ?_
                refine AllReadyH.cons rfl (fun K hK=>?_) AllReadyH.nil
                go_simp;refine hK.out _ _ (HSB.out _ HSW.out) (fun hHeld=>?_)
                clear hK K
                try simp only[Act.put,List.getElem_toArray,List.getElem_cons_succ,List.getElem_cons_zero,List.setIfInBounds_toArray,List.set_cons_zero,List.set_cons_succ]
                rotate_left;go_simp;refine hK.out _ _ (HSB.out _ HSW.out) (fun hHeld=>?_)
                clear hK K
                try simp only[Act.put,List.getElem_toArray,List.getElem_cons_succ,List.getElem_cons_zero,List.setIfInBounds_toArray,List.set_cons_zero,List.set_cons_succ]
                refine wpAnyH_ready (rs:=[4]) (by kernel_rfl) (by simp) ?_
                refine AllReadyH.cons rfl (fun K hK=>?_) AllReadyH.nil
                go_simp;refine hK.out _ _ (HSB.out _ HSW.out) (fun hHeld=>?_)
                clear hK K
                try simp only[Act.put,List.getElem_toArray,List.getElem_cons_succ,List.getElem_cons_zero,List.setIfInBounds_toArray,List.set_cons_zero,List.set_cons_succ]
                refine wqi [6] ?_
                repeat (refine wqt (v:=?_) rfl (by kernel_rfl) (fun _ _ _ h=>h) (by rfl) (by assumption) ?_ ?_;rotate_left;(· (intro w hSw;(try dsimp only at hSw);go_simp;(try simp only[hw2,Int.toNat_natCast]);(try rw[if_pos (by omega)]);try with_reducible rfl));try simp only[Act.put,List.getElem_toArray,List.getElem_cons_succ,List.getElem_cons_zero,List.setIfInBounds_toArray,List.set_cons_zero,List.set_cons_succ])
                refine wqn ?_
                all_goals
                 refine wpAnyH_ready (rs:=[8]) (by kernel_rfl) (by simp) ?_
                 refine AllReadyH.cons rfl (fun K hK=>?_) AllReadyH.nil
                 refine ZO (by rfl) (.tmp 133) (.tmp 136) (by rfl) HT6.out hkT w5.heap.size (.bool false) (.string ⟨#[]⟩) (.slice none 0 0) (.slice none 0 0) (by simp[Act.eval]) (by simp[Act.eval]) (QS w5 _ _ _ _ _) (by decide) ?_
                 intro g c' w7 hc7 hn7 hown7 hgr7 hat7 hgo7 hg7;obtain ⟨⟨z0,z1,z2,z3⟩,zf,zo,zfo,hql⟩:=HT6.out.behind hown7 hgr7;obtain ⟨hownF,hgrF⟩:=ZY hown7 hql hgr7 hat7 (.bool false) (.string (qa n)) (.slice ra rn rc) (.slice none 0 0);have HFN8:Hid _:=HT6.out.add (k:=⟨false,qa n,asB (qW L),[]⟩) (p:=(false,qa n,.slice ra rn rc,.slice none 0 0)) (Q:=fun b=>w3.heap.size≤b) hownF hgrF hat7 (fun b hb _=>⟨Zw (qfo hb),by omega,by omega⟩) rfl rfl (qm.later hA5.out (Below.alloc1 w5 _).drew) (qb.nil _ ⟨none,0,rfl,nZ9 _⟩)
                 have HOT:Hid (w7.heap[tb]?=w5.heap[tb]?):=(hgr7.block tb (by show tb<(w5.alloc _).heap.size;simp;omega) hktb).trans HSW.out
                 have hgtb:tb≠g:=by
                  rcases hat7 with e|e
                  · exact fun e'=>hktb (by rw[e'];exact e)
                  · injection e with e
                    have e2:g=w5.heap.size+1:=by simpa using e
                    omega
                 refine hK.out _ _ (HSB.out _ HOT.out) (fun hHeld=>?_)
                 clear hK K hown7 hgr7 hat7 hownF hgrF
                 try simp only[Act.put,List.getElem_toArray,List.getElem_cons_succ,List.getElem_cons_zero,List.setIfInBounds_toArray,List.set_cons_zero,List.set_cons_succ]
                 refine wqi [9,11,12] ?_
                 repeat (refine wqt (v:=?_) rfl (by kernel_rfl) (fun _ _ _ h=>h) (by rfl) (by assumption) ?_ ?_;rotate_left;(· (intro w hSw;(try dsimp only at hSw);go_simp;(try simp only[hw2,Int.toNat_natCast]);(try rw[if_pos (by omega)]);try with_reducible rfl));try simp only[Act.put,List.getElem_toArray,List.getElem_cons_succ,List.getElem_cons_zero,List.setIfInBounds_toArray,List.set_cons_zero,List.set_cons_succ])
                 refine wqn ?_;refine wpAnyH_ready (rs:=[10,13]) (by kernel_rfl) (by simp) ?_
                 refine AllReadyH.cons rfl (fun K hK=>?_) (AllReadyH.cons rfl (fun K hK=>?_) AllReadyH.nil)
                 · go_simp;refine hK.out _ _ (HSB.out _ ((Zg _ _ _ _ _ _ _ _ _ _ _ hgtb).trans HOT.out)) (fun hHeld=>?_)
                   clear hK K
                   try simp only[Act.put,List.getElem_toArray,List.getElem_cons_succ,List.getElem_cons_zero,List.setIfInBounds_toArray,List.set_cons_zero,List.set_cons_succ]
                   refine wpAnyH_ready (rs:=[13]) (by kernel_rfl) (by simp) ?_
                   refine AllReadyH.cons rfl (fun K hK=>?_) AllReadyH.nil
                   go_simp;refine hK.out _ _ (HSB.out _ ((heap_setCell_other _ _ tb _ (by show tb≠ob;omega)).trans ((Zg _ _ _ _ _ _ _ _ _ _ _ hgtb).trans HOT.out))) (fun hHeld=>?_)
                   clear hK K
                   try simp only[Act.put,List.getElem_toArray,List.getElem_cons_succ,List.getElem_cons_zero,List.setIfInBounds_toArray,List.set_cons_zero,List.set_cons_succ]
                   refine wpAnyH_done (by kernel_rfl) ?_ _
                   clear hHeld z0 z1 z2 z3 zf zo zfo hql t0 t1 t2 t3 tf HT5 HT6 HT HSB HSW HOT hgtb;go_wp2_with fail
                   go_roundg (ps.length-(k+1))
                   case measure => have:=HK.out;omega
                   case rel => exact ⟨k+1,yQ T ⟨false,qa n,asB (qW L),[]⟩,st,by omega,by go_num,HFN8.out,HFD.out,ZB (by simp[yQ]) HKL.out⟩
                 · go_simp;refine hK.out _ _ (HSB.out _ ((heap_setCell_other _ _ tb _ (by show tb≠ob;omega)).trans HOT.out)) (fun hHeld=>?_)
                   clear hK K
                   try simp only[Act.put,List.getElem_toArray,List.getElem_cons_succ,List.getElem_cons_zero,List.setIfInBounds_toArray,List.set_cons_zero,List.set_cons_succ]
                   refine wpAnyH_ready (rs:=[10]) (by kernel_rfl) (by simp) ?_
                   refine AllReadyH.cons rfl (fun K hK=>?_) AllReadyH.nil
                   go_simp;refine hK.out _ _ (HSB.out _ ((Zg _ _ _ _ _ _ _ _ _ _ _ hgtb).trans ((heap_setCell_other _ _ tb _ (by show tb≠ob;omega)).trans HOT.out))) (fun hHeld=>?_)
                   clear hK K
                   try simp only[Act.put,List.getElem_toArray,List.getElem_cons_succ,List.getElem_cons_zero,List.setIfInBounds_toArray,List.set_cons_zero,List.set_cons_succ]
                   refine wpAnyH_done (by kernel_rfl) ?_ _
                   rw[qdg w7 ⟨ob,st.length*4+3,none⟩ ⟨g,T.kids.length*4,none⟩ ⟨g,T.kids.length*4+1,none⟩ ⟨g,T.kids.length*4+2,none⟩ ⟨g,T.kids.length*4+3,none⟩ _ _ _ _ _ (Ne.symm hgo7) (Ne.symm hgo7) (Ne.symm hgo7) (Ne.symm hgo7)];clear hHeld z0 z1 z2 z3 zf zo zfo hql t0 t1 t2 t3 tf HT5 HT6 HT HSB HSW HOT hgtb;go_wp2_with fail
                   go_roundg (ps.length-(k+1))
                   case measure => have:=HK.out;omega
                   case rel => exact ⟨k+1,yQ T ⟨false,qa n,asB (qW L),[]⟩,st,by omega,by go_num,HFN8.out,HFD.out,ZB (by simp[yQ]) HKL.out⟩
              | false =>
                have HFD:Hid (foldD [zeroT] ps=foldD (⟨false,qa n,asB (qW L),[]⟩::T::st) (ps.drop (k+1))):=by
                 show _=_
                 rw[HFO.out,HMD.out,hop];rfl
                clear HMD HFO hcp' he0 hz0 hbl hop;have hbA:Below w3.heap.size w3 ((w4.alloc (.cells #[.bool false,.string (qa n),.slice ra rn rc,.slice none 0 0] 79)).alloc (.cells #[.bool false,.string (qa n),.slice ra rn rc,.slice none 0 0] 79)):=(hb4.alloc hb4.size _).alloc (by have:=hb4.size;simp;omega) _
                have HT6:Hid _:=HT.out.later hbA
                have hrow6:((w4.alloc (.cells #[.bool false,.string (qa n),.slice ra rn rc,.slice none 0 0] 79)).alloc (.cells #[.bool false,.string (qa n),.slice ra rn rc,.slice none 0 0] 79)).ownsRow w1.heap.size 79 4 (.slice (some ⟨ob,0,none⟩) (st.length+1) cap) (st.length+1) (quadCells (qs++[q])):=by
                 have:=HT6.out.stk.own
                 rwa [List.length_append,List.length_reverse,List.length_singleton]at this
                have HROW6:Hid _:=hrow6;have HNQ:Hid _:=jI (w4.alloc (.cells #[.bool false,.string (qa n),.slice ra rn rc,.slice none 0 0] 79)) (.bool false) (.string (qa n)) (.slice ra rn rc) (.slice none 0 0) 79;rw[World.size_alloc]at HNQ
                have HA6:Hid _:=qm.later hA ((Below.alloc1 w4 (.cells #[.bool false,.string (qa n),.slice ra rn rc,.slice none 0 0] 79)).alloc (by simp) (.cells #[.bool false,.string (qa n),.slice ra rn rc,.slice none 0 0] 79))
                have hsz1:w1.heap.size≤w4.heap.size:=by have h1:=HT.out.below.size;have h2:=hb4.size;omega
                obtain ⟨i0,hi,hiz0,hiz1,hiz2⟩:=info_parts treeInfo;clear hrow6;go_wp2_with (at_builtin;refine wpList_append_own_at _ rfl _ _ 22 rfl w1.heap.size 79 i0 _ 4 72 Tryz.underlying22 hi hiz0 hiz1 hiz2 rfl (by decide) _ _ _ rfl HROW6.out ⟨w4.heap.size+1,0,none⟩ 1 1 [.bool false,.string (qa n),.slice ra rn rc,.slice none 0 0] ?qd0 ?qd1 ?qd2 ?qd3 ?qd4 ?qd5 ?qd6 ?_)
                case qd0 => rfl
                case qd1 => rfl
                case qd2 => exact HNQ.out
                case qd3 => intro z hz;simp at hz;rcases hz with rfl|rfl|rfl|rfl<;>rfl
                case qd4 => unfold maxLen;omega
                case qd5 => omega
                case qd6 => simp;omega
                intro v' w7 hown7 hgr7 _ hat7;have HF7:Hid _:=HT6.out.push (by omega) hown7 hgr7 (by simpa[Value.ownBlock] using hat7) (Q:=fun b=>w3.heap.size≤b) (fun b hb _=>⟨qfo hb,by omega,by omega⟩) HA6.out
                obtain ⟨og,oc,rfl,_,_,_⟩:=Yy hown7;clear hown7 hgr7 hat7 HROW6 HNQ HA6 HT6 HT t0 t1 t2 t3 tf hbA;go_wp2_with fail
                go_roundg (ps.length-(k+1))
                case measure => have:=HK.out;omega
                case rel => exact ⟨k+1,⟨false,qa n,asB (qW L),[]⟩,T::st,by omega,by go_num,HF7.out,HFD.out,qb8 rfl HKL.out⟩
      · have hz0 : (qa (c :: u)).size = u.length + 1 := by rw[qe];rfl
        have he0:(qa (c::u))[0]=c:=rfl
        have hcb:((c.toNat:Int)==60)=false:=by
         rw[beq_eq_false_iff_ne];exact fun e=>hc (UInt8.toNat_inj.1 (Int.ofNat.inj e))
        have HMN:Hid _:=Za (c::u) false wr HMw.out hpl1;obtain ⟨vm,f4,hmv⟩:∃ vm f4,zh false (c::u)=(vm,f4):=⟨_,_,rfl⟩;rw[hmv]at HMN
        have HTD:Hid _:=qbZ T st hc hmv HDR.out;clear HDR hmv;go_wp2_with fail;refine Calls.mono HMN.out ?_;rintro e w3 ⟨rfl,hb3⟩;clear HMN;cases f4 with
        | false =>
          have HV:Hid (ze s=none):=HFN.out HPS.out (by rw[HFO.out,HTD.out];rfl)
          have HBF:Hid _:=hBw.trans (hb3.mono hBw.size);clear HTD HFO HPS HFN;go_wp2_with fail;refine bodyPost_ret (v:=.tuple #[.slice none 0 0,.bool false]) (by simp[results,Tryz.results37,go_sem]) rfl ?_
          exact ⟨HBF.out,_,_,rfl,by rw[HV.out]⟩
        | true =>
          have HT3:Hid _:=HT.out.later hb3;obtain ⟨t0,t1,t2,t3,tf,tlt,tB,tk1,tk2⟩:=HT3.out.cells;have hw2:IntKind.i64.wrap (st.length:Int)=(st.length:Int):=by rw[IntKind.wrap_i64];omega
          have HT4:Hid _:=HT3.out.later (Below.alloc1 w3 (.cells #[.bool false,.string ⟨#[]⟩,.slice none 0 0,.slice none 0 0] 79)).drew;clear hcp';go_wp2_with fail;refine wp_region_held_drew (S:=fun _:World=>True) (by kernel_rfl) trivial (fun hHeld=>?_)
          refine wqi [0,1,2,3,5,6] ?_
          repeat (refine wqt (v:=?_) rfl (by kernel_rfl) (fun _ _ _ h=>h) (by rfl) (by assumption) ?_ ?_;rotate_left;(· (intro w hSw;(try dsimp only at hSw);go_simp;(try simp only[hw2,Int.toNat_natCast]);(try rw[if_pos (by omega)]);try with_reducible rfl));try simp only[Act.put,List.getElem_toArray,List.getElem_cons_succ,List.getElem_cons_zero,List.setIfInBounds_toArray,List.set_cons_zero,List.set_cons_succ])
          refine wqn ?_;refine wpAnyH_ready (rs:=[4,8]) (by kernel_rfl) (by simp) ?_
          refine AllReadyH.cons rfl (fun K hK=>?_) (AllReadyH.cons rfl (fun K hK=>?_) AllReadyH.nil)
          all_goals (go_simp;refine hK.out _ _ trivial (fun hHeld=>?_);clear hK K;try simp only[Act.put,List.getElem_toArray,List.getElem_cons_succ,List.getElem_cons_zero,List.setIfInBounds_toArray,List.set_cons_zero,List.set_cons_succ])
          refine wqi [7] ?_
          repeat (refine wqt (v:=?_) rfl (by kernel_rfl) (fun _ _ _ h=>h) (by rfl) (by assumption) ?_ ?_;rotate_left;(· (intro w hSw;(try dsimp only at hSw);go_simp;(try simp only[hw2,Int.toNat_natCast]);(try rw[if_pos (by omega)]);try with_reducible rfl));try simp only[Act.put,List.getElem_toArray,List.getElem_cons_succ,List.getElem_cons_zero,List.setIfInBounds_toArray,List.set_cons_zero,List.set_cons_succ])
          refine wqn ?_;refine wpAnyH_ready (rs:=[8]) (by kernel_rfl) (by simp) ?_
          refine AllReadyH.cons rfl (fun K hK=>?_) AllReadyH.nil
          go_simp;refine hK.out _ _ trivial (fun hHeld=>?_)
          clear hK K
          try simp only[Act.put,List.getElem_toArray,List.getElem_cons_succ,List.getElem_cons_zero,List.setIfInBounds_toArray,List.set_cons_zero,List.set_cons_succ]
          rotate_left;refine wpAnyH_ready (rs:=[4]) (by kernel_rfl) (by simp) ?_
          refine AllReadyH.cons rfl (fun K hK=>?_) AllReadyH.nil
          go_simp;refine hK.out _ _ trivial (fun hHeld=>?_)
          clear hK K
          try simp only[Act.put,List.getElem_toArray,List.getElem_cons_succ,List.getElem_cons_zero,List.setIfInBounds_toArray,List.set_cons_zero,List.set_cons_succ]
          refine wqi [7] ?_
          repeat (refine wqt (v:=?_) rfl (by kernel_rfl) (fun _ _ _ h=>h) (by rfl) (by assumption) ?_ ?_;rotate_left;(· (intro w hSw;(try dsimp only at hSw);go_simp;(try simp only[hw2,Int.toNat_natCast]);(try rw[if_pos (by omega)]);try with_reducible rfl));try simp only[Act.put,List.getElem_toArray,List.getElem_cons_succ,List.getElem_cons_zero,List.setIfInBounds_toArray,List.set_cons_zero,List.set_cons_succ])
          refine wqn ?_
          all_goals
           refine wpAnyH_ready (rs:=[9]) (by kernel_rfl) (by simp) ?_
           refine AllReadyH.cons rfl (fun K hK=>?_) AllReadyH.nil
           refine ZO (by rfl) (.tmp 48) (.tmp 52) (by rfl) HT4.out hkT w3.heap.size (.bool false) (.string ⟨#[]⟩) (.slice none 0 0) (.slice none 0 0) (by simp[Act.eval]) (by simp[Act.eval]) (QS w3 _ _ _ _ _) (by decide) ?_
           intro g c' w5 hc5 hn5 hown5 hgr5 hat5 hgo5 hg5;obtain ⟨⟨z0,z1,z2,z3⟩,zf,zo,zfo,hql⟩:=HT4.out.behind hown5 hgr5;obtain ⟨hownF,hgrF⟩:=ZY hown5 hql hgr5 hat5 (.bool true) (.string (qa vm)) (.slice none 0 0) (.slice none 0 0);have HFN5:Hid _:=HT4.out.add (k:=⟨true,qa vm,[],[]⟩) (p:=(true,qa vm,.slice none 0 0,.slice none 0 0)) (Q:=fun _=>False) hownF hgrF hat5 (fun b hb=>hb.elim) rfl rfl ⟨none,0,rfl,nR9 _,nZ9 _,fun h=>absurd rfl h⟩ (qb.nil _ ⟨none,0,rfl,nZ9 _⟩)
           refine hK.out _ _ trivial (fun hHeld=>?_)
           clear hK K hown5 hgr5 hat5 hownF hgrF
           try simp only[Act.put,List.getElem_toArray,List.getElem_cons_succ,List.getElem_cons_zero,List.setIfInBounds_toArray,List.set_cons_zero,List.set_cons_succ]
           refine wqi [10,12,13] ?_
           repeat (refine wqt (v:=?_) rfl (by kernel_rfl) (fun _ _ _ h=>h) (by rfl) (by assumption) ?_ ?_;rotate_left;(· (intro w hSw;(try dsimp only at hSw);go_simp;(try simp only[hw2,Int.toNat_natCast]);(try rw[if_pos (by omega)]);try with_reducible rfl));try simp only[Act.put,List.getElem_toArray,List.getElem_cons_succ,List.getElem_cons_zero,List.setIfInBounds_toArray,List.set_cons_zero,List.set_cons_succ])
           refine wqn ?_;refine wpAnyH_ready (rs:=[11,14]) (by kernel_rfl) (by simp) ?_
           refine AllReadyH.cons rfl (fun K hK=>?_) (AllReadyH.cons rfl (fun K hK=>?_) AllReadyH.nil)
           · go_simp;refine hK.out _ _ trivial (fun hHeld=>?_)
             clear hK K
             try simp only[Act.put,List.getElem_toArray,List.getElem_cons_succ,List.getElem_cons_zero,List.setIfInBounds_toArray,List.set_cons_zero,List.set_cons_succ]
             refine wpAnyH_ready (rs:=[14]) (by kernel_rfl) (by simp) ?_
             refine AllReadyH.cons rfl (fun K hK=>?_) AllReadyH.nil
             go_simp;refine hK.out _ _ trivial (fun hHeld=>?_)
             clear hK K
             try simp only[Act.put,List.getElem_toArray,List.getElem_cons_succ,List.getElem_cons_zero,List.setIfInBounds_toArray,List.set_cons_zero,List.set_cons_succ]
             refine wpAnyH_done (by kernel_rfl) ?_ _
             clear hHeld z0 z1 z2 z3 zf zo zfo hql t0 t1 t2 t3 tf HT3 HT4 HT;go_wp2_with fail
             go_roundg (ps.length-(k+1))
             case measure => have:=HK.out;omega
             case rel => exact ⟨k+1,yQ T ⟨true,qa vm,[],[]⟩,st,by omega,by go_num,HFN5.out,by rw[HFO.out,HTD.out];rfl,ZB (by simp[yQ]) HKL.out⟩
           · go_simp;refine hK.out _ _ trivial (fun hHeld=>?_)
             clear hK K
             try simp only[Act.put,List.getElem_toArray,List.getElem_cons_succ,List.getElem_cons_zero,List.setIfInBounds_toArray,List.set_cons_zero,List.set_cons_succ]
             refine wpAnyH_ready (rs:=[11]) (by kernel_rfl) (by simp) ?_
             refine AllReadyH.cons rfl (fun K hK=>?_) AllReadyH.nil
             go_simp;refine hK.out _ _ trivial (fun hHeld=>?_)
             clear hK K
             try simp only[Act.put,List.getElem_toArray,List.getElem_cons_succ,List.getElem_cons_zero,List.setIfInBounds_toArray,List.set_cons_zero,List.set_cons_succ]
             refine wpAnyH_done (by kernel_rfl) ?_ _
             rw[qdg w5 ⟨ob,st.length*4+3,none⟩ ⟨g,T.kids.length*4,none⟩ ⟨g,T.kids.length*4+1,none⟩ ⟨g,T.kids.length*4+2,none⟩ ⟨g,T.kids.length*4+3,none⟩ _ _ _ _ _ (Ne.symm hgo5) (Ne.symm hgo5) (Ne.symm hgo5) (Ne.symm hgo5)];clear hHeld z0 z1 z2 z3 zf zo zfo hql t0 t1 t2 t3 tf HT3 HT4 HT;go_wp2_with fail
             go_roundg (ps.length-(k+1))
             case measure => have:=HK.out;omega
             case rel => exact ⟨k+1,yQ T ⟨true,qa vm,[],[]⟩,st,by omega,by go_num,HFN5.out,by rw[HFO.out,HTD.out];rfl,ZB (by simp[yQ]) HKL.out⟩
    · have hkk : k = ps.length := by omega
      subst hkk;have hkpi:¬ ((ps.length:Int)<(ps.length:Int)):=by omega
      obtain ⟨ob,cap,a,n,c,rfl,c3,htr⟩:=hF.bot;have HTR:Hid _:=htr
      have hst9:st.length+1≤9:=by
       obtain ⟨_,_,_,_,_,_,_,hS⟩:=hF;have:=hS.few
       simpa using this
      have HBF:Hid _:=HB1.out.trans (hF.1.mono HB1.out.size);have HEND:Hid _:=qaj HPS.out HFO.out;have hle:w.heap.size≤w1.heap.size:=HB1.out.size;clear hF htr HKL HOK HROW HK hk;go_wp2_with fail;refine bodyPost_ret (v:=.tuple #[.slice a n c,.bool (((st.length:Int)+1)==1)]) (by simp[results,Tryz.results37,go_sem]) rfl ?_
      refine ⟨HBF.out,_,_,rfl,?_⟩;rw[HEND.out];cases st with
      | nil=>exact ⟨rfl,qb.carry (fun b hb=>⟨Nat.le_trans hle hb,rfl⟩) 9 (HTR.out rfl)⟩
      | cons x r =>
        show (((x::r).length:Int)+1==1)=false
        have:(x::r).length=r.length+1:=rfl;rw[beq_eq_false_iff_ne];omega
end
end Go.Proofs.YtfplhcicbbhljaaGreatDoor
