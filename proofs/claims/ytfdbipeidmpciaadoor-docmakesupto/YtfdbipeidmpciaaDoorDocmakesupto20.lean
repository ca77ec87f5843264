/- Bundled: MakeR DocMkL. What each says stands ahead of it. -/
import Derived.Test.YtfdbipeidmpciaaDoorDocmakesupto18
import Derived.Test.YtfdbipeidmpciaaDoorDocmakesupto19
import Derived.Deep.CutBlock
namespace Go.Proofs.YtfdbipeidmpciaaDoor
open Go.ChangeShapes Go.WideShapes Go.ChangeAt Go.RowKit
set_option maxRecDepth 100000
section
attribute [local go_sem] qg
structure It where
 text:Bool
 s:ByteArray
 va:Value
 vk:Value
 par:Int
def itCells:List It→List Value
 | []=>[]
 | r::l=>.bool r.text::.string r.s::r.va::r.vk::.int .i64 r.par::itCells l
theorem yU (l:List It):(itCells l).length=l.length*5:=by
 induction l with
 | nil=>rfl
 | cons x r ih=>simp[itCells,ih];omega
theorem yT (l m:List It):itCells (l++m)=itCells l++itCells m:=by
 induction l with
 | nil=>rfl
 | cons x r ih=>simp[itCells,ih]
def QS (S:Nat→Prop)(w:World)(q:It)(x:Tr × Int):Prop:=q.text=x.1.text∧q.s=x.1.s∧q.par=x.2∧qe S w q.va x.1.attrs∧∃ n,qb S w n q.vk x.1.kids
def zD (B:Nat)(w:World)(v:Value)(qs:List It):Prop :=
 ∃ a cap,v=.slice a qs.length cap∧qs.length≤cap∧cap≤maxLen∧(qs≠[]→∃ b o,a=some ⟨b,o,none⟩∧qY B 86 w b∧∀ j u,(itCells qs)[j]?=some u→w.cell? ⟨b,o+j,none⟩=some u)
theorem zD.of_owns {w:World}{B:Nat}{v:Value}{qs:List It}(h:w.ownsRow B 86 5 v qs.length (itCells qs)):zD B w v qs:=by
 rcases h.2 with ⟨hv,h0⟩|⟨g,cap,cur,hv,hg,hh,hc,hm,hs,ht⟩
 · have : qs = [] := List.eq_nil_of_length_eq_zero h0;subst this hv;exact ⟨none,0,rfl,nR9 _,nZ9 _,fun h=>absurd rfl h⟩
 · subst hv;refine ⟨_,cap,rfl,hc,hm,fun _=>⟨g,0,rfl,⟨hg,_,_,hh⟩,fun j u hj=>?_⟩⟩
   have hlt:j<(itCells qs).length:=by
    rcases Nat.lt_or_ge j (itCells qs).length with h'|h'
    · exact h'
    · rw[List.getElem?_eq_none h']at hj;cases hj
   rw[yU]at hlt
   rw[Nat.zero_add,World.ownsRow.cellAt h j hlt];exact hj
theorem zD.keep {B:Nat}{w w':World}{v:Value}{qs:List It}(h:zD B w v qs)(hw:∀ b,qY B 86 w b→w'.heap[b]?=w.heap[b]?):zD B w' v qs:=by
 obtain ⟨a,cap,h1,h2,h3,h4⟩:=h;refine ⟨a,cap,h1,h2,h3,fun hne=>?_⟩
 obtain ⟨b,o,ha,hs,hc⟩:=h4 hne;refine ⟨b,o,ha,hs.to (nR9 _) (hw b hs),fun j u hj=>?_⟩
 rw[World.cell?_of_block (a:=⟨b,o+j,none⟩) (hw b hs)];exact hc j u hj
theorem zD.later {B:Nat}{w w':World}{v:Value}{qs:List It}(h:zD B w v qs)(hb:Below w.heap.size w w'):zD B w' v qs:=h.keep fun b hs=>hb.block b hs.lt
theorem JG {L:List Nd}(hg:qi L=true){n:Nat}{x:Nd}(hx:L[n]?=some x)(hp:x.parent<0):qT L (n+1)=qT L n++[{ x with kids:=[] }]:=by
 rcases (qF hg hx).par with ⟨h0,_⟩|⟨q,y,_,h2,_⟩
 · subst h0;have h1:=ZV hg hx;have hl:(qT L 1).length=1:=yp (qD hx);have h0:qT L 0=[]:=rfl;rw[h0,List.nil_append]
   match hq:qT L 1,hl with
   | [z],_=>rw[show 0+1=1 from rfl,hq]at h1;simp at h1;rw[h1]
 · omega
theorem JF {L:List Nd}(hg:qi L=true){n q:Nat}{x y:Nd}(hx:L[n]?=some x)(hp:x.parent=(q:Int))(hq:q<n)(hy:L[q]?=some y) :
 qT L (n+1)=(qT L n++[{ x with kids:=[] }]).set q { zA n y with kids:=(zA n y).kids++[(n:Int)] }:=by
 have hn:=qD hx;have hl:=yp (L:=L) (n:=n) (by omega)
 apply List.ext_getElem?
 intro i
 rcases Nat.lt_or_ge i n with hi|hi
 · obtain ⟨z, hz⟩ : ∃ z, L[i]? = some z := ⟨L[i], by simp[show i < L.length by omega]⟩
   obtain ⟨h1,h2⟩:=ZW hg hx hi hz;rw[h2]
   by_cases hiq:i=q
   · subst hiq;rw[hy]at hz
     obtain rfl:=Option.some.inj hz;rw[List.getElem?_set_self (by rw[List.length_append,hl];simp;omega),if_pos hp]
   · rw[List.getElem?_set_ne (fun e=>hiq e.symm),List.getElem?_append_left (by omega),h1,if_neg (by omega),List.append_nil]
 · by_cases hin : i = n
   · subst hin;rw[ZV hg hx,List.getElem?_set_ne (by omega),List.getElem?_append_right (by omega),hl]
     simp
   · rw[List.getElem?_eq_none (by rw[yp hn];omega),List.getElem?_eq_none (by rw[List.length_set,List.length_append,hl];simp;omega)]
theorem ZH {ns:List Nd}(hg:qi ns=true){j:Nat}{x:Nd}(hx:ns[j]?=some x):x.attrs.length≤4:=by
 obtain ⟨d,t,hd,hs,hn,hr,_,_,_⟩:=zM hg;obtain ⟨d',t',par',g1,g2,g3,_⟩:=yn ns d t (-1) 0 hd hs hr j (nZ9 _) (by have:=qD hx;omega)
 have h0:=g2 0 _ (by rw[zf g1 par' j];rfl)
 rw[Nat.add_zero,hx]at h0
 obtain rfl:=Option.some.inj h0;rw[jR]at g3
 simp only[Bool.and_eq_true]at g3
 have h1:=g3.1;unfold qu at h1
 cases htx:t'.text with
 | true=>simp only[htx,if_true,Bool.and_eq_true,decide_eq_true_eq]at h1;show t'.attrs.length≤4;omega
 | false =>
   simp only[htx,Bool.false_eq_true,if_false,Bool.and_eq_true]at h1
   have h2:=h1.2;simp only[qW,Bool.and_eq_true,decide_eq_true_eq]at h2
   exact h2.1
theorem Xf {ns:List Nd}(hg:qi ns=true){j:Nat}{x:Nd}(hx:ns[j]?=some x):x.kids.length≤1048576:=by
 have h80:ns.length≤80:=by
  have:=hg;simp only[qi,Bool.and_eq_true,decide_eq_true_eq]at this
  exact this.1.1
 have hk:=jy (ns:=ns) (zj (by have:=hg;simp only[qi,Bool.and_eq_true,decide_eq_true_eq]at this;exact this.1.2)) h80 (fun y hy=>by
  obtain ⟨i,hi⟩:=List.mem_iff_getElem?.1 hy;have:=ZH hg hi;omega)
 exact (hk j x hx).2.1
theorem WL.room {L:List Nd}:∀ (its:List (Tr × Int)) (n:Nat),WL L n its→n+its.length≤L.length:=by
 intro its
 induction its with
 | nil=>intro n h;have h:n=L.length:=h;simp;omega
 | cons i r ih =>
   rintro n ⟨d,_,_,h⟩;have h1:=ih _ h;have h2:=qp d i.1;simp only[List.length_cons];omega
theorem itemInfo:(Tryd.prog.info? 86).map (fun i=>(i.zero,i.size,i.bytes))=some (some (.agg #[.bool false,.string ⟨#[]⟩,.slice none 0 0,.slice none 0 0,.int .i64 0]),5,80):=by kernel_rfl
theorem ZL (l:List It)(h:∀ q∈l,q.va.oneCell'=true∧q.vk.oneCell'=true):∀ u∈itCells l,u.oneCell'=true:=by
 induction l with
 | nil=>intro u hu;simp[itCells]at hu
 | cons q l ih =>
   intro u hu;simp only[itCells,List.mem_cons]at hu
   rcases hu with rfl|rfl|rfl|rfl|rfl|hu
   · rfl
   · rfl
   · exact (h q List.mem_cons_self).1
   · exact (h q List.mem_cons_self).2
   · rfl
   · exact ih (fun q hq=>h q (List.mem_cons_of_mem _ hq)) u hu
theorem QS.one {S:Nat→Prop}{w:World}{q:It}{x:Tr × Int}(h:QS S w q x):q.va.oneCell'=true∧q.vk.oneCell'=true:=by
 obtain ⟨_,_,_,ha,n,hk⟩:=h;obtain ⟨a,c,e⟩:=ha.shape;obtain ⟨a',c',e',_,_⟩:=qb.shape n hk;rw[e,e'];exact ⟨rfl,rfl⟩
theorem jw {S:Nat→Prop}{w:World}{qz qs:List It}{a b:List (Tr × Int)}(hl:qz.length=a.length)(h1:∀ (i:Nat)(q:It)(x:Tr × Int),qz[i]?=some q→a[i]?=some x→QS S w q x)(h2:∀ (i:Nat)(q:It)(x:Tr × Int),qs[i]?=some q→b[i]?=some x→QS S w q x) :
 ∀ (i:Nat) (q:It) (x:Tr × Int),(qz++qs)[i]?=some q→(a++b)[i]?=some x→QS S w q x:=by
 intro i q x hq hx
 rcases Nat.lt_or_ge i qz.length with hi|hi
 · rw[List.getElem?_append_left hi]at hq
   rw[List.getElem?_append_left (by omega)]at hx
   exact h1 i q x hq hx
 · rw[List.getElem?_append_right hi]at hq
   rw[List.getElem?_append_right (by omega),←hl]at hx
   exact h2 _ q x hq hx
theorem XN {S:Nat→Prop}{w:World}{qs:List It}{b:List (Tr × Int)}(hl:qs.length=b.length)(h:∀ (i:Nat)(q:It)(x:Tr × Int),qs[i]?=some q→b[i]?=some x→QS S w q x):∀ u∈itCells qs,u.oneCell'=true:=by
 refine ZL qs (fun q hq=>?_)
 obtain ⟨i,hi⟩:=List.mem_iff_getElem?.1 hq;have hb:i<b.length:=by rw[←hl];exact qD hi
 exact (h i q b[i] hi (by simp[hb])).one
structure MD (w:World) (db:Nat) (vd:Value) (l:List Nd) (ms:List Rw) (W:World):Prop where
 below:Below w.heap.size w W
 res:W.heap[w.heap.size+1]?=some (.cells #[.slice none 0 0] 47 (0,0))
 out:W.heap[db]?=some (.cells #[vd] 47 (0,0))
 lo:w.heap.size+2≤db
 row:qV (db+1) W vd l ms
theorem MD.later {w:World}{db:Nat}{vd:Value}{l:List Nd}{ms:List Rw}{W W':World}(h:MD w db vd l ms W)(hb:Below W.heap.size W W'):MD w db vd l ms W' :=
 ⟨h.below.trans (hb.mono h.below.size),(hb.block _ (qf h.res)).trans h.res,(hb.block _ (qf h.out)).trans h.out,h.lo,h.row.later hb⟩
theorem MD.grown {w:World}{db:Nat}{vd:Value}{l:List Nd}{ms:List Rw}{W W':World}{B:Nat}{v:Value}{n:Nat}{xs:List Value}(h:MD w db vd l ms W)(hB:db+1≤B)(ho:W.ownsRow B 86 5 v n xs)(hg:W.grownBy W' v.ownBlock):MD w db vd l ms W':=by
 have hlt:∀ b,v.ownBlock=some b→B≤b:=fun b hb=>(ho.lt b hb).1
 have hlo:=h.lo;refine ⟨h.below.grown hg h.below.size (fun b hb=>by have:=hlt b hb;omega),?_,?_,hlo,h.row.grown hg (fun b hb=>?_)⟩
 · rw[hg.block _ (qf h.res) (fun e=>by have:=hlt _ e.symm;omega)];exact h.res
 · rw[hg.block _ (qf h.out) (fun e=>by have:=hlt _ e.symm;omega)];exact h.out
 · obtain ⟨_, c, fz, hc⟩ := qI ho hb;exact ⟨86,by decide,by decide,by decide,nZ9 _,c,fz,hc⟩
theorem Jw {w W w3 w4:World}{db:Nat}{ja:Option Addr}{jc k:Nat}{l:List Nd}{ms:List Rw}{x:Nd}{va v':Value}(h:MD w db (.slice ja k jc) l ms W)(hk:l.length=k)(hb:Below W.heap.size W w3)
 (hA:qe (qY W.heap.size 69 w3) w3 va x.attrs)
 (hown:w4.ownsRow (db+1) 90 5 v' (k+1) (rawCells ms++[.bool x.text,.string x.s,va,.int .i64 x.parent,.slice none 0 0]))
 (hgr:(w3.alloc (.cells #[.bool x.text,.string x.s,va,.int .i64 x.parent,.slice none 0 0] 90)).grownBy w4 (Value.slice ja k jc).ownBlock) :
 MD w db v' (l++[{ x with kids:=[] }]) (ms++[⟨x.text,x.s,va,x.parent,.slice none 0 0⟩]) (w4.setCell ⟨db,0,none⟩ v') ∧
  (∀ b,b<W.heap.size→b≠db→(Value.slice ja k jc).ownBlock≠some b→(w4.setCell ⟨db,0,none⟩ v').heap[b]?=W.heap[b]?)∧W.heap.size≤(w4.setCell ⟨db,0,none⟩ v').heap.size:=by
 have hs3:=hb.size;have hlo:=h.lo;have hdb:=qf h.out;have hsr:=h.below.size;have hs4:=hgr.size;simp only[World.size_alloc]at hs4
 have hkeep:∀ b,b<W.heap.size→(Value.slice ja k jc).ownBlock≠some b→w4.heap[b]?=W.heap[b]?:=by
  intro b h1 h2;rw[hgr.block b (by simp;omega) (fun e=>h2 e.symm),Lib.alloc_old _ _ _ (by omega)]
  exact hb.block b h1
 have hne:∀ b,b<db+1→(Value.slice ja k jc).ownBlock≠some b:=fun b hb e=>by have:=(h.row.own.lt b e).1;omega
 have hB4:Below w.heap.size w w4:=((h.below.trans (hb.mono hsr)).alloc (by omega) _).grown hgr (by simp;omega) (fun g hg=>by have:=(h.row.own.lt g hg).1;omega)
 have hR3:=(h.row.later hb).later (Below.alloc1 w3 (.cells #[.bool x.text,.string x.s,va,.int .i64 x.parent,.slice none 0 0] 90))
 have hG:=hR3.snoc (r:=⟨x.text,x.s,va,x.parent,.slice none 0 0⟩) (x:={ x with kids:=[] }) (by rw[hk];exact hown) hgr
  ⟨rfl,rfl,rfl,(hA.own_later (Below.alloc1 w3 _)).carry (fun b hb'=>⟨hb'.to (by omega) rfl,rfl⟩),zm.nil _ _⟩
  (fun i q b _ _ e=>by simp[Value.ownBlock]at e)
 refine ⟨⟨hB4.setCell (p:=⟨db,0,none⟩) (by show w.heap.size≤db;omega) _,?_,?_,hlo,?_⟩,?_,by simp;omega⟩
 · rw[qd (by omega),hkeep _ (qf h.res) (hne _ (by omega))];exact h.res
 · have := (hkeep _ hdb (hne _ (by omega))).trans h.out
   simp[World.setCell,Array.getElem?_modify,this]
 · exact hG.keep (fun b hs=>qd (by have:=hs.1;omega)) (fun b hs=>qd (by have:=hs.1;omega)) (fun b hs=>qd (by have:=(hG.own.lt b hs).1;omega))
 · intro b h1 h2 h3;rw[qd h2,hkeep b h1 h3]
theorem Xm {w W w4:World}{db g cap:Nat}{l:List Nd}{ms:List Rw}{i:Nat}{r:Rw}{x:Nd}{v':Value}{ks:List Int}{X:Obj}(h:MD w db (.slice (some ⟨g,0,none⟩) l.length cap) l ms W)(hr:ms[i]?=some r)(hx:l[i]?=some x)
 (hown:zm (db+1) w4 v' ks) (hgr:(W.alloc X).grownBy w4 r.vk.ownBlock) (hat:v'.ownBlock=r.vk.ownBlock∨v'.ownBlock=some (W.alloc X).heap.size) :
 MD w db (.slice (some ⟨g,0,none⟩) l.length cap) (l.set i { x with kids:=ks }) (ms.set i { r with vk:=v' }) (w4.setCell ⟨g,i*5+4,none⟩ v') ∧
  (∀ b,b<W.heap.size→g≠b→r.vk.ownBlock≠some b→(w4.setCell ⟨g,i*5+4,none⟩ v').heap[b]?=W.heap[b]?)∧W.heap.size≤(w4.setCell ⟨g,i*5+4,none⟩ v').heap.size:=by
 have h1:=h.later (Below.alloc1 W X);have hR:=h.row.each i r x hr hx;have hlo:=h.lo;have hgg:=h.row.own.lt g rfl;have hs4:=hgr.size;simp only[World.size_alloc]at hs4
 have hkeep:∀ b,b<W.heap.size→g≠b→r.vk.ownBlock≠some b→(w4.setCell ⟨g,i*5+4,none⟩ v').heap[b]?=W.heap[b]?:=by
  intro b h2 h3 h4;rw[qd (fun e=>h3 e.symm),hgr.block b (by simp;omega) (fun e=>h4 e.symm),Lib.alloc_old _ _ _ h2]
 have hne:∀ b,b<db+1→r.vk.ownBlock≠some b:=fun b hb e=>by have:=(zm.lt hR.2.2.2.2 b e).1;omega
 have hsr:=h.below.size;refine ⟨⟨((h.below.alloc hsr X).grown hgr (by simp;omega) (fun b hb=>by have:=(zm.lt hR.2.2.2.2 b hb).1;omega)).setCell (p:=⟨g,i*5+4,none⟩) (by show w.heap.size≤g;omega) _,?_,?_,hlo,h1.row.kid hr hx hown hgr hat⟩,hkeep,by simp;omega⟩
 · rw[hkeep _ (qf h.res) (by omega) (hne _ (by omega))];exact h.res
 · rw[hkeep _ (qf h.out) (by omega) (hne _ (by omega))];exact h.out
theorem TextsN.tex:∀ (n:Nat) {ts:List Tr},TextsN n ts→TexN n ts
 | 0,_,_=>trivial
 | n+1,_,h=>fun t ht=>⟨(h t ht).1.1,(h t ht).1.2,TextsN.tex n (h t ht).2⟩
theorem j6 {ops:Array Oper}{o:Oper}{a:Act}{w:World}{K:Act→World→Prop}{Q:Exit→Act→World→Prop}{E:Prop}
 (hg:o.guard=none) (s x:Operand) (hop:o.op=Op.call { callee:=Callee.builtin Builtin.append,args:=#[s,x],argTypes:=#[45,45] })
 (B:Nat) (v:Value) (n:Nat) (xs:List Value) (hs:a.eval s=v) (hown:w.ownsRow B 90 5 v n xs) (ad:Addr) (tx:Bool) (st:ByteArray) (aa:Option Addr) (al ac:Nat) (par:Int) (ka:Option Addr) (kl kc:Nat) (hx:a.eval x=.slice (some ad) 1 1)
 (hnews:∀ j u,[Value.bool tx,Value.string st,Value.slice aa al ac,Value.int .i64 par,Value.slice ka kl kc][j]?=some u→w.cell? (ad.add j)=some u) (hn:n≤1048576) (hB:B≤w.heap.size)
 (hK:∀ v' w',w'.ownsRow B 90 5 v' (n+1) (xs++[.bool tx,.string st,.slice aa al ac,.int .i64 par,.slice ka kl kc])→w.grownBy w' v.ownBlock→(v'.ownBlock=v.ownBlock∨v'.ownBlock=some w.heap.size)→K (a.put o.dst v') w') :
 if Region.wanted o (yielded ops a.tmps)=true then Oper.wp Tryd.prog o a w K Q else E:=by
 have hw:Region.wanted o (yielded ops a.tmps)=true:=by simp[Region.wanted,hg]
 rw[if_pos hw];obtain ⟨i0,hi,hz0,hz1,hz2⟩:=info_parts nodeInfoC;obtain ⟨v',w',hr,h2,h3,_,h5⟩:=run_append_own_at (P:=Tryd.prog) w B 45 o.type 90 i0 _ 5 80 Tryd.underlying45 hi hz0 hz1 hz2 rfl (by decide) v n xs hown ad 1 1 [.bool tx,.string st,.slice aa al ac,.int .i64 par,.slice ka kl kc] rfl hnews (by intro u hu;simp at hu;rcases hu with rfl|rfl|rfl|rfl|rfl<;>rfl) (by unfold maxLen;omega) (by omega) hB
 unfold Oper.wp;simp[execOp,hop,resolve,invoke,builtin,hs,hx,hr,Result.andThen];exact hK v' w' h2 h3 h5
structure Mk (w:World) (db xb:Nat) (bx:Array Value) (vd:Value) (l:List Nd) (ms:List Rw) (v5:Value) (qs:List It) (W:World):Prop where
 md:MD w db vd l ms W
 box:W.heap[xb]?=some (.cells bx 86 (0,0))
 items:zD (db+1) W v5 qs
 lo:db<xb
theorem jN {W:World}{B b g:Nat}{e:TypeId}(h:qY B 86 W b)(hg:qY 0 e W g)(he:e≠86):b≠g:=by
 intro hb;subst hb;obtain ⟨_,c,fz,hc⟩:=h;obtain ⟨_,c',fz',hc'⟩:=hg;rw[hc]at hc'
 injection hc' with hc'
 injection hc' with _ h4 _
 exact he h4.symm
theorem Xl {w W w3 w4:World}{db xb:Nat}{bx:Array Value}{ja:Option Addr}{jc k:Nat}{l:List Nd}{ms:List Rw}{v5:Value}{qs:List It}{x:Nd}{va v':Value}(h:Mk w db xb bx (.slice ja k jc) l ms v5 qs W)(hk:l.length=k)(hb:Below W.heap.size W w3)
 (hA:qe (qY W.heap.size 69 w3) w3 va x.attrs)
 (hown:w4.ownsRow (db+1) 90 5 v' (k+1) (rawCells ms++[.bool x.text,.string x.s,va,.int .i64 x.parent,.slice none 0 0]))
 (hgr:(w3.alloc (.cells #[.bool x.text,.string x.s,va,.int .i64 x.parent,.slice none 0 0] 90)).grownBy w4 (Value.slice ja k jc).ownBlock) :
 Mk w db xb bx v' (l++[{ x with kids:=[] }]) (ms++[⟨x.text,x.s,va,x.parent,.slice none 0 0⟩]) v5 qs (w4.setCell ⟨db,0,none⟩ v'):=by
 obtain ⟨h1,h2,_⟩:=Jw h.md hk hb hA hown hgr;have hdo:qY 0 47 W db:=⟨nZ9 _,_,_,h.md.out⟩;have hxo:qY 0 86 W xb:=⟨nZ9 _,_,_,h.box⟩;have hnr:∀ b,qY 0 86 W b→(Value.slice ja k jc).ownBlock≠some b:=fun b hb e=>qv h.md.row.own hb (by decide) e.symm
 refine ⟨h1,?_,h.items.keep (fun b hs=>h2 b hs.lt (jN hs hdo (by decide)) (hnr b ⟨nZ9 _,hs.2⟩)),h.lo⟩
 rw[h2 xb (qf h.box) (jN hxo hdo (by decide)) (hnr xb hxo)]
 exact h.box
theorem Xk {w W w4:World}{db xb g cap:Nat}{bx:Array Value}{l:List Nd}{ms:List Rw}{v5:Value}{qs:List It}{i:Nat}{r:Rw}{x:Nd}{v':Value}{ks:List Int}{X:Obj}(h:Mk w db xb bx (.slice (some ⟨g,0,none⟩) l.length cap) l ms v5 qs W)(hr:ms[i]?=some r)(hx:l[i]?=some x)
 (hown:zm (db+1) w4 v' ks) (hgr:(W.alloc X).grownBy w4 r.vk.ownBlock) (hat:v'.ownBlock=r.vk.ownBlock∨v'.ownBlock=some (W.alloc X).heap.size) :
 Mk w db xb bx (.slice (some ⟨g,0,none⟩) l.length cap) (l.set i { x with kids:=ks }) (ms.set i { r with vk:=v' }) v5 qs (w4.setCell ⟨g,i*5+4,none⟩ v'):=by
 obtain ⟨h1,h2,_⟩:=Xm h.md hr hx hown hgr hat;have hgo:qY 0 90 W g:=⟨nZ9 _,(qI h.md.row.own rfl).2⟩;have hxo:qY 0 86 W xb:=⟨nZ9 _,_,_,h.box⟩;have hnr:∀ b,qY 0 86 W b→r.vk.ownBlock≠some b:=fun b hb e=>qv (h.md.row.each i r x hr hx).2.2.2.2 hb (by decide) e.symm
 refine ⟨h1,?_,h.items.keep (fun b hs=>h2 b hs.lt (fun e=>jN hs hgo (by decide) e.symm) (hnr b ⟨nZ9 _,hs.2⟩)),h.lo⟩
 rw[h2 xb (qf h.box) (fun e=>jN hxo hgo (by decide) e.symm) (hnr xb hxo)]
 exact h.box
set_option linter.unusedSimpArgs false in
set_option maxHeartbeats 8000000 in
theorem makeDoc_any:jV:=by
 intro S n va vk t w hA hK hx hc hS;obtain ⟨aa,ac,rfl⟩:=hA.shape;obtain ⟨ka,kc,rfl,_,_⟩:=qb.shape n hK;have hb1:Below w.heap.size w ((w.alloc (.cells #[.bool t.text,.string t.s,.slice aa t.attrs.length ac,.slice ka t.kids.length kc] 25)).alloc (.cells #[.slice none 0 0] 47)):=(Below.alloc1 w _).alloc (by simp) _
 have hx1:((w.alloc (.cells #[.bool t.text,.string t.s,.slice aa t.attrs.length ac,.slice ka t.kids.length kc] 25)).alloc (.cells #[.slice none 0 0] 47)).heap[w.heap.size]?=some (.cells #[.bool t.text,.string t.s,.slice aa t.attrs.length ac,.slice ka t.kids.length kc] 25 (0,0)):=by
  rw[Lib.alloc_old _ _ _ (by simp)];exact heap_alloc_new _ _
 have hy1:((w.alloc (.cells #[.bool t.text,.string t.s,.slice aa t.attrs.length ac,.slice ka t.kids.length kc] 25)).alloc (.cells #[.slice none 0 0] 47)).heap[w.heap.size+1]?=some (.cells #[.slice none 0 0] 47 (0,0)):=by
  have e:=heap_alloc_new (w.alloc (.cells #[.bool t.text,.string t.s,.slice aa t.attrs.length ac,.slice ka t.kids.length kc] 25)) (.cells #[.slice none 0 0] 47);rw[World.size_alloc]at e
  exact e
 have HG:Hid _:=Yu S n _ _ t _ (hA.later hb1) (qb.later hb1 n hK) hc (TextsN.tex _ hx);have HA:Hid (qe S w (.slice aa t.attrs.length ac) t.attrs):=hA;have HK:Hid (qb S w n (.slice ka t.kids.length kc) t.kids):=hK;have HS:Hid (∀ b,S b→b<w.heap.size):=hS;have HD:Hid (yl n t=if qw t then layF n t (-1) 0 else []):=rfl
 have HE:Hid (ym t=if qw t then 0 else 1):=rfl
 have HDP:Hid (Deep n t.kids):=qb.deep n hK;clear hA hK hx hS
 go_enter Tryd.func34,Tryd.ntmps34
 go_wp2_with fail;refine (Calls.mono HG.out ?_);rintro e w2 ⟨rfl,hb2⟩;have hx2:=(hb2.block _ (qf hx1)).trans hx1;have hy2:=(hb2.block _ (qf hy1)).trans hy1;have hB2:Below w.heap.size w w2:=hb1.trans (hb2.mono hb1.size);have d0:w2.cell? ⟨w.heap.size,0,none⟩=some (.bool t.text):=by rw[cH9 hx2];rfl
 have d1:w2.cell? ⟨w.heap.size,1,none⟩=some (.string t.s):=by rw[cH9 hx2];rfl
 have d2:w2.cell? ⟨w.heap.size,2,none⟩=some (.slice aa t.attrs.length ac):=by rw[cH9 hx2];rfl
 have d3:w2.cell? ⟨w.heap.size,3,none⟩=some (.slice ka t.kids.length kc):=by rw[cH9 hx2];rfl
 have p0:w2.cell? ⟨w.heap.size+1,0,none⟩=some (.slice none 0 0):=by rw[cH9 hy2];rfl
 have f0:w2.frozen? ⟨w.heap.size+1,0,none⟩=false:=fH9 hy2 0;clear HG hb1 hx1 hb2 hy1;obtain ⟨q,hq⟩:∃ q,qw t=q:=⟨_,rfl⟩;rw[hq];cases q with
 | false =>
   have HD2:Hid (yl n t=[]):=by show _=_;rw[HD.out,hq];rfl
   have HE2:Hid (ym t=1):=by show _=_;rw[HE.out,hq];rfl
   clear HD HE hq;go_wp2_with fail;refine bodyPost_ret (v:=.tuple #[.agg #[.slice none 0 0],.int .i64 1]) (by simp[results,Tryd.results34,go_sem,qg,p0]) rfl ⟨.slice none 0 0,by rw[HE2.out],by rw[HD2.out];exact qr.nil,?_⟩
   exact hB2.setCell (p:=⟨w.heap.size+1,0,none⟩) (Nat.le_succ _) _
 | true =>
   have HD2:Hid (yl n t=layF n t (-1) 0):=by show _=_;rw[HD.out,hq];rfl
   have HE2:Hid (ym t=0):=by show _=_;rw[HE.out,hq];rfl
   obtain ⟨hgL,_,_,_⟩:=QB HDP.out hq;have HWL0:Hid (WL (layF n t (-1) 0) 0 [(t,-1)]):=WL.start HDP.out;obtain ⟨L,hL⟩:∃ L,layF n t (-1) 0=L:=⟨_,rfl⟩;rw[hL]at hgL HWL0 HD2
   have HGL:Hid (qi L=true):=hgL
   have h80:L.length≤80:=by
    have:=hgL;simp only[qi,Bool.and_eq_true,decide_eq_true_eq]at this
    exact this.1.1
   have e0:(w2.alloc (.cells #[.slice none 0 0] 47)).cell? ⟨w.heap.size,0,none⟩=some (.bool t.text):=Lib.cell?_alloc_some _ d0;have e1:(w2.alloc (.cells #[.slice none 0 0] 47)).cell? ⟨w.heap.size,1,none⟩=some (.string t.s):=Lib.cell?_alloc_some _ d1;have e2:(w2.alloc (.cells #[.slice none 0 0] 47)).cell? ⟨w.heap.size,2,none⟩=some (.slice aa t.attrs.length ac):=Lib.cell?_alloc_some _ d2;have e3:(w2.alloc (.cells #[.slice none 0 0] 47)).cell? ⟨w.heap.size,3,none⟩=some (.slice ka t.kids.length kc):=Lib.cell?_alloc_some _ d3
   have hMD0:MD w w2.heap.size (.slice none 0 0) (qT L 0) [] ((w2.alloc (.cells #[.slice none 0 0] 47)).alloc (.cells #[.bool t.text,.string t.s,.slice aa t.attrs.length ac,.slice ka t.kids.length kc,.int .i64 (-1)] 86)):=by
    have h1:=qf hy2;refine ⟨(hB2.alloc hB2.size _).alloc (by simp;have:=hB2.size;omega) _,?_,?_,by omega,qV.nil _ _⟩
    · rw[Lib.alloc_old _ _ _ (by simp;omega),Lib.alloc_old _ _ _ h1];exact hy2
    · rw[Lib.alloc_old _ _ _ (by simp)];exact heap_alloc_new _ _
   have hIT0:zD (w2.heap.size+1) ((w2.alloc (.cells #[.slice none 0 0] 47)).alloc (.cells #[.bool t.text,.string t.s,.slice aa t.attrs.length ac,.slice ka t.kids.length kc,.int .i64 (-1)] 86)) (.slice (some ⟨w2.heap.size+1,0,none⟩) 1 1) [⟨t.text,t.s,.slice aa t.attrs.length ac,.slice ka t.kids.length kc,-1⟩]:=by
    have:=World.ownsRow_lit (base:=w2.heap.size+1) (e:=86) (size:=5) (w2.alloc (.cells #[.slice none 0 0] 47)) #[.bool t.text,.string t.s,.slice aa t.attrs.length ac,.slice ka t.kids.length kc,.int .i64 (-1)] 1 (by simp) (by unfold maxLen;omega) rfl
    rw[World.size_alloc]at this
    exact zD.of_owns this
   have HMD0:Hid _:=hMD0;have HIT0:Hid _:=hIT0;have HSX:Hid (w.heap.size+1<w2.heap.size):=qf hy2;clear HD HE hq hL hgL hMD0 hIT0 hx2 hy2 p0 f0 d0 d1 d2 d3;go_wp2_with fail
   generalize ((w2.alloc (.cells #[.slice none 0 0] 47)).alloc (.cells #[.bool t.text,.string t.s,.slice aa t.attrs.length ac,.slice ka t.kids.length kc,.int .i64 (-1)] 86))=W3 at HMD0 HIT0 ⊢
   clear e0 e1 e2 e3 hB2
   generalize w2.heap.size=db at HMD0 HIT0 HSX ⊢
   go_loopg [5] L.length (fun g v5 wr=>∃ (k:Nat) (vd:Value) (ms:List Rw) (qs:List It) (its:List (Tr × Int)),k+g=L.length∧WL L k its∧qs.length=its.length∧(∀ (i:Nat) (q:It) (x:Tr × Int),qs[i]?=some q→its[i]?=some x→QS S w q x)∧zD (db+1) wr v5 qs∧MD w db vd (qT L k) ms wr)
   case atStart =>
    refine ⟨0,_,[],_,[(t,-1)],by omega,HWL0.out,rfl,?_,HIT0.out,HMD0.out⟩
    intro i q x hq hx;cases i with
    | zero =>
      simp at hq hx
      subst hq hx;exact ⟨rfl,rfl,rfl,HA.out,n,HK.out⟩
    | succ i=>simp at hq
   case round =>
    obtain ⟨k,vd,ms,qs,its,hk,hWL,hql,hIt,hQ,hM⟩:=hrel;have hB:=hM.below;cases qs with
    | nil =>
      have hn:its=[]:=List.eq_nil_of_length_eq_zero (by simpa using hql.symm)
      subst hn;have hkk:k=L.length:=hWL;obtain ⟨qa,qc,rfl,_,_,_⟩:=hQ;have hlk:(qT L k).length=L.length:=by rw[yp (by omega)];exact hkk
      have HPK:Hid (qT L k=L):=by show _=_;rw[hkk];exact Xt HGL.out
      obtain ⟨ja,jc,rfl,_,_⟩:=hM.row.shape;rw[hlk]at hM
      have HM:Hid _:=hM;have hlo:=hM.lo;have o0:wr.cell? ⟨db,0,none⟩=some (.slice ja L.length jc):=by rw[cH9 hM.out];rfl
      have r0:wr.cell? ⟨w.heap.size+1,0,none⟩=some (.slice none 0 0):=by rw[cH9 hM.res];rfl
      have rf0:wr.frozen? ⟨w.heap.size+1,0,none⟩=false:=fH9 hM.res 0;simp only[List.length_nil];clear hM hWL hkk hlk hIt hql hk;go_wp2_with fail;refine bodyPost_ret (v:=.tuple #[.agg #[.slice ja L.length jc],.int .i64 0]) (by simp[results,Tryd.results34,go_sem,qg,r0]) rfl ⟨_,by rw[HE2.out],?_,?_⟩
      · have := HM.out.row.done;rw[HPK.out]at this
        rw[HD2.out];exact this.carry fun b hb=>⟨by omega,qd (by omega)⟩
      · exact hB.setCell (p:=⟨w.heap.size+1,0,none⟩) (Nat.le_succ _) _
    | cons q qs =>
      cases its with
      | nil=>simp at hql
      | cons it its =>
        obtain ⟨t',p⟩:=it;obtain ⟨x,hx,hx1,hx2,hx3,hx4,hWL2⟩:=hWL.step;obtain ⟨hq1,hq2,hq3,hqa,m,hqk⟩:=hIt 0 q (t',p) rfl rfl;obtain ⟨qtx,qs',qva,qvk,qpar⟩:=q;simp only at hq1 hq2 hq3 hqa hqk
        rw[←hx1]at hq1
        rw[←hx2]at hq2
        rw[←hx3]at hqa
        rw[←hx4]at hq3
        subst hq1 hq2 hq3;obtain ⟨qa,qc,rfl,hqlc,hqcm,hQ4⟩:=id hQ;obtain ⟨b,o,rfl,hbO,hbc⟩:=hQ4 (by simp)
        unfold maxLen at hqcm
        simp only[List.length_cons]at hqlc
        have c0:wr.cell? ⟨b,o,none⟩=some (.bool x.text):=by have:=hbc 0 (.bool x.text) rfl;simpa using this
        have c1:wr.cell? ⟨b,o+1,none⟩=some (.string x.s):=hbc 1 _ rfl;have c2:wr.cell? ⟨b,o+2,none⟩=some qva:=hbc 2 _ rfl;have c3:wr.cell? ⟨b,o+3,none⟩=some qvk:=hbc 3 _ rfl;have c4:wr.cell? ⟨b,o+4,none⟩=some (.int .i64 x.parent):=hbc 4 _ rfl;obtain ⟨xa,xc,rfl⟩:=hqa.shape;obtain ⟨ya,yc,rfl,hyl,hym⟩:=qb.shape m hqk;have hkL:=qD hx;have hlk:(qT L k).length=k:=yp (by omega)
        obtain ⟨ja,jc,rfl,hjl,hjm⟩:=hM.row.shape;rw[hlk]at hM hjl
        have hMk:Mk w db wr.heap.size #[.bool x.text,.string x.s,.slice xa x.attrs.length xc,.slice ya t'.kids.length yc,.int .i64 x.parent] (.slice ja k jc) (qT L k) ms (.slice (some ⟨b,o,none⟩) (qs.length+1) qc) (⟨x.text,x.s,.slice xa x.attrs.length xc,.slice ya t'.kids.length yc,x.parent⟩::qs) (wr.alloc (.cells #[.bool x.text,.string x.s,.slice xa x.attrs.length xc,.slice ya t'.kids.length yc,.int .i64 x.parent] 86)) :=
         ⟨hM.later (Below.alloc1 wr _),heap_alloc_new _ _,hQ.later (Below.alloc1 wr _),qf hM.out⟩
        have o0:wr.cell? ⟨db,0,none⟩=some (.slice ja k jc):=by rw[cH9 hM.out];rfl
        have o1:(wr.alloc (.cells #[.bool x.text,.string x.s,.slice xa x.attrs.length xc,.slice ya t'.kids.length yc,.int .i64 x.parent] 86)).cell? ⟨db,0,none⟩=some (.slice ja k jc):=Lib.cell?_alloc_some _ o0;have HMk:Hid _:=hMk;have HLK:Hid ((qT L k).length=k):=hlk;have HX:Hid (L[k]?=some x):=hx;have HI2:Hid (∀ (i:Nat) (q:It) (x:Tr × Int),qs[i]?=some q→its[i]?=some x→QS S w q x):=fun i q x hq hx=>hIt (i+1) q x (by simpa using hq) (by simpa using hx)
        have HONE:Hid (∀ u∈itCells qs,u.oneCell'=true):=XN (by simpa using hql) HI2.out
        have hqpos:(0:Int)<((qs.length+1:Nat):Int):=by omega
        simp only[List.length_cons];clear hM hWL hlk hx hIt hQ hQ4 hMk hx1 hx2 hx3 hx4
        go_upto_region 8 with fail
        generalize wr.alloc (.cells #[.bool x.text,.string x.s,.slice xa x.attrs.length xc,.slice ya t'.kids.length yc,.int .i64 x.parent] 86)=W1 at HMk o1 ⊢
        go_cut [] from 18 to 82 (fun wz=>∃ (vd':Value) (va':Value),Mk w db wr.heap.size #[.bool x.text,.string x.s,.slice xa x.attrs.length xc,.slice ya t'.kids.length yc,.int .i64 x.parent] vd' (qT L k++[{ x with kids:=[] }]) (ms++[⟨x.text,x.s,va',x.parent,.slice none 0 0⟩]) (.slice (some ⟨b,o,none⟩) (qs.length+1) qc) (⟨x.text,x.s,.slice xa x.attrs.length xc,.slice ya t'.kids.length yc,x.parent⟩::qs) wz)
        case first =>
         have hxb:=qf HMk.out.box;have hdbl:=qf HMk.out.md.out
         have HWW:Hid (∀ W':World,W'.heap[wr.heap.size]?=W1.heap[wr.heap.size]?→W'.cell? ⟨wr.heap.size,0,none⟩=some (.bool x.text)∧W'.cell? ⟨wr.heap.size,1,none⟩=some (.string x.s)∧W'.cell? ⟨wr.heap.size,2,none⟩=some (.slice xa x.attrs.length xc)∧W'.cell? ⟨wr.heap.size,4,none⟩=some (.int .i64 x.parent)):=by
          intro W' h2;rw[HMk.out.box]at h2
          exact ⟨by rw[cH9 h2];rfl,by rw[cH9 h2];rfl,by rw[cH9 h2];rfl,by rw[cH9 h2];rfl⟩
         obtain ⟨y0,y1,y2,y4⟩:=HWW.out W1 rfl;have HS1:Hid _:=HWW.out W1.drew rfl;have HQA:Hid (qe S w (.slice xa x.attrs.length xc) x.attrs):=hqa;have HBW:Hid (Below w.heap.size w W1.drew):=HMk.out.md.below.drew
         have hal:x.attrs.length≤4398046511104:=by
          have:=ZH HGL.out HX.out;omega
         have hne2:wr.heap.size≠db:=by have:=HMk.out.lo;omega
         have HNX:Hid ((Value.slice ja k jc).ownBlock≠some wr.heap.size):=fun e=>qv HMk.out.md.row.own (B':=0) ⟨nZ9 _,_,_,HMk.out.box⟩ (by decide) e.symm
         have HND:Hid ((Value.slice ja k jc).ownBlock≠some db):=fun e=>by have:=(HMk.out.md.row.own.lt _ e).1;omega
         have hk20:k≤1048576:=by omega
         have HDW:Hid (db+1≤W1.heap.size):=hdbl
         have HKP:Hid (∀ (w3 w6:World) (X:Obj),Below W1.drew.heap.size W1.drew w3→(w3.alloc X).grownBy w6 (Value.slice ja k jc).ownBlock→∀ b,b<W1.heap.size→(Value.slice ja k jc).ownBlock≠some b→w6.heap[b]?=W1.heap[b]?):=by
          intro w3 w6 X h3 h6 b h1 h2;have hs:W1.heap.size≤w3.heap.size:=h3.size;rw[h6.block b (by simp;omega) (fun e=>h2 e.symm),Lib.alloc_old _ _ _ (by omega)]
          exact h3.block b h1
         clear hqa c0 c1 c2 c3 c4 o0;refine wp_region_held_drew (S:=fun W:World=>W.cell? ⟨wr.heap.size,0,none⟩=some (.bool x.text)∧W.cell? ⟨wr.heap.size,1,none⟩=some (.string x.s)∧W.cell? ⟨wr.heap.size,2,none⟩=some (.slice xa x.attrs.length xc)∧W.cell? ⟨wr.heap.size,4,none⟩=some (.int .i64 x.parent)) (by kernel_rfl) HS1.out (fun hHeld=>?_)
         refine wpAnyH_take (i:=0) (v:=?_) rfl (by kernel_rfl) (by kernel_rfl) (by kernel_rfl) (fun _ _ _ h=>h) (Or.inl ⟨by rfl,?_⟩) (by assumption) ?_
         rotate_left
         · (intro w hSw;(try dsimp only at hSw);go_simp;try with_reducible rfl)
         try simp only[Act.put,List.getElem_toArray,List.getElem_cons_succ,List.getElem_cons_zero,List.setIfInBounds_toArray,List.set_cons_zero,List.set_cons_succ]
         refine wpAnyH_take (i:=2) (v:=?_) rfl (by kernel_rfl) (by kernel_rfl) (by kernel_rfl) (fun _ _ _ h=>h) (Or.inl ⟨by rfl,?_⟩) (by assumption) ?_
         rotate_left
         · (intro w hSw;(try dsimp only at hSw);go_simp;try with_reducible rfl)
         try simp only[Act.put,List.getElem_toArray,List.getElem_cons_succ,List.getElem_cons_zero,List.setIfInBounds_toArray,List.set_cons_zero,List.set_cons_succ]
         refine wpAnyH_take (i:=3) (v:=?_) rfl (by kernel_rfl) (by kernel_rfl) (by kernel_rfl) (fun _ _ _ h=>h) (Or.inl ⟨by rfl,?_⟩) (by assumption) ?_
         rotate_left
         · (intro w hSw;(try dsimp only at hSw);go_simp;try with_reducible rfl)
         try simp only[Act.put,List.getElem_toArray,List.getElem_cons_succ,List.getElem_cons_zero,List.setIfInBounds_toArray,List.set_cons_zero,List.set_cons_succ]
         refine wpAnyH_take (i:=4) (v:=?_) rfl (by kernel_rfl) (by kernel_rfl) (by kernel_rfl) (fun _ _ _ h=>h) (Or.inl ⟨by rfl,?_⟩) (by assumption) ?_
         rotate_left
         · (intro w hSw;(try dsimp only at hSw);go_simp;try with_reducible rfl)
         try simp only[Act.put,List.getElem_toArray,List.getElem_cons_succ,List.getElem_cons_zero,List.setIfInBounds_toArray,List.set_cons_zero,List.set_cons_succ]
         refine wpAnyH_take (i:=5) (v:=?_) rfl (by kernel_rfl) (by kernel_rfl) (by kernel_rfl) (fun _ _ _ h=>h) (Or.inl ⟨by rfl,?_⟩) (by assumption) ?_
         rotate_left
         · (intro w hSw;(try dsimp only at hSw);go_simp;try with_reducible rfl)
         try simp only[Act.put,List.getElem_toArray,List.getElem_cons_succ,List.getElem_cons_zero,List.setIfInBounds_toArray,List.set_cons_zero,List.set_cons_succ]
         refine wpAnyH_take (i:=6) (v:=?_) rfl (by kernel_rfl) (by kernel_rfl) (by kernel_rfl) (fun _ _ _ h=>h) (Or.inl ⟨by rfl,?_⟩) (by assumption) ?_
         rotate_left
         · (intro w hSw;(try dsimp only at hSw);go_simp;try with_reducible rfl)
         try simp only[Act.put,List.getElem_toArray,List.getElem_cons_succ,List.getElem_cons_zero,List.setIfInBounds_toArray,List.set_cons_zero,List.set_cons_succ]
         refine wpAnyH_take (i:=7) (v:=?_) rfl (by kernel_rfl) (by kernel_rfl) (by kernel_rfl) (fun _ _ _ h=>h) (Or.inl ⟨by rfl,?_⟩) (by assumption) ?_
         rotate_left
         · (intro w hSw;(try dsimp only at hSw);go_simp;try with_reducible rfl)
         try simp only[Act.put,List.getElem_toArray,List.getElem_cons_succ,List.getElem_cons_zero,List.setIfInBounds_toArray,List.set_cons_zero,List.set_cons_succ]
         refine wpAnyH_take (i:=8) (v:=?_) rfl (by kernel_rfl) (by kernel_rfl) (by kernel_rfl) (fun _ _ _ h=>h) (Or.inl ⟨by rfl,?_⟩) (by assumption) ?_
         rotate_left
         · (intro w hSw;(try dsimp only at hSw);go_simp;try with_reducible rfl)
         try simp only[Act.put,List.getElem_toArray,List.getElem_cons_succ,List.getElem_cons_zero,List.setIfInBounds_toArray,List.set_cons_zero,List.set_cons_succ]
         refine wpAnyH_take (i:=9) (v:=?_) rfl (by kernel_rfl) (by kernel_rfl) (by kernel_rfl) (fun _ _ _ h=>h) (Or.inl ⟨by rfl,?_⟩) (by assumption) ?_
         rotate_left
         · (intro w hSw;(try dsimp only at hSw);go_simp;try with_reducible rfl)
         try simp only[Act.put,List.getElem_toArray,List.getElem_cons_succ,List.getElem_cons_zero,List.setIfInBounds_toArray,List.set_cons_zero,List.set_cons_succ]
         refine wpAnyH_take (i:=10) (v:=?_) rfl (by kernel_rfl) (by kernel_rfl) (by kernel_rfl) (fun _ _ _ h=>h) (Or.inl ⟨by rfl,?_⟩) (by assumption) ?_
         rotate_left
         · (intro w hSw;(try dsimp only at hSw);go_simp;try with_reducible rfl)
         try simp only[Act.put,List.getElem_toArray,List.getElem_cons_succ,List.getElem_cons_zero,List.setIfInBounds_toArray,List.set_cons_zero,List.set_cons_succ]
         refine wpAnyH_take (i:=12) (v:=?_) rfl (by kernel_rfl) (by kernel_rfl) (by kernel_rfl) (fun _ _ _ h=>h) (Or.inl ⟨by rfl,?_⟩) (by assumption) ?_
         rotate_left
         · (intro w hSw;(try dsimp only at hSw);go_simp;try with_reducible rfl)
         try simp only[Act.put,List.getElem_toArray,List.getElem_cons_succ,List.getElem_cons_zero,List.setIfInBounds_toArray,List.set_cons_zero,List.set_cons_succ]
         refine wpAnyH_take (i:=13) (v:=?_) rfl (by kernel_rfl) (by kernel_rfl) (by kernel_rfl) (fun _ _ _ h=>h) (Or.inl ⟨by rfl,?_⟩) (by assumption) ?_
         rotate_left
         · (intro w hSw;(try dsimp only at hSw);go_simp;try with_reducible rfl)
         try simp only[Act.put,List.getElem_toArray,List.getElem_cons_succ,List.getElem_cons_zero,List.setIfInBounds_toArray,List.set_cons_zero,List.set_cons_succ]
         refine wpAnyH_ready (rs:=[1,11]) (by kernel_rfl) (by simp) ?_
         refine AllReadyH.cons rfl (fun K hK=>?_) (AllReadyH.cons rfl (fun K hK=>?_) AllReadyH.nil)
         · go_simp;refine hK.out _ _ HS1.out (fun hHeld=>?_)
           clear hK K
           try simp only[Act.put,List.setIfInBounds_toArray,List.set_cons_zero,List.set_cons_succ]
           refine wpAnyH_ready (rs:=[11]) (by kernel_rfl) (by simp) ?_
           refine AllReadyH.cons rfl (fun K hK=>?_) AllReadyH.nil
           refine zC (by rfl) (.tmp 37) (by rfl) S (.slice xa x.attrs.length xc) x.attrs (by first|rfl|simp[Act.eval]) (HQA.out.later HBW.out) hal ?_
           intro va3 w3 hA3 hb3;obtain ⟨a3,c3',rfl⟩:=hA3.shape;have HS3:Hid _:=HWW.out w3 (hb3.block _ hxb);have z3:w3.cell? ⟨db,0,none⟩=some (.slice ja k jc):=(hb3.cell (p:=⟨db,0,none⟩) hdbl).trans o1;have z3a:(w3.alloc (.cells #[.bool x.text,.string x.s,.slice a3 x.attrs.length c3',.int .i64 x.parent,.slice none 0 0] 90)).cell? ⟨db,0,none⟩=some (.slice ja k jc):=Lib.cell?_alloc_some _ z3;have HS4:Hid _:=HWW.out (w3.alloc (.cells #[.bool x.text,.string x.s,.slice a3 x.attrs.length c3',.int .i64 x.parent,.slice none 0 0] 90)) ((Lib.alloc_old _ _ _ (Nat.lt_of_lt_of_le hxb hb3.size)).trans (hb3.block _ hxb));refine hK.out _ _ HS3.out (fun hHeld=>?_)
           clear hK K
           try simp only[Act.put,List.setIfInBounds_toArray,List.set_cons_zero,List.set_cons_succ]
           refine wpAnyH_take (i:=14) (v:=?_) rfl (by kernel_rfl) (by kernel_rfl) (by kernel_rfl) (fun _ _ _ h=>h) (Or.inl ⟨by rfl,?_⟩) (by assumption) ?_
           rotate_left
           · (intro w hSw;(try dsimp only at hSw);go_simp;try with_reducible rfl)
           try simp only[Act.put,List.getElem_toArray,List.getElem_cons_succ,List.getElem_cons_zero,List.setIfInBounds_toArray,List.set_cons_zero,List.set_cons_succ]
           refine wpAnyH_ready (rs:=[15]) (by kernel_rfl) (by simp) ?_
           refine AllReadyH.cons rfl (fun K hK=>?_) AllReadyH.nil
           go_simp;refine hK.out _ _ HS4.out (fun hHeld=>?_)
           clear hK K
           try simp only[Act.put,List.setIfInBounds_toArray,List.set_cons_zero,List.set_cons_succ]
           refine wpAnyH_ready (rs:=[16]) (by kernel_rfl) (by simp) ?_
           refine AllReadyH.cons rfl (fun K hK=>?_) AllReadyH.nil
           refine j6 (by rfl) (.tmp 28) (.tmp 42) (by rfl) (db+1) (.slice ja k jc) k (rawCells ms) (by first|rfl|simp[Act.eval]) (by have:=World.ownsRow.alloc (qq (w:=W1.drew) HMk.out.md.row.own hb3) (.cells #[.bool x.text,.string x.s,.slice a3 x.attrs.length c3',.int .i64 x.parent,.slice none 0 0] 90);rw[HLK.out]at this;exact this) ⟨w3.heap.size,0,none⟩ x.text x.s a3 x.attrs.length c3' x.parent none 0 0 (by first|rfl|simp[Act.eval]) (yV _ _ _ _ _ _ _) hk20 (by have h1:W1.heap.size≤w3.heap.size:=hb3.size;have h2:=HDW.out;rw[World.size_alloc];omega) ?_
           intro v6 w6 hown6 hgr6 hat6;obtain ⟨a6,n6,c6,rfl⟩:=qC hown6;have hk6:=HKP.out w3 w6 _ hb3 hgr6;have hd6:=(hk6 db hdbl HND.out).trans HMk.out.md.out;have z6:=cH9 hd6 0;have f6:=fH9 hd6 0;simp at z6
           have HS5:Hid _:=HWW.out w6 (hk6 _ hxb HNX.out);have HS6:Hid _:=HWW.out (w6.setCell ⟨db,0,none⟩ (.slice a6 n6 c6)) ((qd hne2).trans (hk6 _ hxb HNX.out));refine hK.out _ _ HS5.out (fun hHeld=>?_)
           clear hK K
           try simp only[Act.put,List.setIfInBounds_toArray,List.set_cons_zero,List.set_cons_succ]
           refine wpAnyH_take (i:=17) (v:=?_) rfl (by kernel_rfl) (by kernel_rfl) (by kernel_rfl) (fun _ _ _ h=>h) (Or.inl ⟨by rfl,?_⟩) (by assumption) ?_
           rotate_left
           · (intro w hSw;(try dsimp only at hSw);go_simp;try with_reducible rfl)
           try simp only[Act.put,List.getElem_toArray,List.getElem_cons_succ,List.getElem_cons_zero,List.setIfInBounds_toArray,List.set_cons_zero,List.set_cons_succ]
           refine wpAnyH_ready (rs:=[18]) (by kernel_rfl) (by simp) ?_
           refine AllReadyH.cons rfl (fun K hK=>?_) AllReadyH.nil
           go_simp;refine hK.out _ _ HS6.out (fun hHeld=>?_)
           clear hK K
           try simp only[Act.put,List.setIfInBounds_toArray,List.set_cons_zero,List.set_cons_succ]
           refine wpAnyH_done (by kernel_rfl) ?_ _
           have HR8:Hid _:=Xl (w3:=w3) HMk.out HLK.out ((Below.refl _ W1).drew.trans hb3) hA3 hown6 hgr6;go_wp2_with fail
           go_meet
           case rel => exact ⟨_,_,HR8.out⟩
         · refine zC (by rfl) (.tmp 37) (by rfl) S (.slice xa x.attrs.length xc) x.attrs (by first | rfl | simp[Act.eval]) (HQA.out.later HBW.out) hal ?_
           intro va3 w3 hA3 hb3;obtain ⟨a3,c3',rfl⟩:=hA3.shape;have HS3:Hid _:=HWW.out w3 (hb3.block _ hxb);have z3:w3.cell? ⟨db,0,none⟩=some (.slice ja k jc):=(hb3.cell (p:=⟨db,0,none⟩) hdbl).trans o1;have z3a:(w3.alloc (.cells #[.bool x.text,.string x.s,.slice a3 x.attrs.length c3',.int .i64 x.parent,.slice none 0 0] 90)).cell? ⟨db,0,none⟩=some (.slice ja k jc):=Lib.cell?_alloc_some _ z3;have HS4:Hid _:=HWW.out (w3.alloc (.cells #[.bool x.text,.string x.s,.slice a3 x.attrs.length c3',.int .i64 x.parent,.slice none 0 0] 90)) ((Lib.alloc_old _ _ _ (Nat.lt_of_lt_of_le hxb hb3.size)).trans (hb3.block _ hxb));refine hK.out _ _ HS3.out (fun hHeld=>?_)
           clear hK K
           try simp only[Act.put,List.setIfInBounds_toArray,List.set_cons_zero,List.set_cons_succ]
           refine wpAnyH_take (i:=14) (v:=?_) rfl (by kernel_rfl) (by kernel_rfl) (by kernel_rfl) (fun _ _ _ h=>h) (Or.inl ⟨by rfl,?_⟩) (by assumption) ?_
           rotate_left
           · (intro w hSw;(try dsimp only at hSw);go_simp;try with_reducible rfl)
           try simp only[Act.put,List.getElem_toArray,List.getElem_cons_succ,List.getElem_cons_zero,List.setIfInBounds_toArray,List.set_cons_zero,List.set_cons_succ]
           refine wpAnyH_ready (rs:=[1,15]) (by kernel_rfl) (by simp) ?_
           refine AllReadyH.cons rfl (fun K hK=>?_) (AllReadyH.cons rfl (fun K hK=>?_) AllReadyH.nil)
           · go_simp;refine hK.out _ _ HS3.out (fun hHeld=>?_)
             clear hK K
             try simp only[Act.put,List.setIfInBounds_toArray,List.set_cons_zero,List.set_cons_succ]
             refine wpAnyH_ready (rs:=[15]) (by kernel_rfl) (by simp) ?_
             refine AllReadyH.cons rfl (fun K hK=>?_) AllReadyH.nil
             go_simp;refine hK.out _ _ HS4.out (fun hHeld=>?_)
             clear hK K
             try simp only[Act.put,List.setIfInBounds_toArray,List.set_cons_zero,List.set_cons_succ]
             refine wpAnyH_ready (rs:=[16]) (by kernel_rfl) (by simp) ?_
             refine AllReadyH.cons rfl (fun K hK=>?_) AllReadyH.nil
             refine j6 (by rfl) (.tmp 28) (.tmp 42) (by rfl) (db+1) (.slice ja k jc) k (rawCells ms) (by first|rfl|simp[Act.eval]) (by have:=World.ownsRow.alloc (qq (w:=W1.drew) HMk.out.md.row.own hb3) (.cells #[.bool x.text,.string x.s,.slice a3 x.attrs.length c3',.int .i64 x.parent,.slice none 0 0] 90);rw[HLK.out]at this;exact this) ⟨w3.heap.size,0,none⟩ x.text x.s a3 x.attrs.length c3' x.parent none 0 0 (by first|rfl|simp[Act.eval]) (yV _ _ _ _ _ _ _) hk20 (by have h1:W1.heap.size≤w3.heap.size:=hb3.size;have h2:=HDW.out;rw[World.size_alloc];omega) ?_
             intro v6 w6 hown6 hgr6 hat6;obtain ⟨a6,n6,c6,rfl⟩:=qC hown6;have hk6:=HKP.out w3 w6 _ hb3 hgr6;have hd6:=(hk6 db hdbl HND.out).trans HMk.out.md.out;have z6:=cH9 hd6 0;have f6:=fH9 hd6 0;simp at z6
             have HS5:Hid _:=HWW.out w6 (hk6 _ hxb HNX.out);have HS6:Hid _:=HWW.out (w6.setCell ⟨db,0,none⟩ (.slice a6 n6 c6)) ((qd hne2).trans (hk6 _ hxb HNX.out));refine hK.out _ _ HS5.out (fun hHeld=>?_)
             clear hK K
             try simp only[Act.put,List.setIfInBounds_toArray,List.set_cons_zero,List.set_cons_succ]
             refine wpAnyH_take (i:=17) (v:=?_) rfl (by kernel_rfl) (by kernel_rfl) (by kernel_rfl) (fun _ _ _ h=>h) (Or.inl ⟨by rfl,?_⟩) (by assumption) ?_
             rotate_left
             · (intro w hSw;(try dsimp only at hSw);go_simp;try with_reducible rfl)
             try simp only[Act.put,List.getElem_toArray,List.getElem_cons_succ,List.getElem_cons_zero,List.setIfInBounds_toArray,List.set_cons_zero,List.set_cons_succ]
             refine wpAnyH_ready (rs:=[18]) (by kernel_rfl) (by simp) ?_
             refine AllReadyH.cons rfl (fun K hK=>?_) AllReadyH.nil
             go_simp;refine hK.out _ _ HS6.out (fun hHeld=>?_)
             clear hK K
             try simp only[Act.put,List.setIfInBounds_toArray,List.set_cons_zero,List.set_cons_succ]
             refine wpAnyH_done (by kernel_rfl) ?_ _
             have HR8:Hid _:=Xl (w3:=w3) HMk.out HLK.out ((Below.refl _ W1).drew.trans hb3) hA3 hown6 hgr6;go_wp2_with fail
             go_meet
             case rel => exact ⟨_,_,HR8.out⟩
           · go_simp;refine hK.out _ _ HS4.out (fun hHeld=>?_)
             clear hK K
             try simp only[Act.put,List.setIfInBounds_toArray,List.set_cons_zero,List.set_cons_succ]
             refine wpAnyH_ready (rs:=[1]) (by kernel_rfl) (by simp) ?_
             refine AllReadyH.cons rfl (fun K hK=>?_) AllReadyH.nil
             go_simp;refine hK.out _ _ HS4.out (fun hHeld=>?_)
             clear hK K
             try simp only[Act.put,List.setIfInBounds_toArray,List.set_cons_zero,List.set_cons_succ]
             refine wpAnyH_ready (rs:=[16]) (by kernel_rfl) (by simp) ?_
             refine AllReadyH.cons rfl (fun K hK=>?_) AllReadyH.nil
             refine j6 (by rfl) (.tmp 28) (.tmp 42) (by rfl) (db+1) (.slice ja k jc) k (rawCells ms) (by first|rfl|simp[Act.eval]) (by have:=World.ownsRow.alloc (qq (w:=W1.drew) HMk.out.md.row.own hb3) (.cells #[.bool x.text,.string x.s,.slice a3 x.attrs.length c3',.int .i64 x.parent,.slice none 0 0] 90);rw[HLK.out]at this;exact this) ⟨w3.heap.size,0,none⟩ x.text x.s a3 x.attrs.length c3' x.parent none 0 0 (by first|rfl|simp[Act.eval]) (yV _ _ _ _ _ _ _) hk20 (by have h1:W1.heap.size≤w3.heap.size:=hb3.size;have h2:=HDW.out;rw[World.size_alloc];omega) ?_
             intro v6 w6 hown6 hgr6 hat6;obtain ⟨a6,n6,c6,rfl⟩:=qC hown6;have hk6:=HKP.out w3 w6 _ hb3 hgr6;have hd6:=(hk6 db hdbl HND.out).trans HMk.out.md.out;have z6:=cH9 hd6 0;have f6:=fH9 hd6 0;simp at z6
             have HS5:Hid _:=HWW.out w6 (hk6 _ hxb HNX.out);have HS6:Hid _:=HWW.out (w6.setCell ⟨db,0,none⟩ (.slice a6 n6 c6)) ((qd hne2).trans (hk6 _ hxb HNX.out));refine hK.out _ _ HS5.out (fun hHeld=>?_)
             clear hK K
             try simp only[Act.put,List.setIfInBounds_toArray,List.set_cons_zero,List.set_cons_succ]
             refine wpAnyH_take (i:=17) (v:=?_) rfl (by kernel_rfl) (by kernel_rfl) (by kernel_rfl) (fun _ _ _ h=>h) (Or.inl ⟨by rfl,?_⟩) (by assumption) ?_
             rotate_left
             · (intro w hSw;(try dsimp only at hSw);go_simp;try with_reducible rfl)
             try simp only[Act.put,List.getElem_toArray,List.getElem_cons_succ,List.getElem_cons_zero,List.setIfInBounds_toArray,List.set_cons_zero,List.set_cons_succ]
             refine wpAnyH_ready (rs:=[18]) (by kernel_rfl) (by simp) ?_
             refine AllReadyH.cons rfl (fun K hK=>?_) AllReadyH.nil
             go_simp;refine hK.out _ _ HS6.out (fun hHeld=>?_)
             clear hK K
             try simp only[Act.put,List.setIfInBounds_toArray,List.set_cons_zero,List.set_cons_succ]
             refine wpAnyH_done (by kernel_rfl) ?_ _
             have HR8:Hid _:=Xl (w3:=w3) HMk.out HLK.out ((Below.refl _ W1).drew.trans hb3) hA3 hown6 hgr6;go_wp2_with fail
             go_meet
             case rel => exact ⟨_,_,HR8.out⟩
        case rest =>
         obtain ⟨vd8,va8,hM8⟩:=hcut;have hl8:(qT L k++[{ x with kids:=[] }]).length=k+1:=by rw[List.length_append,HLK.out];rfl
         obtain ⟨ja8,jc8,rfl,hjl8,hjm8⟩:=hM8.md.row.shape;rw[hl8]at hM8 hjl8
         have HM8:Hid _:=hM8;have HL8:Hid _:=hl8;have y9:wc.cell? ⟨wr.heap.size,4,none⟩=some (.int .i64 x.parent):=by rw[cH9 hM8.box];rfl
         clear hM8 hl8 HMk o1 o0 c0 c1 c2 c3 c4
         go_upto_if 47 with fail
         go_cut [] from 18 to 82 (fun wz=>∃ (vd':Value) (ms':List Rw),Mk w db wr.heap.size #[.bool x.text,.string x.s,.slice xa x.attrs.length xc,.slice ya t'.kids.length yc,.int .i64 x.parent] vd' (qT L (k+1)) ms' (.slice (some ⟨b,o,none⟩) (qs.length+1) qc) (⟨x.text,x.s,.slice xa x.attrs.length xc,.slice ya t'.kids.length yc,x.parent⟩::qs) wz)
         case first =>
          by_cases hp:x.parent<0
          · have hpb : ¬ (0 ≤ x.parent) := by omega
            have HPR:Hid _:=JG HGL.out HX.out hp;go_wp2_with fail
            go_meet
            case rel => exact ⟨_,_,by rw[HPR.out];exact HM8.out⟩
          · obtain ⟨q,y,hy,hpq,hqk,_⟩:∃ q y,L[q]?=some y∧x.parent=((q:Nat):Int)∧q<k∧True:=by
             rcases (qF HGL.out HX.out).par with ⟨_,h1⟩|⟨q,y,h1,h2,h3,_⟩
             · omega
             · exact ⟨q,y,h1,h2,by omega,trivial⟩
            have HPR:Hid _:=JF HGL.out HX.out hpq hqk hy;have hpb:0≤x.parent:=by omega
            have hl8q:(qT L k++[{ x with kids:=[] }])[q]?=some (zA k y):=by
             rw[List.getElem?_append_left (by rw[HLK.out];exact hqk)]
             exact (ZW HGL.out HX.out hqk hy).1
            obtain ⟨r,hr⟩:∃ r,(ms++[(⟨x.text,x.s,va8,x.parent,.slice none 0 0⟩:Rw)])[q]?=some r:=⟨(ms++[(⟨x.text,x.s,va8,x.parent,.slice none 0 0⟩:Rw)])[q]'(by rw[HM8.out.md.row.len];exact qD hl8q),by simp⟩
            obtain ⟨g,cap8,hv8,_,_,hgB,hgl,_,hk4,hf4⟩:=HM8.out.md.row.at hr
            have hRr:=HM8.out.md.row.each q r _ hr hl8q;rw[HL8.out]at hv8
            injection hv8 with hv8a _ hv8c
            subst hv8a hv8c;obtain ⟨ra,rc,hrv,_,_⟩:=hRr.2.2.2.2.shape;have hown0:=hRr.2.2.2.2;have HRK:Hid (r.vk=.slice ra (zA k y).kids.length rc):=hrv;rw[hrv]at hk4 hown0
            have hkl:(zA k y).kids.length≤1048576:=by
             have h1:=(qF HGL.out hy).row;have h2:(zA k y).kids.length≤y.kids.length:=List.length_filter_le _ _;have h3:=Xf HGL.out hy;omega
            obtain ⟨kl,hkl2⟩:∃ kl,(zA k y).kids.length=kl:=⟨_,rfl⟩;rw[hkl2]at hkl hk4 HRK
            have HKL:Hid ((zA k y).kids.length=kl):=hkl2
            have HOW:Hid (wc.ownsRow (db+1) 3 1 (.slice ra kl rc) kl (qM (zA k y).kids)):=by
             have h1:wc.ownsRow (db+1) 3 1 (.slice ra (zA k y).kids.length rc) (zA k y).kids.length (qM (zA k y).kids):=hown0;rw[hkl2]at h1
             exact h1
            have hxb:=qf HM8.out.box;have hdbl:=qf HM8.out.md.out;have hne1:wr.heap.size≠g:=fun e=>jN (W:=wc) (B:=0) ⟨nZ9 _,_,_,HM8.out.box⟩ ⟨nZ9 _,(qI HM8.out.md.row.own rfl).2⟩ (by decide) e
            have hne2:db≠g:=by omega
            have HNX:Hid ((Value.slice ra kl rc).ownBlock≠some wr.heap.size):=fun e=>qv HOW.out (B':=0) ⟨nZ9 _,_,_,HM8.out.box⟩ (by decide) e.symm
            have HND:Hid ((Value.slice ra kl rc).ownBlock≠some db):=fun e=>by have:=(World.ownsRow.lt HOW.out _ e).1;omega
            have HNG:Hid ((Value.slice ra kl rc).ownBlock≠some g):=fun e=>qv HOW.out (B':=0) ⟨nZ9 _,(qI HM8.out.md.row.own rfl).2⟩ (by decide) e.symm
            have HWW:Hid (∀ W':World,W'.heap[wr.heap.size]?=wc.heap[wr.heap.size]?→W'.heap[db]?=wc.heap[db]?→W'.cell? ⟨wr.heap.size,4,none⟩=some (.int .i64 (q:Int))∧W'.cell? ⟨db,0,none⟩=some (.slice (some ⟨g,0,none⟩) (k+1) jc8)):=by
             intro W' h2 h3;rw[HM8.out.box]at h2
             rw[HM8.out.md.out]at h3
             exact ⟨by rw[cH9 h2];simp[hpq],by rw[cH9 h3];rfl⟩
            have HS1:Hid _:=HWW.out wc.drew rfl rfl;have HS2:Hid _:=HWW.out (wc.drew.alloc (.cells #[.int .i64 (k:Int)] 3)) (Lib.alloc_old _ _ _ hxb) (Lib.alloc_old _ _ _ hdbl);have hk4a:(wc.drew.alloc (.cells #[.int .i64 (k:Int)] 3)).cell? ⟨g,q*5+4,none⟩=some (.slice ra kl rc):=Lib.cell?_alloc_some (W:=wc.drew) _ hk4
            have HKP:Hid (∀ w6:World,(wc.drew.alloc (.cells #[.int .i64 (k:Int)] 3)).grownBy w6 (Value.slice ra kl rc).ownBlock→∀ b,b<wc.heap.size→(Value.slice ra kl rc).ownBlock≠some b→w6.heap[b]?=wc.heap[b]?):=by
             intro w6 h6 b h1 h2;rw[h6.block b (by rw[World.size_alloc];show b<wc.heap.size+1;omega) (fun e=>h2 e.symm)]
             exact Lib.alloc_old _ _ _ h1
            have hq0:(0:Int)≤(q:Int):=by omega
            have hqk1:(q:Int)<(k:Int)+1:=by omega
            have HPQ:Hid (x.parent=(q:Int)):=hpq;have HRR:Hid _:=hr;have HLQ:Hid _:=hl8q;have hdbw:db+1≤wc.heap.size:=hdbl;clear hpq hr hl8q hRr hrv hown0 hkl2 hp y9;go_wp2_with fail;refine wp_region_held_drew (S:=fun W:World=>W.cell? ⟨wr.heap.size,4,none⟩=some (.int .i64 (q:Int))∧W.cell? ⟨db,0,none⟩=some (.slice (some ⟨g,0,none⟩) (k+1) jc8)) (by kernel_rfl) HS1.out (fun hHeld=>?_)
            refine wpAnyH_take (i:=0) (v:=?_) rfl (by kernel_rfl) (by kernel_rfl) (by kernel_rfl) (fun _ _ _ h=>h) (Or.inl ⟨by rfl,?_⟩) (by assumption) ?_
            rotate_left
            · (intro w hSw;(try dsimp only at hSw);go_simp;try with_reducible rfl)
            try simp only[Act.put,List.getElem_toArray,List.getElem_cons_succ,List.getElem_cons_zero,List.setIfInBounds_toArray,List.set_cons_zero,List.set_cons_succ]
            refine wpAnyH_take (i:=1) (v:=?_) rfl (by kernel_rfl) (by kernel_rfl) (by kernel_rfl) (fun _ _ _ h=>h) (Or.inl ⟨by rfl,?_⟩) (by assumption) ?_
            rotate_left
            · (intro w hSw;(try dsimp only at hSw);go_simp;try with_reducible rfl)
            try simp only[Act.put,List.getElem_toArray,List.getElem_cons_succ,List.getElem_cons_zero,List.setIfInBounds_toArray,List.set_cons_zero,List.set_cons_succ]
            refine wpAnyH_take (i:=2) (v:=?_) rfl (by kernel_rfl) (by kernel_rfl) (by kernel_rfl) (fun _ _ _ h=>h) (Or.inl ⟨by rfl,?_⟩) (by assumption) ?_
            rotate_left
            · (intro w hSw;(try dsimp only at hSw);go_simp;try with_reducible rfl)
            try simp only[Act.put,List.getElem_toArray,List.getElem_cons_succ,List.getElem_cons_zero,List.setIfInBounds_toArray,List.set_cons_zero,List.set_cons_succ]
            refine wpAnyH_take (i:=3) (v:=?_) rfl (by kernel_rfl) (by kernel_rfl) (by kernel_rfl) (fun _ _ _ h=>h) (Or.inl ⟨by rfl,?_⟩) (by assumption) ?_
            rotate_left
            · (intro w hSw;(try dsimp only at hSw);go_simp;try with_reducible rfl)
            try simp only[Act.put,List.getElem_toArray,List.getElem_cons_succ,List.getElem_cons_zero,List.setIfInBounds_toArray,List.set_cons_zero,List.set_cons_succ]
            refine wpAnyH_take (i:=4) (v:=?_) rfl (by kernel_rfl) (by kernel_rfl) (by kernel_rfl) (fun _ _ _ h=>h) (Or.inl ⟨by rfl,?_⟩) (by assumption) ?_
            rotate_left
            · (intro w hSw;(try dsimp only at hSw);go_simp;try with_reducible rfl)
            try simp only[Act.put,List.getElem_toArray,List.getElem_cons_succ,List.getElem_cons_zero,List.setIfInBounds_toArray,List.set_cons_zero,List.set_cons_succ]
            refine wpAnyH_take (i:=5) (v:=?_) rfl (by kernel_rfl) (by kernel_rfl) (by kernel_rfl) (fun _ _ _ h=>h) (Or.inl ⟨by rfl,?_⟩) (by assumption) ?_
            rotate_left
            · (intro w hSw;(try dsimp only at hSw);go_simp;try with_reducible rfl)
            try simp only[Act.put,List.getElem_toArray,List.getElem_cons_succ,List.getElem_cons_zero,List.setIfInBounds_toArray,List.set_cons_zero,List.set_cons_succ]
            refine wpAnyH_take (i:=6) (v:=?_) rfl (by kernel_rfl) (by kernel_rfl) (by kernel_rfl) (fun _ _ _ h=>h) (Or.inl ⟨by rfl,?_⟩) (by assumption) ?_
            rotate_left
            · (intro w hSw;(try dsimp only at hSw);go_simp;try with_reducible rfl)
            try simp only[Act.put,List.getElem_toArray,List.getElem_cons_succ,List.getElem_cons_zero,List.setIfInBounds_toArray,List.set_cons_zero,List.set_cons_succ]
            refine wpAnyH_take (i:=7) (v:=?_) rfl (by kernel_rfl) (by kernel_rfl) (by kernel_rfl) (fun _ _ _ h=>h) (Or.inl ⟨by rfl,?_⟩) (by assumption) ?_
            rotate_left
            · (intro w hSw;(try dsimp only at hSw);go_simp;try with_reducible rfl)
            try simp only[Act.put,List.getElem_toArray,List.getElem_cons_succ,List.getElem_cons_zero,List.setIfInBounds_toArray,List.set_cons_zero,List.set_cons_succ]
            refine wpAnyH_take (i:=8) (v:=?_) rfl (by kernel_rfl) (by kernel_rfl) (by kernel_rfl) (fun _ _ _ h=>h) (Or.inl ⟨by rfl,?_⟩) (by assumption) ?_
            rotate_left
            · (intro w hSw;(try dsimp only at hSw);go_simp;try with_reducible rfl)
            try simp only[Act.put,List.getElem_toArray,List.getElem_cons_succ,List.getElem_cons_zero,List.setIfInBounds_toArray,List.set_cons_zero,List.set_cons_succ]
            refine wpAnyH_take (i:=9) (v:=?_) rfl (by kernel_rfl) (by kernel_rfl) (by kernel_rfl) (fun _ _ _ h=>h) (Or.inl ⟨by rfl,?_⟩) (by assumption) ?_
            rotate_left
            · (intro w hSw;(try dsimp only at hSw);go_simp;try with_reducible rfl)
            try simp only[Act.put,List.getElem_toArray,List.getElem_cons_succ,List.getElem_cons_zero,List.setIfInBounds_toArray,List.set_cons_zero,List.set_cons_succ]
            refine wpAnyH_take (i:=11) (v:=?_) rfl (by kernel_rfl) (by kernel_rfl) (by kernel_rfl) (fun _ _ _ h=>h) (Or.inl ⟨by rfl,?_⟩) (by assumption) ?_
            rotate_left
            · (intro w hSw;(try dsimp only at hSw);go_simp;try with_reducible rfl)
            try simp only[Act.put,List.getElem_toArray,List.getElem_cons_succ,List.getElem_cons_zero,List.setIfInBounds_toArray,List.set_cons_zero,List.set_cons_succ]
            refine wpAnyH_ready (rs:=[10,12]) (by kernel_rfl) (by simp) ?_
            refine AllReadyH.cons rfl (fun K hK=>?_) (AllReadyH.cons rfl (fun K hK=>?_) AllReadyH.nil)
            · go_simp;refine hK.out _ _ HS1.out (fun hHeld=>?_)
              clear hK K
              try simp only[Act.put,List.setIfInBounds_toArray,List.set_cons_zero,List.set_cons_succ]
              refine wpAnyH_ready (rs:=[12]) (by kernel_rfl) (by simp) ?_
              refine AllReadyH.cons rfl (fun K hK=>?_) AllReadyH.nil
              go_simp;refine hK.out _ _ HS2.out (fun hHeld=>?_)
              clear hK K
              try simp only[Act.put,List.setIfInBounds_toArray,List.set_cons_zero,List.set_cons_succ]
              refine wpAnyH_ready (rs:=[13]) (by kernel_rfl) (by simp) ?_
              refine AllReadyH.cons rfl (fun K hK=>?_) AllReadyH.nil
              refine x6 (by rfl) (.tmp 58) (.tmp 60) (by rfl) (db+1) (.slice ra kl rc) kl (qM (zA k y).kids) (by first|rfl|simp[Act.eval]) (World.ownsRow.alloc (w:=wc.drew) HOW.out (.cells #[.int .i64 (k:Int)] 3)) ⟨wc.heap.size,0,none⟩ (k:Int) (by first|rfl|simp[Act.eval]) (Jb wc.drew _ _) hkl (by show db+1≤(wc.alloc (.cells #[.int .i64 (k:Int)] 3)).heap.size;rw[World.size_alloc];omega) ?_
              intro v6 w6 hown6 hgr6 hat6;obtain ⟨a6,n6,c6,rfl⟩:=qC hown6;have hk6:=HKP.out w6 hgr6;have z6:w6.cell? ⟨g,q*5+4,none⟩=some (.slice ra kl rc):=(World.cell?_of_block (a:=⟨g,q*5+4,none⟩) (hk6 g hgl HNG.out)).trans hk4;have f6:w6.frozen? ⟨g,q*5+4,none⟩=false:=(World.frozen?_of_block (a:=⟨g,q*5+4,none⟩) (hk6 g hgl HNG.out)).trans hf4;have HS5:Hid _:=HWW.out w6 (hk6 _ hxb HNX.out) (hk6 _ hdbl HND.out);have HS6:Hid _:=HWW.out (w6.setCell ⟨g,q*5+4,none⟩ (.slice a6 n6 c6)) ((qd hne1).trans (hk6 _ hxb HNX.out)) ((qd hne2).trans (hk6 _ hdbl HND.out));refine hK.out _ _ HS5.out (fun hHeld=>?_)
              clear hK K
              try simp only[Act.put,List.setIfInBounds_toArray,List.set_cons_zero,List.set_cons_succ]
              refine wpAnyH_take (i:=14) (v:=?_) rfl (by kernel_rfl) (by kernel_rfl) (by kernel_rfl) (fun _ _ _ h=>h) (Or.inl ⟨by rfl,?_⟩) (by assumption) ?_
              rotate_left
              · (intro w hSw;(try dsimp only at hSw);go_simp;try with_reducible rfl)
              try simp only[Act.put,List.getElem_toArray,List.getElem_cons_succ,List.getElem_cons_zero,List.setIfInBounds_toArray,List.set_cons_zero,List.set_cons_succ]
              refine wpAnyH_take (i:=15) (v:=?_) rfl (by kernel_rfl) (by kernel_rfl) (by kernel_rfl) (fun _ _ _ h=>h) (Or.inl ⟨by rfl,?_⟩) (by assumption) ?_
              rotate_left
              · (intro w hSw;(try dsimp only at hSw);go_simp;try with_reducible rfl)
              try simp only[Act.put,List.getElem_toArray,List.getElem_cons_succ,List.getElem_cons_zero,List.setIfInBounds_toArray,List.set_cons_zero,List.set_cons_succ]
              refine wpAnyH_ready (rs:=[16]) (by kernel_rfl) (by simp) ?_
              refine AllReadyH.cons rfl (fun K hK=>?_) AllReadyH.nil
              go_simp;refine hK.out _ _ HS6.out (fun hHeld=>?_)
              clear hK K
              try simp only[Act.put,List.setIfInBounds_toArray,List.set_cons_zero,List.set_cons_succ]
              refine wpAnyH_done (by kernel_rfl) ?_ _
              have HR9:Hid _:=Xk (w4:=w6) (ks:=(zA k y).kids++[(k:Int)]) (X:=.cells #[.int .i64 (k:Int)] 3) (by rw[HL8.out];exact HM8.out) HRR.out HLQ.out (by unfold zm;rw[List.length_append,HKL.out,yF];exact hown6) (by rw[HRK.out];exact ⟨hgr6.os,hgr6.tape,hgr6.output,hgr6.size,hgr6.block⟩) (by rw[HRK.out];exact hat6)
              go_wp2_with fail
              go_meet
              case rel => exact ⟨_,_,by rw[HPR.out];exact HR9.out⟩
            · go_simp;refine hK.out _ _ HS2.out (fun hHeld=>?_)
              clear hK K
              try simp only[Act.put,List.setIfInBounds_toArray,List.set_cons_zero,List.set_cons_succ]
              refine wpAnyH_ready (rs:=[10]) (by kernel_rfl) (by simp) ?_
              refine AllReadyH.cons rfl (fun K hK=>?_) AllReadyH.nil
              go_simp;refine hK.out _ _ HS2.out (fun hHeld=>?_)
              clear hK K
              try simp only[Act.put,List.setIfInBounds_toArray,List.set_cons_zero,List.set_cons_succ]
              refine wpAnyH_ready (rs:=[13]) (by kernel_rfl) (by simp) ?_
              refine AllReadyH.cons rfl (fun K hK=>?_) AllReadyH.nil
              refine x6 (by rfl) (.tmp 58) (.tmp 60) (by rfl) (db+1) (.slice ra kl rc) kl (qM (zA k y).kids) (by first|rfl|simp[Act.eval]) (World.ownsRow.alloc (w:=wc.drew) HOW.out (.cells #[.int .i64 (k:Int)] 3)) ⟨wc.heap.size,0,none⟩ (k:Int) (by first|rfl|simp[Act.eval]) (Jb wc.drew _ _) hkl (by show db+1≤(wc.alloc (.cells #[.int .i64 (k:Int)] 3)).heap.size;rw[World.size_alloc];omega) ?_
              intro v6 w6 hown6 hgr6 hat6;obtain ⟨a6,n6,c6,rfl⟩:=qC hown6;have hk6:=HKP.out w6 hgr6;have z6:w6.cell? ⟨g,q*5+4,none⟩=some (.slice ra kl rc):=(World.cell?_of_block (a:=⟨g,q*5+4,none⟩) (hk6 g hgl HNG.out)).trans hk4;have f6:w6.frozen? ⟨g,q*5+4,none⟩=false:=(World.frozen?_of_block (a:=⟨g,q*5+4,none⟩) (hk6 g hgl HNG.out)).trans hf4;have HS5:Hid _:=HWW.out w6 (hk6 _ hxb HNX.out) (hk6 _ hdbl HND.out);have HS6:Hid _:=HWW.out (w6.setCell ⟨g,q*5+4,none⟩ (.slice a6 n6 c6)) ((qd hne1).trans (hk6 _ hxb HNX.out)) ((qd hne2).trans (hk6 _ hdbl HND.out));refine hK.out _ _ HS5.out (fun hHeld=>?_)
              clear hK K
              try simp only[Act.put,List.setIfInBounds_toArray,List.set_cons_zero,List.set_cons_succ]
              refine wpAnyH_take (i:=14) (v:=?_) rfl (by kernel_rfl) (by kernel_rfl) (by kernel_rfl) (fun _ _ _ h=>h) (Or.inl ⟨by rfl,?_⟩) (by assumption) ?_
              rotate_left
              · (intro w hSw;(try dsimp only at hSw);go_simp;try with_reducible rfl)
              try simp only[Act.put,List.getElem_toArray,List.getElem_cons_succ,List.getElem_cons_zero,List.setIfInBounds_toArray,List.set_cons_zero,List.set_cons_succ]
              refine wpAnyH_take (i:=15) (v:=?_) rfl (by kernel_rfl) (by kernel_rfl) (by kernel_rfl) (fun _ _ _ h=>h) (Or.inl ⟨by rfl,?_⟩) (by assumption) ?_
              rotate_left
              · (intro w hSw;(try dsimp only at hSw);go_simp;try with_reducible rfl)
              try simp only[Act.put,List.getElem_toArray,List.getElem_cons_succ,List.getElem_cons_zero,List.setIfInBounds_toArray,List.set_cons_zero,List.set_cons_succ]
              refine wpAnyH_ready (rs:=[16]) (by kernel_rfl) (by simp) ?_
              refine AllReadyH.cons rfl (fun K hK=>?_) AllReadyH.nil
              go_simp;refine hK.out _ _ HS6.out (fun hHeld=>?_)
              clear hK K
              try simp only[Act.put,List.setIfInBounds_toArray,List.set_cons_zero,List.set_cons_succ]
              refine wpAnyH_done (by kernel_rfl) ?_ _
              have HR9:Hid _:=Xk (w4:=w6) (ks:=(zA k y).kids++[(k:Int)]) (X:=.cells #[.int .i64 (k:Int)] 3) (by rw[HL8.out];exact HM8.out) HRR.out HLQ.out (by unfold zm;rw[List.length_append,HKL.out,yF];exact hown6) (by rw[HRK.out];exact ⟨hgr6.os,hgr6.tape,hgr6.output,hgr6.size,hgr6.block⟩) (by rw[HRK.out];exact hat6)
              go_wp2_with fail
              go_meet
              case rel => exact ⟨_,_,by rw[HPR.out];exact HR9.out⟩
         case rest =>
          obtain ⟨vd9,ms9,hM9⟩:=hcut;have hb5:wc.heap[b]?=wc.heap[b]?:=rfl;obtain ⟨_,_,hiv,_,_,hi4⟩:=hM9.items;obtain ⟨ib,io,hia,hibO,hic⟩:=hi4 (by simp)
          injection hiv with hiv hiv2 hiv3
          clear hiv2 hiv3;rw[hia]at hiv
          injection hiv with hiv
          injection hiv with hib hio _
          subst hib hio
          have HIC:Hid (∀ (j:Nat) (u:Value),(itCells qs)[j]?=some u→wc.cell? ⟨b,o+5+j,none⟩=some u):=by
           intro j u hj;have:=hic (5+j) u (by rw[show 5+j=j+5 from by omega];simpa[itCells] using hj)
           rw[←Nat.add_assoc]at this
           exact this
          have hbl:b<wc.heap.size:=hibO.lt;have HM9:Hid _:=hM9.md;have y3:wc.cell? ⟨wr.heap.size,3,none⟩=some (.slice ya t'.kids.length yc):=by rw[cH9 hM9.box];rfl
          have hlo9:=hM9.md.lo;have hdb9:=qf hM9.md.out;have HRM:Hid _:=WL.room _ _ hWL2;have HWL2:Hid _:=hWL2;have HQK:Hid (qb S w m (.slice ya t'.kids.length yc) t'.kids):=hqk;obtain ⟨i0,hi,hz0,hz1,hz2⟩:=info_parts itemInfo;have HQL:Hid (qs.length=its.length):=by show _=_;simpa using hql
          clear HM8 HL8 y9 hM9 hi4 hic hb5 hWL2 hqk hql;unfold maxLen at hym
          go_wp2_with fail
          go_loopg [68,8] t'.kids.length (fun g j v8 wz=>∃ (i:Nat) (qz:List It),i+g=t'.kids.length∧j=.int .i64 (i:Int)∧wz.ownsRow wc.heap.size 86 5 v8 i (itCells qz)∧qz.length=i∧(∀ (z:Nat) (q:It) (x:Tr × Int),qz[z]?=some q→((t'.kids.take i).map fun u=>(u,(k:Int)))[z]?=some x→QS S w q x)∧MD w db vd9 (qT L (k+1)) ms9 wz∧wz.heap[b]?=wc.heap[b]?∧wc.heap.size≤wz.heap.size)
          case atStart => exact ⟨0,[],by omega,rfl,World.ownsRow_nil _ _ _ _,rfl,fun z q x hq=>by simp at hq,HM9.out,rfl,nR9 _⟩
          case round =>
           obtain ⟨i,qz,hig,rfl,hoz,hqz,hIz,hMz,hbz,hsz⟩:=hrel;obtain ⟨za,zn,zc,rfl⟩:=qC hoz;have HOZ:Hid (wr.ownsRow wc.heap.size 86 5 (.slice za zn zc) i (itCells qz)):=hoz;have HMZ:Hid _:=hMz;have hBz:=hMz.below
           by_cases hil:i<t'.kids.length
           · obtain ⟨u, hu⟩ : ∃ u, t'.kids[i]? = some u := ⟨t'.kids[i], by simp[hil]⟩
             obtain ⟨m',rfl⟩:∃ m',m=m'+1:=by
              cases m with
              | zero=>have:t'.kids=[]:=(qb.deep 0 HQK.out);rw[this]at hil;simp at hil
              | succ m'=>exact ⟨m',rfl⟩
             obtain ⟨ta,tcap,htv,_,_,ht4⟩:=HQK.out;obtain ⟨tb,tof,hta,hSb,htc⟩:=ht4 (by intro e;rw[e]at hil;simp at hil)
             injection htv with htv1 htv3 htv2
             subst htv1 htv2 hta;obtain ⟨uva,uvk,e0,e1,e2,e3,hua,huk⟩:=htc i u hu;have htb:tb<w.heap.size:=World.block_lt_of_cell? w _ e0;rw[←hBz.cell (p:=⟨tb,tof+i*4,none⟩) htb]at e0
             rw[←hBz.cell (p:=⟨tb,tof+i*4+1,none⟩) htb]at e1
             rw[←hBz.cell (p:=⟨tb,tof+i*4+2,none⟩) htb]at e2
             rw[←hBz.cell (p:=⟨tb,tof+i*4+3,none⟩) htb]at e3
             obtain ⟨ua,uc,rfl⟩:=hua.shape;obtain ⟨ka',kc',rfl,_,_⟩:=qb.shape m' huk;have HUA:Hid (qe S w (.slice ua u.attrs.length uc) u.attrs):=hua;have HUK:Hid (qb S w m' (.slice ka' u.kids.length kc') u.kids):=huk;have HSN:Hid ((t'.kids.take (i+1)).map (fun u=>(u,(k:Int)))=(t'.kids.take i).map (fun u=>(u,(k:Int)))++[(u,(k:Int))]):=by show _=_;rw[j8 hu,List.map_append];rfl
             have hili:(i:Int)<(t'.kids.length:Int):=by omega
             have HLT:Hid (((t'.kids.take i).map fun u=>(u,(k:Int))).length=i):=by show _=_;rw[List.length_map,List.length_take];omega
             have HIZ:Hid _:=hIz;have hrm:=HRM.out;simp only[List.length_append,List.length_map]at hrm
             have hi80:i≤80:=by omega
             have HM2:Hid _:=(HMZ.out.later (Below.alloc1 wr (.cells #[.bool u.text,.string u.s,.slice ua u.attrs.length uc,.slice ka' u.kids.length kc'] 25))).later (Below.alloc1 _ (.cells #[.bool u.text,.string u.s,.slice ua u.attrs.length uc,.slice ka' u.kids.length kc',.int .i64 (k:Int)] 86));have HO2:Hid (((wr.alloc (.cells #[.bool u.text,.string u.s,.slice ua u.attrs.length uc,.slice ka' u.kids.length kc'] 25)).alloc (.cells #[.bool u.text,.string u.s,.slice ua u.attrs.length uc,.slice ka' u.kids.length kc',.int .i64 (k:Int)] 86)).ownsRow wc.heap.size 86 5 (.slice za zn zc) i (itCells qz)):=(HOZ.out.alloc _).alloc _
             have hb2:((wr.alloc (.cells #[.bool u.text,.string u.s,.slice ua u.attrs.length uc,.slice ka' u.kids.length kc'] 25)).alloc (.cells #[.bool u.text,.string u.s,.slice ua u.attrs.length uc,.slice ka' u.kids.length kc',.int .i64 (k:Int)] 86)).heap[b]?=wc.heap[b]?:=by
              rw[Lib.alloc_old _ _ _ (by rw[World.size_alloc];omega),Lib.alloc_old _ _ _ (by omega)]
              exact hbz
             have HB2:Hid _:=hb2;clear hoz hMz hIz htc ht4 hua huk htv3 hu hb2 hrm;go_wp2_with (at_builtin;refine wpList_append_own_at _ rfl _ _ 87 rfl wc.heap.size 86 i0 _ 5 80 Tryd.underlying87 hi hz0 hz1 hz2 rfl (by decide) _ _ _ rfl HO2.out ⟨(wr.alloc (.cells #[.bool u.text,.string u.s,.slice ua u.attrs.length uc,.slice ka' u.kids.length kc'] 25)).heap.size,0,none⟩ 1 1 [.bool u.text,.string u.s,.slice ua u.attrs.length uc,.slice ka' u.kids.length kc',.int .i64 (k:Int)] ?qc0 ?qc1 ?qc2 ?qc3 ?qc4 ?qc5 ?qc6 ?_)
             case qc0 => simp[Act.eval]
             case qc1 => rfl
             case qc2 => exact yV _ _ _ _ _ _ _
             case qc3 => intro u hu;simp at hu;rcases hu with rfl|rfl|rfl|rfl|rfl<;>rfl
             case qc4 => unfold maxLen;omega
             case qc5 => omega
             case qc6 => simp;omega
             intro v' w5 hown5 hgr5 _ _;obtain ⟨a5,n5,c5,rfl⟩:=qC hown5;have HM5:Hid _:=HM2.out.grown (by omega) HO2.out hgr5
             have hb5:w5.heap[b]?=wc.heap[b]?:=by
              rw[hgr5.block b (by rw[World.size_alloc,World.size_alloc];omega) (fun e=>by have:=(World.ownsRow.lt HO2.out b e.symm).1;omega)]
              exact HB2.out
             have hs5:wc.heap.size≤w5.heap.size:=by have:=hgr5.size;rw[World.size_alloc,World.size_alloc]at this;omega
             have HO5:Hid (w5.ownsRow wc.heap.size 86 5 (.slice a5 n5 c5) (i+1) (itCells (qz++[⟨u.text,u.s,.slice ua u.attrs.length uc,.slice ka' u.kids.length kc',(k:Int)⟩]))):=by
              have h1:=hown5
              show w5.ownsRow wc.heap.size 86 5 (.slice a5 n5 c5) (i+1) _
              rw[yT];exact h1
             have HB5:Hid _:=hb5;clear hown5 hgr5 hb5;go_wp2_with fail
             go_roundg (t'.kids.length-(i+1))
             case measure => omega
             case rel => exact ⟨i+1,qz++[⟨u.text,u.s,.slice ua u.attrs.length uc,.slice ka' u.kids.length kc',(k:Int)⟩],by omega,by go_num,HO5.out,by rw[List.length_append,hqz];rfl,by
              rw[HSN.out];refine jw (by rw[HLT.out];exact hqz) HIZ.out (fun z q x hq hx=>?_)
              cases z with
              | zero=>simp at hq hx;subst hq hx;exact ⟨rfl,rfl,rfl,HUA.out,m',HUK.out⟩
              | succ z=>simp at hq,HM5.out,HB5.out,hs5⟩
           · have hii : i = t'.kids.length := by omega
             have hili:¬ ((i:Int)<(t'.kids.length:Int)):=by omega
             have HIT:Hid (t'.kids.take i=t'.kids):=by show _=_;rw[hii,List.take_length]
             have HII:Hid (i=t'.kids.length):=hii;have HIZ:Hid _:=hIz;have hrm:=HRM.out;simp only[List.length_append,List.length_map]at hrm
             have hql2:=HQL.out;have hroom:i+qs.length≤80:=by omega
             clear hql2 hrm hii hoz hMz hIz;have hsl:(1:Int)≤(qs.length:Int)+1:=by omega
             have hsl2:(qs.length:Int)+1≤(qc:Int):=by omega
             by_cases hq1:qc=1
             · have hqs : qs.length = 0 := by omega
               have hqe:qs=[]:=List.eq_nil_of_length_eq_zero hqs;subst hqe hq1
               have HICz:Hid (∀ (j:Nat) (u:Value),(itCells [])[j]?=some u→wr.cell? ((⟨b,o,none⟩:Addr).add j)=some u):=by
                intro j u hj;simp[itCells]at hj
               clear hqs hsl hsl2;go_wp2_with (at_builtin;refine wpList_append_own_at _ rfl _ _ 87 rfl wc.heap.size 86 i0 _ 5 80 Tryd.underlying87 hi hz0 hz1 hz2 rfl (by decide) _ _ _ rfl HOZ.out ⟨b,o,none⟩ 0 0 [] rfl ?rc1 ?rc2 ?rc3 ?rc4 ?rc5 ?rc6 ?_)
               case rc4 => unfold maxLen;omega
               case rc5 => omega
               intro v' w5 hown5 hgr5 _ _;obtain ⟨a5,n5,c5,rfl⟩:=qC hown5;have HM5:Hid _:=HMZ.out.grown (by omega) HOZ.out hgr5
               have hown6:w5.ownsRow wc.heap.size 86 5 (.slice a5 n5 c5) (qz++[]).length (itCells (qz++[])):=by
                rw[List.append_nil,hqz];exact hown5
               have HI5:Hid (zD (db+1) w5 (.slice a5 n5 c5) (qz++[])):=zD.of_owns (zJ hown6 (by omega))
               clear hown6;clear hown5 hgr5;go_wp2_with fail
               go_roundg (L.length-(k+1))
               case measure => omega
               case rel => exact ⟨k+1,vd9,ms9,qz++[],(t'.kids.map fun u=>(u,(k:Int)))++its,by omega,HWL2.out,by rw[List.length_append,List.length_append,List.length_map,hqz,HII.out,HQL.out],jw (by rw[List.length_map,hqz,HII.out]) (by have:=HIZ.out;rw[HIT.out]at this;exact this) HI2.out,HI5.out,HM5.out⟩
             · have hq2 : (qc == 1) = false := by simpa using hq1
               have hq3:¬ (qc-1=0):=by omega
               have hq4:¬ ((qc:Int)-1=0):=by omega
               have hq5:¬ ((qc:Int)=1):=by omega
               have HICz:Hid (∀ (j:Nat) (u:Value),(itCells qs)[j]?=some u→wr.cell? ((⟨b,o+5,none⟩:Addr).add j)=some u):=by
                intro j u hj;rw[Addr.add_lit,World.cell?_of_block (a:=⟨b,o+5+j,none⟩) hbz];exact HIC.out j u hj
               go_wp2_with (at_builtin;refine wpList_append_own_at _ rfl _ _ 87 rfl wc.heap.size 86 i0 _ 5 80 Tryd.underlying87 hi hz0 hz1 hz2 rfl (by decide) _ _ _ rfl HOZ.out ⟨b,o+5,none⟩ qs.length (qc-1) (itCells qs) rfl ?pc1 ?pc2 ?pc3 ?pc4 ?pc5 ?pc6 ?_)
               case pc1 => exact yU qs
               case pc2 => intro j u hj;have:=HICz.out j u hj;rw[Addr.add_lit]at this;exact this
               case pc3 => exact HONE.out
               case pc4 => unfold maxLen;omega
               case pc5 => omega
               intro v' w5 hown5 hgr5 _ _;obtain ⟨a5,n5,c5,rfl⟩:=qC hown5;have HM5:Hid _:=HMZ.out.grown (by omega) HOZ.out hgr5
               have hown6:w5.ownsRow wc.heap.size 86 5 (.slice a5 n5 c5) (qz++qs).length (itCells (qz++qs)):=by
                rw[List.length_append,hqz,yT];exact hown5
               have HI5:Hid (zD (db+1) w5 (.slice a5 n5 c5) (qz++qs)):=zD.of_owns (zJ hown6 (by omega))
               clear hown6;clear hown5 hgr5;go_wp2_with fail
               go_roundg (L.length-(k+1))
               case measure => omega
               case rel => exact ⟨k+1,vd9,ms9,qz++qs,(t'.kids.map fun u=>(u,(k:Int)))++its,by omega,HWL2.out,by rw[List.length_append,List.length_append,List.length_map,hqz,HII.out,HQL.out],jw (by rw[List.length_map,hqz,HII.out]) (by have:=HIZ.out;rw[HIT.out]at this;exact this) HI2.out,HI5.out,HM5.out⟩
end
section
attribute [local go_sem] qg
set_option maxHeartbeats 2000000 in
theorem Q0 (S:Nat→Prop)(n:Nat)(va vk:Value)(t:Tr)(w:World)(hA:qe S w va t.attrs)(hK:qb S w n vk t.kids)(hx:TextsN (n+1) [t])(hc:cnt (n+1) [t]≤1048576)(hal:t.attrs.length≤1048576)(hsk:Small n t.kids)(hS:∀ b,S b→b<w.heap.size) :
 Calls Tryd.prog 7 #[.agg #[.bool t.text,.string t.s,va,vk]] w fun e w'=>e=.returned (.bool true)∧Below w.heap.size w w':=by
 obtain ⟨aa,ac,rfl⟩:=hA.shape;obtain ⟨ka,kc,rfl,_,_⟩:=qb.shape n hK;have hb1:=Below.alloc1 w (.cells #[.bool t.text,.string t.s,.slice aa t.attrs.length ac,.slice ka t.kids.length kc] 25);have hx1:=heap_alloc_new w (.cells #[.bool t.text,.string t.s,.slice aa t.attrs.length ac,.slice ka t.kids.length kc] 25);have HCT:Hid _:=xg n (J7 n) S _ _ t _ (hA.later hb1) (qb.later hb1 n hK) hal hsk;have HA:Hid (qe S w (.slice aa t.attrs.length ac) t.attrs):=hA;have HK:Hid (qb S w n (.slice ka t.kids.length kc) t.kids):=hK;have HX:Hid (TextsN (n+1) [t]):=hx;have HSS:Hid (∀ b,S b→b<w.heap.size):=hS;obtain ⟨L,hL⟩:∃ L,yl n t=L:=⟨_,rfl⟩;obtain ⟨E,hE⟩:∃ E,ym t=E:=⟨_,rfl⟩;have HL:Hid (yl n t=L):=hL;have HE:Hid (ym t=E):=hE;clear hA hK hx hS hL hE hal hsk
 go_enter Tryd.func7,Tryd.ntmps7
 go_wp2_with fail;refine (Calls.mono HCT.out ?_);rintro e w2 ⟨va2,vk2,rfl,hA2,hK2,hb2⟩;obtain ⟨a2,c2,rfl⟩:=hA2.shape;obtain ⟨k2,d2,rfl,_,_⟩:=qb.shape n hK2;have hB2:Below w.heap.size w w2:=hb1.trans (hb2.mono hb1.size);have hx2:=(hb2.block _ (qf hx1)).trans hx1;have hb3:=Below.alloc1 w2 (.cells #[.bool t.text,.string t.s,.slice a2 t.attrs.length c2,.slice k2 t.kids.length d2] 25);have hy3:=heap_alloc_new w2 (.cells #[.bool t.text,.string t.s,.slice a2 t.attrs.length c2,.slice k2 t.kids.length d2] 25);have HMK:Hid _:=ZO (fun b=>w.heap.size≤b∧b<(w2.alloc (.cells #[.bool t.text,.string t.s,.slice a2 t.attrs.length c2,.slice k2 t.kids.length d2] 25)).heap.size) n _ _ t _ ((hA2.later hb3).bounded.carry fun b hb=>⟨⟨by have:=hb.1;simp at this;omega,hb.2⟩,rfl⟩) (qb.carry (fun b hb=>⟨⟨by have:=hb.1;simp at this;omega,hb.2⟩,rfl⟩) n (qb.bounded n (qb.later hb3 n hK2))) HX.out (fun b hb=>hb.2)
 rw[HL.out,HE.out]at HMK
 have HA2:Hid (qe (fun b=>(w.alloc (.cells #[.bool t.text,.string t.s,.slice aa t.attrs.length ac,.slice ka t.kids.length kc] 25)).heap.size≤b) (w2.alloc (.cells #[.bool t.text,.string t.s,.slice a2 t.attrs.length c2,.slice k2 t.kids.length d2] 25)) (.slice a2 t.attrs.length c2) t.attrs):=hA2.later hb3
 have HK2:Hid (qb (fun b=>(w.alloc (.cells #[.bool t.text,.string t.s,.slice aa t.attrs.length ac,.slice ka t.kids.length kc] 25)).heap.size≤b) (w2.alloc (.cells #[.bool t.text,.string t.s,.slice a2 t.attrs.length c2,.slice k2 t.kids.length d2] 25)) n (.slice k2 t.kids.length d2) t.kids):=qb.later hb3 n hK2
 have hx3:=(hb3.block _ (qf hx2)).trans hx2;have hB3:Below w.heap.size w _:=hB2.trans (hb3.mono hB2.size);clear HCT hb2 hA2 hK2 hb1 hx1;go_wp2_with fail
 generalize w2.alloc (.cells #[.bool t.text,.string t.s,.slice a2 t.attrs.length c2,.slice k2 t.kids.length d2] 25)=W3 at HMK HA2 HK2 hx3 hy3 hB3 hb3 ⊢
 generalize w2.heap.size=cb at hy3 ⊢
 refine (Calls.mono HMK.out ?_);rintro e w4 ⟨v4,rfl,hN4,hb4⟩;obtain ⟨a4,c4,rfl,_,_⟩:=hN4.shape;have hx4:=(hb4.block _ (qf hx3)).trans hx3;have hy4:=(hb4.block _ (qf hy3)).trans hy3;have hB4:Below w.heap.size w w4:=hB3.trans (hb4.mono hB3.size);have hb5:=Below.alloc1 w4 (.cells #[.slice a4 L.length c4] 47);have hz5:=heap_alloc_new w4 (.cells #[.slice a4 L.length c4] 47);have hB5:Below w.heap.size w _:=hB4.trans (hb5.mono hB4.size);have hx5:=(hb5.block _ (qf hx4)).trans hx4;have hy5:=(hb5.block _ (qf hy4)).trans hy4;have hN5:=hN4.later hb5;have hb35:Below W3.heap.size W3 _:=hb4.trans (hb5.mono hb4.size);clear HMK hb3 hB2 hx2 hN4;have p0:(w4.alloc (.cells #[.slice a4 L.length c4] 47)).cell? ⟨w.heap.size,0,none⟩=some (.bool t.text):=by rw[cH9 hx5];rfl
 have p1:(w4.alloc (.cells #[.slice a4 L.length c4] 47)).cell? ⟨w.heap.size,1,none⟩=some (.string t.s):=by rw[cH9 hx5];rfl
 have p2:(w4.alloc (.cells #[.slice a4 L.length c4] 47)).cell? ⟨w.heap.size,2,none⟩=some (.slice aa t.attrs.length ac):=by rw[cH9 hx5];rfl
 have p3:(w4.alloc (.cells #[.slice a4 L.length c4] 47)).cell? ⟨w.heap.size,3,none⟩=some (.slice ka t.kids.length kc):=by rw[cH9 hx5];rfl
 have HMD:Hid _:=makeDoc_any S n _ _ t _ (HA.out.later hB5) (qb.later hB5 n HK.out) HX.out hc (fun b hb=>Nat.lt_of_lt_of_le (HSS.out b hb) hB5.size)
 rw[HL.out,HE.out]at HMD
 go_wp2_with fail
 generalize w4.alloc (.cells #[.slice a4 L.length c4] 47)=W5 at HMD hN5 hz5 hx5 hy5 hB5 hb5 hb35 ⊢
 generalize w4.heap.size=ub at hz5 ⊢
 refine (Calls.mono HMD.out ?_);rintro e w6 ⟨v6,rfl,hN6,hb6⟩;obtain ⟨a6,c6,rfl,_,_⟩:=hN6.shape;have hB6:Below w.heap.size w w6:=hB5.trans (hb6.mono hB5.size);have hb7:=Below.alloc1 w6 (.cells #[.slice a6 L.length c6] 47);have hq7:=heap_alloc_new w6 (.cells #[.slice a6 L.length c6] 47);have hx7:=(hb7.block _ (qf ((hb6.block _ (qf hx5)).trans hx5))).trans ((hb6.block _ (qf hx5)).trans hx5);have hy7:=(hb7.block _ (qf ((hb6.block _ (qf hy5)).trans hy5))).trans ((hb6.block _ (qf hy5)).trans hy5);have hz7:=(hb7.block _ (qf ((hb6.block _ (qf hz5)).trans hz5))).trans ((hb6.block _ (qf hz5)).trans hz5);have hB7:Below w.heap.size w _:=hB6.trans (hb7.mono hB6.size);have hb37:Below W3.heap.size W3 _:=(hb35.trans (hb6.mono hb35.size)).trans (hb7.mono (Nat.le_trans hb35.size hb6.size));have hN7:=(hN5.later hb6).later hb7;have hM7:=hN6.later hb7;have u7:(w6.alloc (.cells #[.slice a6 L.length c6] 47)).cell? ⟨ub,0,none⟩=some (.slice a4 L.length c4):=by rw[cH9 hz7];rfl
 have HSD:Hid _:=jA _ _ _ _ L L _ hN7 hM7;have hLL:ndsB L L=true:=ndsB_iff.2 rfl;rw[hLL]at HSD
 clear HMD p0 p1 p2 p3 hx5 hy5 hz5 hN5 hN6 hB5 hb5 hb6 hb4 hx4 hy4 hLL hN7 hM7 hx3 hy3 hB3;have hEE:(E==E)=true:=by simp
 go_wp2_with fail
 generalize w6.alloc (.cells #[.slice a6 L.length c6] 47)=W7 at HSD hx7 hy7 hB7 hb37 ⊢
 refine (Calls.mono HSD.out ?_);rintro e w8 ⟨rfl,hb8⟩;have hx8:=(hb8.block _ (qf hx7)).trans hx7;have hy8:=(hb8.block _ (qf hy7)).trans hy7;have hB8:Below w.heap.size w w8:=hB7.trans (hb8.mono hB7.size);have hb38:Below W3.heap.size W3 w8:=hb37.trans (hb8.mono hb37.size);have r0:w8.cell? ⟨w.heap.size,0,none⟩=some (.bool t.text):=by rw[cH9 hx8];rfl
 have r1:w8.cell? ⟨w.heap.size,1,none⟩=some (.string t.s):=by rw[cH9 hx8];rfl
 have r2:w8.cell? ⟨w.heap.size,2,none⟩=some (.slice aa t.attrs.length ac):=by rw[cH9 hx8];rfl
 have r3:w8.cell? ⟨w.heap.size,3,none⟩=some (.slice ka t.kids.length kc):=by rw[cH9 hx8];rfl
 have s0:w8.cell? ⟨cb,0,none⟩=some (.bool t.text):=by rw[cH9 hy8];rfl
 have s1:w8.cell? ⟨cb,1,none⟩=some (.string t.s):=by rw[cH9 hy8];rfl
 have s2:w8.cell? ⟨cb,2,none⟩=some (.slice a2 t.attrs.length c2):=by rw[cH9 hy8];rfl
 have s3:w8.cell? ⟨cb,3,none⟩=some (.slice k2 t.kids.length d2):=by rw[cH9 hy8];rfl
 have HST:Hid _:=yZ n (jo n) _ _ t.text t.s _ _ _ _ t.attrs t.kids w8 (HA2.out.later hb38) (HA.out.later hB8) (qb.later hb38 n HK2.out) (qb.later hB8 n HK.out);clear HSD hx7 hy7 hB7 hb37 hb8 u7 hq7 hz7;go_wp2_with fail;refine (Calls.mono HST.out ?_);rintro e w9 ⟨rfl,hb9⟩;have hB9:Below w.heap.size w w9:=hB8.trans (hb9.mono hB8.size);go_wp2_with fail;refine (Calls.mono (Qw w9) ?_);rintro e w10 ⟨rfl,hb10⟩;go_wp2_with fail;go_ret;exact ⟨rfl,hB9.trans (hb10.mono hB9.size)⟩
end
end Go.Proofs.YtfdbipeidmpciaaDoor
