/- What joinKids leaves behind: lists that are joined to the bottom but for those that wait; how one round of its loop keeps that. No condition. -/
import Derived.Test.YtfdbipeidmpciaaTakeL
namespace Go.Proofs.Ytfdbipeidmpciaa
open Go.ChangeShapes Go.WideShapes Go.ChangeAt Go.RowKit
set_option maxRecDepth 100000
def jk:Nat→Tr→Tr
 | 0,t=>{ t with kids:=[] }
 | n+1,t=>{ t with kids:=(jt t.kids).map (jk n) }
theorem zi (n:Nat)(t:Tr):(jk n t).text=t.text:=by cases n<;>rfl
theorem jm (n:Nat)(t:Tr):(jk n t).s=t.s:=by cases n<;>rfl
theorem zd (n:Nat)(t:Tr):(jk n t).attrs=t.attrs:=by cases n<;>rfl
def cnt:Nat→List Tr→Nat
 | 0,_=>0
 | n+1,ts=>(ts.map fun t=>1+cnt n t.kids).sum
theorem qw (n:Nat):cnt n []=0:=by cases n<;>rfl
theorem qp (n:Nat)(t:Tr)(r:List Tr):cnt (n+1) (t::r)=1+cnt n t.kids+cnt (n+1) r:=by simp[cnt]
theorem yj (n:Nat)(ts:List Tr):ts.length≤cnt (n+1) ts:=by
 induction ts with
 | nil=>simp
 | cons t r ih=>rw[qp];simp;omega
theorem yt (n:Nat)(ts:List Tr):cnt (n+1) (jt ts)≤cnt (n+1) ts:=by
 induction ts with
 | nil=>simp[jt]
 | cons t r ih =>
   rw[qp]
   by_cases ht:t.text=true
   · rw[yk t r ht]
     split
     · omega
     · split
       · rw[qp,qw];omega
       · rename_i u r' hj
         rw[hj,qp]at ih
         split
         · rw[qp];simp only;omega
         · rw[qp,qp];omega
   · rw[zN t r (by simpa using ht),qp];omega
structure Ent where
 v:Value
 n:Nat
 us:List Tr
 qs:List (Bool × ByteArray × Value × Value)
def QS (S:Nat→Prop)(B:Nat)(w:World)(e:Ent):Prop:=e.us≠[]∧Raw S e.n B w e.v e.us e.qs∧Small (e.n+1) e.us
def xX (B:Nat)(w:World)(e:Ent):Prop:=qa (fun b=>B≤b) w (e.n+1) e.v (e.us.map (jk e.n))
def qE (w:World)(b:Nat):Prop:=∀ c fz,w.heap[b]?≠some (.cells c 22 fz)
def zr (P:List Ent):Nat:=(P.map fun e=>cnt (e.n+1) e.us).sum
theorem jW (P Q:List Ent):zr (P++Q)=zr P+zr Q:=by simp[zr]
theorem Qu {P:List Ent}(h:∀ e∈P,e.us≠[]):P.length≤zr P:=by
 induction P with
 | nil=>simp
 | cons e r ih =>
   have h1:=ih (fun x hx=>h x (List.mem_cons_of_mem _ hx))
   have h2:=yj e.n e.us;have h3:=List.length_pos_iff.2 (h e List.mem_cons_self);have h4:zr (e::r)=cnt (e.n+1) e.us+zr r:=by simp[zr]
   simp only[List.length_cons];omega
structure JK (S:Nat→Prop) (B jb:Nat) (w:World) (v:Value) (n:Nat) (us:List Tr) (vs:List Value) (w':World) (P:List Ent) (X:Nat→Prop):Prop where
 below:Below B w w'
 jst:Jst B jb w' (vs++P.map (·.v))
 pend:∀ e∈P,QS S B w' e
 blocks:∀ e∈P,∀ b,e.v.ownBlock=some b→w.heap.size≤b∨v.ownBlock=some b
 apart:P.Pairwise fun e f=>e.v.ownBlock≠f.v.ownBlock
 frame:∀ b,b<w.heap.size→b≠jb→v.ownBlock≠some b→qE w b→w'.heap[b]?=w.heap[b]?
 less:zr P≤cnt (n+1) us
 prot:∀ b,X b→B≤b∧b<w'.heap.size∧qE w' b∧b≠jb∧(w.heap.size≤b∨v.ownBlock=some b∨qy B 65 w' b)∧∀ e∈P,e.v.ownBlock≠some b
 wand:∀ ws:World,(∀ b,X b→ws.heap[b]?=w'.heap[b]?)→(∀ e∈P,xX B ws e)→qa (fun b=>B≤b) ws (n+1) v (us.map (jk n))
structure zI (S:Nat→Prop) (B jb:Nat) (w:World) (v:Value) (n:Nat) (us:List Tr) (vs:List Value) (k:Nat) (w':World) (qs:List (Bool × ByteArray × Value × Value)) (P:List Ent) (X:Nat→Prop):Prop where
 below:Below B w w'
 len:qs.length=us.length
 own:w'.ownsRow B 29 4 v us.length (quadCells qs)
 rest:∀ (i:Nat) (q:Bool × ByteArray × Value × Value) (t:Tr),k≤i→qs[i]?=some q→us[i]?=some t→q.1=t.text∧q.2.1=t.s∧qc (qy B 65 w') w' q.2.2.1 t.attrs∧qa S w' n q.2.2.2 t.kids
 done:∀ (i:Nat) (q:Bool × ByteArray × Value × Value) (t:Tr),i<k→qs[i]?=some q→us[i]?=some t→q.1=t.text∧q.2.1=t.s ∧
  ∀ ws:World,(∀ b,X b→ws.heap[b]?=w'.heap[b]?)→(∀ e∈P,xX B ws e)→qc (fun b=>B≤b) ws q.2.2.1 t.attrs∧qa (fun b=>B≤b) ws n q.2.2.2 (jk n t).kids
 jst:Jst B jb w' (vs++P.map (·.v))
 pend:∀ e∈P,QS S B w' e
 blocks:∀ e∈P,∀ b,e.v.ownBlock=some b→w.heap.size≤b
 apart:P.Pairwise fun e f=>e.v.ownBlock≠f.v.ownBlock
 frame:∀ b,b<w.heap.size→b≠jb→v.ownBlock≠some b→qE w b→w'.heap[b]?=w.heap[b]?
 less:zr P+cnt (n+1) (us.drop k)+k≤cnt (n+1) us
 prot:∀ b,X b→B≤b∧b<w'.heap.size∧qE w' b∧b≠jb∧v.ownBlock≠some b∧(w.heap.size≤b∨qy B 65 w' b)∧∀ e∈P,e.v.ownBlock≠some b
theorem qE.of_heap {w w':World}{b:Nat}(h:qE w b)(e:w'.heap[b]?=w.heap[b]?):qE w' b:=by
 intro c fz;rw[e];exact h c fz
theorem qE.of_own {w:World}{B b:Nat}{e:TypeId}(h:qy B e w b)(hne:e≠22):qE w b:=by
 obtain ⟨_,c,fz,hc⟩:=h;intro c' fz' h';rw[hc]at h'
 simp only[Option.some.injEq,Obj.cells.injEq]at h'
 exact hne h'.2.1
theorem Jst.ne {B jb:Nat}{w:World}{vs:List Value}(h:Jst B jb w vs){B' b:Nat}{e:TypeId}(hs:qy B' e w b)(hne:e≠53):b≠jb:=by
 obtain ⟨_,⟨v,hv,_⟩,_⟩:=h;obtain ⟨_,c,fz,hc⟩:=hs;intro hb;subst hb;rw[hv]at hc
 simp only[Option.some.injEq,Obj.cells.injEq]at hc
 exact hne hc.2.1.symm
theorem Raw.base {S:Nat→Prop}{n B B':Nat}{w:World}{v:Value}{us:List Tr}{qs:List (Bool × ByteArray × Value × Value)}(h:Raw S n B' w v us qs)(hB:B≤B'):Raw S n B w v us qs:=by
 refine ⟨h.len,?_,fun i q t hq ht=>?_⟩
 · obtain ⟨h1, h2⟩ := h.own;refine ⟨h1,?_⟩
   rcases h2 with h2|⟨g,cap,cur,hv,hg,r⟩
   · exact Or.inl h2
   · exact Or.inr ⟨g,cap,cur,hv,by omega,r⟩
 · obtain ⟨a, b, c, d⟩ := h.each i q t hq ht;exact ⟨a,b,c.carry (fun b hb=>⟨hb.to hB rfl,rfl⟩),d⟩
theorem Raw.stand {S:Nat→Prop}{n B:Nat}{w w':World}{v:Value}{us:List Tr}{qs:List (Bool × ByteArray × Value × Value)}(h:Raw S n B w v us qs)(hS:∀ b,S b→b<B)
 (h1:∀ b,v.ownBlock=some b→w'.heap[b]?=w.heap[b]?) (h2:∀ b,qy B 65 w b→w'.heap[b]?=w.heap[b]?) (h3:∀ b,b<B→w'.heap[b]?=w.heap[b]?):Raw S n B w' v us qs:=by
 refine ⟨h.len,qn h.own h1,fun i q t hq ht=>?_⟩
 obtain ⟨a,b,c,d⟩:=h.each i q t hq ht;exact ⟨a,b,c.carry (fun b hb=>⟨hb.to (nR9 _) (h2 b hb),h2 b hb⟩),qa.carry (fun b hb=>⟨hb,h3 b (hS b hb)⟩) n d⟩
theorem yM (l:List (Bool × ByteArray × Value × Value)):∀ (k:Nat)(q:Bool × ByteArray × Value × Value)(x:Value),l[k]?=some q→quadCells (l.set k (q.1,q.2.1,q.2.2.1,x))=(quadCells l).set (k*4+3) x:=by
 induction l with
 | nil=>intro k q x h;simp at h
 | cons y r ih =>
   intro k q x h;cases k with
   | zero=>simp at h;subst h;simp[quadCells]
   | succ k =>
     have:=ih k q x (by simpa using h)
     rw[show (k+1)*4+3=(k*4+3)+4 from by omega]
     simp[quadCells,this]
theorem Qz {ws:World}{B n:Nat}{v1:Value}{t:Tr}(hk:n=0→t.kids=[])(h:qa (fun b=>B≤b) ws (n-1+1) v1 ((jt t.kids).map (jk (n-1)))):qa (fun b=>B≤b) ws n v1 (jk n t).kids:=by
 cases n with
 | zero =>
   rw[hk rfl]at h
   obtain ⟨a,cap,h1,_,h3⟩:=qa.shape _ h;exact ⟨rfl,a,cap,h1,h3⟩
 | succ m=>exact h
end Go.Proofs.Ytfdbipeidmpciaa
