/- Bundled: OpenT NodeB DocO CountT Count CountS SizeT RefPlain RefSize SameR RefSame. What each says stands ahead of it. -/
import Derived.Test.YtfdbipeidmpciaaDoorFive11
import Derived.Test.YtfdbipeidmpciaaDoorFive10
namespace Go.Proofs.YtfdbipeidmpciaaDoor
open Go.ChangeShapes Go.WideShapes Go.ChangeAt Go.RowKit
set_option maxRecDepth 100000
section
section
variable {H : Type} {enc : TypeId × Value → H} {W : World}
theorem JE {fuel:Nat}{cs:List Value}{x:DataW H × List MemPlace}(hl:cs.length=4)(h:DataW.trod enc Tryd.prog W 0 (fun _=>true) true fuel 25 cs=some x) :
 ∃ (t:Tr) (va vk:Value),cs=[.bool t.text,.string t.s,va,vk]∧qe (fun b=>b<W.heap.size) W va t.attrs∧qb (fun b=>b<W.heap.size) W fuel vk t.kids∧wt (fuel+1) [t]≤Rows.uptoBulk x.1:=by
 match cs,hl with
 | [c0, c1, c2, c3], _ =>
   obtain ⟨xs,k,hnk,hx,_,hxl,hf⟩:=DataW.trod_struct Tryd.underlying25 h
   match xs,hxl with
   | [y0, y1, y2, y3], _ =>
     have u0:=hf 0 _ rfl;have u1:=hf 1 _ rfl;have u2:=hf 2 _ rfl;have u3:=hf 3 _ rfl;simp[boolCellsOf,strCellsOf,attrsCellsOf,treesCellsOf]at u0 u1 u2 u3
     obtain ⟨tx,hc0,hy0⟩:=DataW.trod_bool Tryd.underlying4 u0;obtain ⟨s,hc1,hy1,hs⟩:=DataW.trod_string Tryd.underlying9 u1;obtain ⟨va,l,hc2,hA,hAb,hAt⟩:=yA u2;obtain ⟨vk,ks,hc3,hK,hKb,hKt⟩:=open_trees k u3;simp only[List.cons.injEq,and_true]at hc0 hc1 hc2 hc3
     subst hc0 hc1 hc2 hc3;have hdp:=qb.deep k hK;subst hnk;refine ⟨⟨tx,s,l,ks⟩,c2,c3,rfl,hA,qb.deeper k hK,?_⟩;rw[xA];rw[hx,hy0,hy1];simp only[List.map_cons,List.map_nil,Rows.uptoBulk,Rows.uptoBulkAll,jh,wt_more k ks hdp];simp only[wt,List.map_nil,List.sum_nil];omega
theorem xq {fuel:Nat}{cs:List Value}{x:DataW H × List MemPlace}(hl:cs.length=4)(h:DataW.trod enc Tryd.prog W 0 (fun _=>true) true fuel 25 cs=some x) :
 ∃ (t:Tr) (va vk:Value),cs=[.bool t.text,.string t.s,va,vk]∧qe (fun b=>b<W.heap.size) W va t.attrs∧qb (fun b=>b<W.heap.size) W fuel vk t.kids∧TextsN (fuel+1) [t]:=by
 match cs,hl with
 | [c0, c1, c2, c3], _ =>
   obtain ⟨xs,k,hnk,_,_,hxl,hf⟩:=DataW.trod_struct Tryd.underlying25 h
   match xs,hxl with
   | [y0, y1, y2, y3], _ =>
     have u0:=hf 0 _ rfl;have u1:=hf 1 _ rfl;have u2:=hf 2 _ rfl;have u3:=hf 3 _ rfl;simp[boolCellsOf,strCellsOf,attrsCellsOf,treesCellsOf]at u0 u1 u2 u3
     obtain ⟨tx,hc0,_⟩:=DataW.trod_bool Tryd.underlying4 u0;obtain ⟨s,hc1,_,hs⟩:=DataW.trod_string Tryd.underlying9 u1;obtain ⟨va,l,hc2,hA,_,hAt⟩:=yA u2;obtain ⟨vk,ks,hc3,hK,_,hKt⟩:=open_trees k u3;simp only[List.cons.injEq,and_true]at hc0 hc1 hc2 hc3
     subst hc0 hc1 hc2 hc3;have hdp:=qb.deep k hK;subst hnk;refine ⟨⟨tx,s,l,ks⟩,c2,c3,rfl,hA,qb.deeper k hK,?_⟩;intro u hu;simp only[List.mem_singleton]at hu
     subst hu;exact ⟨⟨hs,hAt⟩,texts_more k ks hdp hKt⟩
end
theorem qb.more {S:Nat→Prop}{w:World}{n m:Nat}{v:Value}{ts:List Tr}(h:qb S w n v ts)(hnm:n≤m):qb S w m v ts:=by
 obtain ⟨k,rfl⟩:=Nat.exists_eq_add_of_le hnm;clear hnm
 induction k with
 | zero=>exact h
 | succ k ih=>exact qb.deeper (n+k) ih
theorem wt_tex:∀ (n:Nat) (ts:List Tr),wt n ts≤1048576→TexN n ts:=by
 intro n
 induction n with
 | zero=>intro ts _;trivial
 | succ n ih =>
   intro ts h t ht;have h1:1+t.s.size+(t.attrs.map awt).sum+wt n t.kids≤wt (n+1) ts:=Zl (fun t:Tr=>1+t.s.size+(t.attrs.map awt).sum+wt n t.kids) ht
   refine ⟨by unfold maxLen;omega,fun x hx=>?_,ih t.kids (by omega)⟩
   have h2:=Zl awt hx;have h3:x.1.size+x.2.size≤awt x:=by unfold awt;omega
   constructor<;>(unfold maxLen;omega)
end
structure Nd where
 text:Bool
 s:ByteArray
 attrs:List (ByteArray × ByteArray)
 parent:Int
 kids:List Int
def qX (S:Nat→Prop)(w:World)(v:Value)(l:List Int):Prop :=
  ∃ a cap, v = .slice a l.length cap ∧ l.length ≤ cap ∧ cap ≤ maxLen ∧
    (l≠[]→∃ b o,a=some ⟨b,o,none⟩∧S b∧∀ (i:Nat) (x:Int),l[i]?=some x→w.cell? ⟨b,o+i,none⟩=some (.int .i64 x))
def qr (S:Nat→Prop)(w:World)(v:Value)(ns:List Nd):Prop :=
  ∃ a cap, v = .slice a ns.length cap ∧ ns.length ≤ cap ∧ cap ≤ maxLen ∧
    (ns≠[]→∃ b o,a=some ⟨b,o,none⟩∧S b∧∀ (i:Nat) (x:Nd),ns[i]?=some x→∃ va vk,
      w.cell? ⟨b,o+i*5,none⟩=some (.bool x.text)∧w.cell? ⟨b,o+i*5+1,none⟩=some (.string x.s)∧w.cell? ⟨b,o+i*5+2,none⟩=some va ∧
      w.cell? ⟨b,o+i*5+3,none⟩=some (.int .i64 x.parent)∧w.cell? ⟨b,o+i*5+4,none⟩=some vk∧qe S w va x.attrs∧qX S w vk x.kids)
theorem qX.carry {S S':Nat→Prop}{w w':World}{v:Value}{l:List Int}(h:qX S w v l)(hw:∀ b,S b→S' b∧w'.heap[b]?=w.heap[b]?):qX S' w' v l:=by
 obtain ⟨a,cap,h1,h2,h3,h4⟩:=h;refine ⟨a,cap,h1,h2,h3,fun hne=>?_⟩
 obtain ⟨b,o,ha,hs,hc⟩:=h4 hne;refine ⟨b,o,ha,(hw b hs).1,fun i x hx=>?_⟩
 rw[World.cell?_of_block (a:=⟨b,o+i,none⟩) (hw b hs).2];exact hc i x hx
theorem qX.bounded {S:Nat→Prop}{w:World}{v:Value}{l:List Int}(h:qX S w v l):qX (fun b=>S b∧b<w.heap.size) w v l:=by
 obtain ⟨a,cap,h1,h2,h3,h4⟩:=h;refine ⟨a,cap,h1,h2,h3,fun hne=>?_⟩
 obtain ⟨b,o,ha,hs,hc⟩:=h4 hne;refine ⟨b,o,ha,⟨hs,?_⟩,hc⟩;cases l with
 | nil=>exact absurd rfl hne
 | cons x r=>exact World.block_lt_of_cell? w _ (hc 0 x rfl)
theorem qX.later {S:Nat→Prop}{w w':World}{v:Value}{l:List Int}(h:qX S w v l)(hb:Below w.heap.size w w'):qX S w' v l :=
 h.bounded.carry fun b hb'=>⟨hb'.1,hb.block b hb'.2⟩
theorem qX.shape {S:Nat→Prop}{w:World}{v:Value}{l:List Int}(h:qX S w v l):∃ a c,v=.slice a l.length c∧l.length≤c∧c≤maxLen:=by
 obtain ⟨a,cap,h1,h2,h3,_⟩:=h;exact ⟨a,cap,h1,h2,h3⟩
theorem qX.nil {S:Nat→Prop}{w:World}:qX S w (.slice none 0 0) []:=⟨none,0,rfl,Nat.le_refl _,Nat.zero_le _,fun h=>absurd rfl h⟩
theorem qr.carry {S S':Nat→Prop}{w w':World}{v:Value}{l:List Nd}(h:qr S w v l)(hw:∀ b,S b→S' b∧w'.heap[b]?=w.heap[b]?):qr S' w' v l:=by
 obtain ⟨a,cap,h1,h2,h3,h4⟩:=h;refine ⟨a,cap,h1,h2,h3,fun hne=>?_⟩
 obtain ⟨b,o,ha,hs,hc⟩:=h4 hne;refine ⟨b,o,ha,(hw b hs).1,fun i x hx=>?_⟩
 obtain ⟨va,vk,c0,c1,c2,c3,c4,hA,hK⟩:=hc i x hx;refine ⟨va,vk,?_,?_,?_,?_,?_,hA.carry hw,hK.carry hw⟩
 · rw[World.cell?_of_block (a:=⟨b,o+i*5,none⟩) (hw b hs).2];exact c0
 · rw[World.cell?_of_block (a:=⟨b,o+i*5+1,none⟩) (hw b hs).2];exact c1
 · rw[World.cell?_of_block (a:=⟨b,o+i*5+2,none⟩) (hw b hs).2];exact c2
 · rw[World.cell?_of_block (a:=⟨b,o+i*5+3,none⟩) (hw b hs).2];exact c3
 · rw[World.cell?_of_block (a:=⟨b,o+i*5+4,none⟩) (hw b hs).2];exact c4
theorem qr.bounded {S:Nat→Prop}{w:World}{v:Value}{l:List Nd}(h:qr S w v l):qr (fun b=>S b∧b<w.heap.size) w v l:=by
 obtain ⟨a,cap,h1,h2,h3,h4⟩:=h;refine ⟨a,cap,h1,h2,h3,fun hne=>?_⟩
 obtain ⟨b,o,ha,hs,hc⟩:=h4 hne;refine ⟨b,o,ha,⟨hs,?_⟩,fun i x hx=>?_⟩
 · cases l with
   | nil=>exact absurd rfl hne
   | cons x r =>
     obtain ⟨_,_,c0,_⟩:=hc 0 x rfl;exact World.block_lt_of_cell? w _ c0
 · obtain ⟨va, vk, c0, c1, c2, c3, c4, hA, hK⟩ := hc i x hx;exact ⟨va,vk,c0,c1,c2,c3,c4,hA.bounded,hK.bounded⟩
theorem qr.later {S:Nat→Prop}{w w':World}{v:Value}{l:List Nd}(h:qr S w v l)(hb:Below w.heap.size w w'):qr S w' v l :=
 h.bounded.carry fun b hb'=>⟨hb'.1,hb.block b hb'.2⟩
theorem qr.shape {S:Nat→Prop}{w:World}{v:Value}{l:List Nd}(h:qr S w v l):∃ a c,v=.slice a l.length c∧l.length≤c∧c≤maxLen:=by
 obtain ⟨a,cap,h1,h2,h3,_⟩:=h;exact ⟨a,cap,h1,h2,h3⟩
theorem qr.nil {S:Nat→Prop}{w:World}:qr S w (.slice none 0 0) []:=⟨none,0,rfl,Nat.le_refl _,Nat.zero_le _,fun h=>absurd rfl h⟩
theorem qr.at {S:Nat→Prop}{w:World}{v:Value}{ns:List Nd}(h:qr S w v ns){i:Nat}{x:Nd}(hx:ns[i]?=some x):∃ b o cap va vk,v=.slice (some ⟨b,o,none⟩) ns.length cap∧ns.length≤cap∧cap≤maxLen∧S b∧b<w.heap.size ∧
 w.cell? ⟨b,o+i*5,none⟩=some (.bool x.text)∧w.cell? ⟨b,o+i*5+1,none⟩=some (.string x.s)∧w.cell? ⟨b,o+i*5+2,none⟩=some va ∧
 w.cell? ⟨b,o+i*5+3,none⟩=some (.int .i64 x.parent)∧w.cell? ⟨b,o+i*5+4,none⟩=some vk∧qe S w va x.attrs∧qX S w vk x.kids:=by
 obtain ⟨a,cap,h1,h2,h3,h4⟩:=h;have hne:ns≠[]:=by intro e;subst e;simp at hx
 obtain ⟨b,o,rfl,hs,hc⟩:=h4 hne;obtain ⟨va,vk,c0,c1,c2,c3,c4,hA,hK⟩:=hc i x hx;exact ⟨b,o,cap,va,vk,h1,h2,h3,hs,World.block_lt_of_cell? w _ c0,c0,c1,c2,c3,c4,hA,hK⟩
theorem qX.at {S:Nat→Prop}{w:World}{v:Value}{l:List Int}(h:qX S w v l){i:Nat}{x:Int}(hx:l[i]?=some x):∃ b o cap,v=.slice (some ⟨b,o,none⟩) l.length cap∧S b∧b<w.heap.size∧w.cell? ⟨b,o+i,none⟩=some (.int .i64 x):=by
 obtain ⟨a,cap,h1,h2,h3,h4⟩:=h;have hne:l≠[]:=by intro e;subst e;simp at hx
 obtain ⟨b,o,rfl,hs,hc⟩:=h4 hne;exact ⟨b,o,cap,h1,hs,World.block_lt_of_cell? w _ (hc i x hx),hc i x hx⟩
structure CFr (cb:Nat) (w w':World):Prop where
 below:Below 0 w w'
 frame:∀ x,x<w.heap.size→x≠cb→w'.heap[x]?=w.heap[x]?
theorem CFr.refl (cb:Nat)(w:World):CFr cb w w:=⟨Below.refl _ _,fun _ _ _=>rfl⟩
theorem CFr.trans {cb:Nat}{w w1 w2:World}(h:CFr cb w w1)(k:CFr cb w1 w2):CFr cb w w2 :=
 ⟨h.below.trans k.below,fun x hx h1=>by rw[k.frame x (Nat.lt_of_lt_of_le hx h.below.size) h1,h.frame x hx h1]⟩
theorem CFr.put (cb:Nat)(w:World)(k:Nat)(v:Value):CFr cb w (w.setCell ⟨cb,k,none⟩ v):=⟨(Below.refl 0 w).setCell (Nat.zero_le _) _,fun _ _ h1=>Below.heap_setCell _ _ _ _ h1⟩
def Cnt (cb:Nat)(n:Nat)(w:World):Prop:=w.heap[cb]?=some (.cells #[.int .i64 (n:Int)] 3 (0,0))
theorem Cnt.lt {cb n:Nat}{w:World}(h:Cnt cb n w):cb<w.heap.size:=by
 rcases Nat.lt_or_ge cb w.heap.size with h'|h'
 · exact h'
 · simp[Cnt,Array.getElem?_eq_none h']at h
theorem Cnt.c0 {cb n:Nat}{w:World}(h:Cnt cb n w):w.cell? ⟨cb,0,none⟩=some (.int .i64 (n:Int)):=by rw[Lib.cell_of_heap h];rfl
theorem Cnt.f0 {cb n:Nat}{w:World}(h:Cnt cb n w):w.frozen? ⟨cb,0,none⟩=false:=Lib.frozen_of_heap h 0
theorem Cnt.put {cb n:Nat}{w:World}(h:Cnt cb n w)(m:Nat):Cnt cb m (w.setCell ⟨cb,0,none⟩ (.int .i64 (m:Int))):=by unfold Cnt at h ⊢;simp[World.setCell,Array.getElem?_modify,h]
theorem Cnt.later {cb n:Nat}{w w':World}(h:Cnt cb n w)(hb:Below w.heap.size w w'):Cnt cb n w':=by unfold Cnt;rw[hb.block cb h.lt];exact h
theorem qr.count {S:Nat→Prop}{cb:Nat}{w w':World}{v:Value}{l:List Nd}(h:qr S w v l)(hF:CFr cb w w')(hS:∀ b,S b→b≠cb):qr S w' v l :=
 h.bounded.carry fun b hb=>⟨hb.1,hF.frame b hb.2 (hS b hb.1)⟩
theorem qX.count {S:Nat→Prop}{cb:Nat}{w w':World}{v:Value}{l:List Int}(h:qX S w v l)(hF:CFr cb w w')(hS:∀ b,S b→b≠cb):qX S w' v l :=
 h.bounded.carry fun b hb=>⟨hb.1,hF.frame b hb.2 (hS b hb.1)⟩
section
attribute [local go_sem] qg
theorem je (S:Nat→Prop)(v:Value)(ns:List Nd)(n:Int)(w:World)(h:qr S w v ns) :
 Calls Tryd.prog 68 #[v,.int .i64 n] w fun e w'=>e=.returned (.bool (decide (0≤n)&&decide (n<ns.length)))∧w'=w:=by
 obtain ⟨a,cap,rfl,_,_⟩:=h.shape;clear h
 by_cases h0:0≤n
 · by_cases h1 : n < ns.length
   · go_enter Tryd.func68, Tryd.ntmps68
     go_wp2;go_ret;exact ⟨by simp[h0,h1],rfl⟩
   · go_enter Tryd.func68, Tryd.ntmps68
     go_wp2;go_ret;exact ⟨by simp[h1],rfl⟩
 · go_enter Tryd.func68, Tryd.ntmps68
   go_wp2;go_ret;exact ⟨by simp;omega,rfl⟩
def qt (g:Nat→Bool × Nat):List Int→Nat→Bool × Nat
 | [],nx=>(true,nx)
 | k::ks,nx=>if k=(nx:Int)∧(g nx).1=true then qt g ks (g nx).2 else (false,if k=(nx:Int) then (g nx).2 else nx)
def ordF:Nat→List Nd→Int→Nat→Bool × Nat
 | 0,_,_,nx=>(false,nx)
 | f + 1, ns, par, nx => match ns[nx]? with
   | none=>(false,nx)
   | some x=>if x.parent=par then qt (ordF f ns nx) x.kids (nx+1) else (false,nx)
theorem YI {g:Nat→Bool × Nat}(hg:∀ n,n≤(g n).2):∀ (ks:List Int) (nx:Nat),nx≤(qt g ks nx).2:=by
 intro ks
 induction ks with
 | nil=>intro nx;exact Nat.le_refl _
 | cons k ks ih =>
   intro nx;unfold qt
   split
   · exact Nat.le_trans (hg nx) (ih _)
   · simp only
     split
     · exact hg nx
     · exact Nat.le_refl _
theorem ordF_ge:∀ (f:Nat) (ns:List Nd) (par:Int) (nx:Nat),nx≤(ordF f ns par nx).2:=by
 intro f
 induction f with
 | zero=>intro ns par nx;exact Nat.le_refl _
 | succ f ih =>
   intro ns par nx;unfold ordF
   split
   · exact Nat.le_refl _
   · split
     · exact Nat.le_trans (Nat.le_succ _) (YI (fun n=>ih ns nx n) _ _)
     · exact Nat.le_refl _
def Y3 (f:Nat):Prop:=∀ (S:Nat→Prop) (v:Value) (ns:List Nd) (par:Int) (cb nx:Nat) (w:World),qr S w v ns→(∀ b,S b→b≠cb)→Cnt cb nx w→ns.length≤80→ns.length<nx+f →
 Calls Tryd.prog 71 #[v,.int .i64 par,.pointer (some ⟨cb,0,none⟩)] w fun e w'=>e=.returned (.bool (ordF f ns par nx).1)∧Cnt cb (ordF f ns par nx).2 w'∧CFr cb w w'
set_option maxHeartbeats 1000000 in
theorem Xr (f:Nat)(ih:Y3 f):Y3 (f+1):=by
 intro S v ns par cb nx w hN hS hC hl hf;have IH:Hid (Y3 f):=ih;have HS:Hid (∀ b,S b→b≠cb):=hS;have HN:Hid (qr S w v ns):=hN;have c0:=hC.c0;have f0:=hC.f0;have HC:Hid (Cnt cb nx w):=hC;have HA:Hid _:=je S v ns (nx:Int) w hN;have HO:Hid (ordF (f+1) ns par nx=match ns[nx]? with|none=>(false,nx)|some x=>if x.parent=par then qt (ordF f ns nx) x.kids (nx+1) else (false,nx)):=rfl
 have HF:Hid (ns.length<nx+(f+1)):=hf;clear ih hS hC hf;cases hx:ns[nx]? with
 | none =>
   have hge:ns.length≤nx:=List.getElem?_eq_none_iff.1 hx;have hb:(decide (0≤(nx:Int))&&decide ((nx:Int)<ns.length))=false:=by simp;omega
   rw[hb]at HA
   have HE:Hid (ordF (f+1) ns par nx=(false,nx)):=by show _=_;rw[HO.out,hx]
   obtain ⟨a,cap,rfl,_,_⟩:=hN.shape;clear hN hx HO hb hge
   go_enter Tryd.func71,Tryd.ntmps71
   go_wp2_with fail;refine (Calls.mono HA.out ?_);rintro e w1 ⟨rfl,rfl⟩;go_wp2_with fail;go_ret;exact ⟨by rw[HE.out];rfl,by rw[HE.out];exact HC.out,CFr.refl _ _⟩
 | some x =>
   have hlt:nx<ns.length:=by
    rcases Nat.lt_or_ge nx ns.length with h'|h'
    · exact h'
    · rw[List.getElem?_eq_none h']at hx;cases hx
   have hb:(decide (0≤(nx:Int))&&decide ((nx:Int)<ns.length))=true:=by simp;omega
   rw[hb]at HA
   obtain ⟨b,o,cap,va,vk,rfl,hlc,hcm,hSb,hbw,d0,d1,d2,d3,d4,hAt,hKi⟩:=hN.at hx
   obtain ⟨ka,kc,rfl,hkl,hkm⟩:=hKi.shape;unfold maxLen at hcm hkm
   have hbc:b≠cb:=HS.out b hSb
   by_cases hp:x.parent=par
   · have HE : Hid (ordF (f + 1) ns par nx = qt (ordF f ns nx) x.kids (nx + 1)) := by show _ = _;rw[HO.out, hx];simp only[hp, if_true]
     have hpn:(x.parent != par)=false:=by simp[hp]
     have HKI:Hid (qX S w (.slice ka x.kids.length kc) x.kids):=hKi;clear hN hx HO hb hp d0 d1 d2 hAt hKi
     go_enter Tryd.func71,Tryd.ntmps71
     go_wp2_with fail;refine (Calls.mono HA.out ?_);rintro e w1 ⟨rfl,rfl⟩;go_wp2_with fail;obtain ⟨G,hG⟩:∃ G,ordF f ns (nx:Int)=G:=⟨_,rfl⟩;have HGE:Hid (∀ n,n≤(G n).2):=by rw[←hG];exact fun n=>ordF_ge f ns _ n
     have HIH:Hid (∀ (m:Nat) (W:World),CFr cb w1 W→Cnt cb m W→nx+1≤m→Calls Tryd.prog 71 #[.slice (some ⟨b,o,none⟩) ns.length cap,.int .i64 (nx:Int),.pointer (some ⟨cb,0,none⟩)] W fun e w'=>e=.returned (.bool (G m).1)∧Cnt cb (G m).2 w'∧CFr cb W w'):=by
      intro m W hW hm hge;rw[←hG];exact IH.out S _ ns (nx:Int) cb m W (HN.out.count hW HS.out) HS.out hm hl (by have:=HF.out;omega)
     rw[hG]at HE
     clear hG IH
     go_loopg [37] x.kids.length (fun g j wr=>∃ (i m:Nat),i+g=x.kids.length∧j=.int .i64 (i:Int)∧Cnt cb m wr∧CFr cb w1 wr∧nx+1≤m∧qt G x.kids (nx+1)=qt G (x.kids.drop i) m)
     case atStart =>
      refine ⟨0,nx+1,by omega,rfl,?_,CFr.put _ _ _ _,Nat.le_refl _,rfl⟩
      have:=HC.out.put (nx+1)
      simpa using this
     case round =>
      obtain ⟨i,m,hi,rfl,hCm,hFr,hm,hK⟩:=hrel;have HCm:Hid (Cnt cb m wr):=hCm;have HK:Hid (qt G x.kids (nx+1)=qt G (x.kids.drop i) m):=hK;have e0:=hCm.c0;clear hCm hK c0 f0 d3 d4
      by_cases hil:i<x.kids.length
      · obtain ⟨k, hk⟩ : ∃ k, x.kids[i]? = some k := ⟨x.kids[i], by simp[hil]⟩
        obtain ⟨kb,ko,kc2,hkv,hSk,hkb,e1⟩:=(HKI.out.count hFr HS.out).at hk
        injection hkv with hka _ hkc
        subst hka hkc
        have hdr:x.kids.drop i=k::x.kids.drop (i+1):=by
         rw[List.drop_eq_getElem_cons hil];congr 1;simpa[hil] using hk
        have HKD:Hid (qt G (x.kids.drop i) m=if k=(m:Int)∧(G m).1=true then qt G (x.kids.drop (i+1)) (G m).2 else (false,if k=(m:Int) then (G m).2 else m)):=by show _=_;rw[hdr];rfl
        have hili:(i:Int)<(x.kids.length:Int):=by omega
        clear hdr hk
        by_cases hkm2:k=(m:Int)
        · have hne : (k != (m : Int)) = false := by simp[hkm2]
          have HCL:Hid _:=HIH.out m wr hFr HCm.out hm;obtain ⟨q,hq⟩:∃ q,(G m).1=q:=⟨_,rfl⟩;rw[hq]at HCL HKD
          clear hq;cases q with
          | true =>
            have HE2:Hid (qt G (x.kids.drop i) m=qt G (x.kids.drop (i+1)) (G m).2):=by show _=_;rw[HKD.out,if_pos ⟨hkm2,rfl⟩]
            clear HKD hkm2;go_wp2_with fail;refine (Calls.mono HCL.out ?_);rintro e w3 ⟨rfl,h1,h2⟩;go_wp2_with fail
            go_roundg (x.kids.length-(i+1))
            case measure => omega
            case rel => exact ⟨i+1,(G m).2,by omega,by go_num,h1,hFr.trans h2,Nat.le_trans hm (HGE.out m),by rw[HK.out,HE2.out]⟩
          | false =>
            have HE2:Hid (qt G (x.kids.drop i) m=(false,(G m).2)):=by show _=_;rw[HKD.out,if_neg (by simp),if_pos hkm2]
            clear HKD hkm2;go_wp2_with fail;refine (Calls.mono HCL.out ?_);rintro e w3 ⟨rfl,h1,h2⟩;go_wp2_with fail;go_ret;exact ⟨by rw[HE.out,HK.out,HE2.out];rfl,by rw[HE.out,HK.out,HE2.out];exact h1,hFr.trans h2⟩
        · have hne : (k != (m : Int)) = true := by simpa using hkm2
          have HE2:Hid (qt G (x.kids.drop i) m=(false,m)):=by show _=_;rw[HKD.out,if_neg (fun h=>hkm2 h.1),if_neg hkm2]
          clear HKD hkm2 HIH;go_wp2_with fail;go_ret;exact ⟨by rw[HE.out,HK.out,HE2.out];rfl,by rw[HE.out,HK.out,HE2.out];exact HCm.out,hFr⟩
      · have hdr : x.kids.drop i = [] := List.drop_of_length_le (by omega)
        have HE2:Hid (qt G (x.kids.drop i) m=(true,m)):=by show _=_;rw[hdr];rfl
        have hili:¬ (i:Int)<(x.kids.length:Int):=by omega
        clear hdr HIH;go_wp2_with fail;go_ret;exact ⟨by rw[HE.out,HK.out,HE2.out];rfl,by rw[HE.out,HK.out,HE2.out];exact HCm.out,hFr⟩
   · have HE : Hid (ordF (f + 1) ns par nx = (false, nx)) := by show _ = _;rw[HO.out, hx];simp only[hp, if_false]
     have hpn:(x.parent != par)=true:=by simpa using hp
     clear hN hx HO hb hp d0 d1 d2 hAt hKi
     go_enter Tryd.func71,Tryd.ntmps71
     go_wp2_with fail;refine (Calls.mono HA.out ?_);rintro e w1 ⟨rfl,rfl⟩;go_wp2_with fail;go_ret;exact ⟨by rw[HE.out];rfl,by rw[HE.out];exact HC.out,CFr.refl _ _⟩
theorem XV (f:Nat):Y3 f:=by
 induction f with
 | zero =>
   intro S v ns par cb nx w hN hS hC hl hf;have HA:Hid _:=je S v ns (nx:Int) w hN;have hb:(decide (0≤(nx:Int))&&decide ((nx:Int)<ns.length))=false:=by simp;omega
   rw[hb]at HA
   obtain ⟨a,cap,rfl,_,_⟩:=hN.shape;have c0:=hC.c0;have HC:Hid (Cnt cb nx w):=hC;clear hN hb hS hC
   go_enter Tryd.func71,Tryd.ntmps71
   go_wp2_with fail;refine (Calls.mono HA.out ?_);rintro e w1 ⟨rfl,rfl⟩;go_wp2_with fail;go_ret;exact ⟨rfl,HC.out,CFr.refl _ _⟩
 | succ f ih=>exact Xr f ih
end
def groupCells:List (Value × Nat)→List Value
 | []=>[]
 | x::r=>x.1::.int .i64 (x.2:Int)::groupCells r
theorem zZ (l:List (Value × Nat)):(groupCells l).length=l.length*2:=by
 induction l with
 | nil=>rfl
 | cons x r ih=>simp[groupCells,ih];omega
theorem q6 (l m:List (Value × Nat)):groupCells (l++m)=groupCells l++groupCells m:=by
 induction l with
 | nil=>rfl
 | cons x r ih=>simp[groupCells,ih]
theorem Ql {w:World}{B:Nat}{e:TypeId}{size g cap n:Nat}{xs ys:List Value}(h:w.ownsRow B e size (.slice (some ⟨g,0,none⟩) (n+1) cap) (n+1) (xs++ys))(hx:xs.length=n*size) :
 w.ownsRow B e size (.slice (some ⟨g,0,none⟩) n cap) n xs:=by
 obtain ⟨h1,h2⟩:=h
 rcases h2 with ⟨h0,_⟩|⟨g',cap',cur,hv,hg,hh,hn,hcap,hsz,htake⟩
 · cases h0
 · cases hv;refine ⟨hx,Or.inr ⟨g,cap,cur,rfl,hg,hh,by omega,hcap,hsz,?_⟩⟩
   have e1:cur.toList.take (n*size)=(cur.toList.take ((n+1)*size)).take (n*size):=by
    rw[List.take_take,Nat.min_eq_left (Nat.mul_le_mul_right _ (by omega))]
   rw[e1,htake,←hx,List.take_left]
structure Cst (B cb:Nat) (w:World) (dd cc:Nat) (v:Value) (G:List (Value × Nat)):Prop where
 base:B≤cb
 held:w.heap[cb]?=some (.cells #[.int .i64 (dd:Int),.int .i64 (cc:Int),v] 63 (0,0))
 own:w.ownsRow B 117 2 v G.length (groupCells G)
 slices:∀ x∈G,∃ a l c,x.1=.slice a l c
theorem Cst.lt {B cb:Nat}{w:World}{dd cc:Nat}{v:Value}{G:List (Value × Nat)}(h:Cst B cb w dd cc v G):cb<w.heap.size:=by
 rcases Nat.lt_or_ge cb w.heap.size with h'|h'
 · exact h'
 · have:=h.held;simp[Array.getElem?_eq_none h']at this
theorem Cst.apart {B cb:Nat}{w:World}{dd cc:Nat}{v:Value}{G:List (Value × Nat)}(h:Cst B cb w dd cc v G):v.ownBlock≠some cb:=by
 intro e;obtain ⟨_,c,fz,hc⟩:=qI h.own e;rw[h.held]at hc
 simp at hc
theorem Cst.shape {B cb:Nat}{w:World}{dd cc:Nat}{v:Value}{G:List (Value × Nat)}(h:Cst B cb w dd cc v G):∃ a c,v=.slice a G.length c:=by
 rcases h.own.2 with ⟨hv,h0⟩|⟨g,cap,cur,hv,_⟩
 · exact ⟨none,0,by rw[hv,h0]⟩
 · exact ⟨_,_,hv⟩
theorem JR (B cb:Nat)(w:World)(dd cc:Nat)(v:Value)(G:List (Value × Nat))(x:Value)(d:Nat)(h:Cst B cb w dd cc v (G++[(x,d)]))(hBw:B≤w.heap.size) :
 Calls Tryd.prog 83 #[.pointer (some ⟨cb,2,none⟩)] w fun e w'=>e=.returned (.agg #[x,.int .i64 (d:Int)])∧∃ v',Cst B cb w' dd cc v' G∧v'.ownBlock=v.ownBlock∧(∀ b,b<w.heap.size→b≠cb→w'.heap[b]?=w.heap[b]?)∧Below B w w':=by
 have hap:=h.apart;have hlt:=h.lt;obtain ⟨hB,hj,hown,hsl⟩:=h;obtain ⟨xa,xl,xc,hx⟩:=hsl (x,d) (by simp)
 simp only at hx
 subst hx
 rcases hown.2 with ⟨_,h0⟩|⟨g,cap,cur,rfl,hg,hh,hc,hm,hs,ht⟩
 · simp at h0
 have hlen:(G++[(Value.slice xa xl xc,d)]).length=G.length+1:=by simp
 rw[hlen]at hown hj hc ht
 have c2:w.cell? ⟨cb,2,none⟩=some (.slice (some ⟨g,0,none⟩) (G.length+1) cap):=by rw[cH9 hj];rfl
 have f2:w.frozen? ⟨cb,2,none⟩=false:=fH9 hj 2;have hgl:=zZ G
 have k0:w.cell? ⟨g,G.length*2,none⟩=some (.slice xa xl xc):=by
  rw[World.ownsRow.cellAt hown _ (by omega),q6,List.getElem?_append_right (by omega),hgl];simp[groupCells]
 have k1:w.cell? ⟨g,G.length*2+1,none⟩=some (.int .i64 (d:Int)):=by
  rw[World.ownsRow.cellAt hown _ (by omega),q6,List.getElem?_append_right (by omega),hgl];simp[groupCells]
 have hgs:g<w.heap.size:=World.block_lt_of_cell? w _ k0;unfold maxLen at hm
 have HJ:Hid (w.heap[cb]?=some (.cells #[.int .i64 (dd:Int),.int .i64 (cc:Int),.slice (some ⟨g,0,none⟩) (G.length+1) cap] 63 (0,0))):=hj;clear hj hgl
 go_enter Tryd.func83,Tryd.ntmps83
 go_wp2_with fail
 have hk:∀ b,b<w.heap.size→b≠cb→(((w.setCell ⟨cb,2,none⟩ (.slice (some ⟨g,0,none⟩) G.length cap)).alloc (.cells #[.slice xa xl xc,.int .i64 (d:Int)] 117)).alloc (.cells #[.slice xa xl xc,.int .i64 (d:Int)] 117)).heap[b]?=w.heap[b]?:=by
  intro b hb hbc;rw[Lib.alloc_old _ _ _ (by simp;omega),Lib.alloc_old _ _ _ (by simp;omega),Below.heap_setCell _ _ _ _ hbc]
 have hgc:g≠cb:=fun e=>hap (by rw[e];rfl)
 refine bodyPost_ret (v:=.agg #[.slice xa xl xc,.int .i64 (d:Int)]) (by simp[results,Tryd.results83,go_sem]) rfl ⟨rfl,.slice (some ⟨g,0,none⟩) G.length cap,⟨hB,?_,?_,fun y hy=>hsl y (by simp[hy])⟩,?_,hk,?_⟩
 · rw[Lib.alloc_old _ _ _ (by simp;omega), Lib.alloc_old _ _ _ (by simp;omega)]
   simp[World.setCell,Array.getElem?_modify,HJ.out]
 · rw[q6]at hown
   exact qo (Ql hown (zZ G)) fun b hb=>by cases hb;exact hk g hgs hgc
 · rfl
 · exact ((((Below.refl B w).setCell hB _).alloc (by simp;omega) _).alloc (by simp;omega) _)
theorem groupInfo:(Tryd.prog.info? 117).map (fun i=>(i.zero,i.size,i.bytes))=some (some (.agg #[.slice none 0 0,.int .i64 0]),2,32):=by kernel_rfl
theorem YV {ops:Array Oper}{o:Oper}{a:Act}{w:World}{K:Act→World→Prop}{Q:Exit→Act→World→Prop}{E:Prop}
 (hg:o.guard=none) (s x:Operand) (hop:o.op=Op.call { callee:=Callee.builtin Builtin.append,args:=#[s,x],argTypes:=#[61,61] })
 (B:Nat) (v:Value) (n:Nat) (xs:List Value) (hs:a.eval s=v) (hown:w.ownsRow B 117 2 v n xs) (ad:Addr) (sa:Option Addr) (sl sc:Nat) (d:Int) (hx:a.eval x=.slice (some ad) 1 1)
 (hnews:∀ j u,[Value.slice sa sl sc,Value.int .i64 d][j]?=some u→w.cell? (ad.add j)=some u) (hn:n≤1048576) (hB:B≤w.heap.size)
 (hK:∀ v' w',w'.ownsRow B 117 2 v' (n+1) (xs++[.slice sa sl sc,.int .i64 d])→w.grownBy w' v.ownBlock→(v'.ownBlock=v.ownBlock∨v'.ownBlock=some w.heap.size)→K (a.put o.dst v') w') :
 if Region.wanted o (yielded ops a.tmps)=true then Oper.wp Tryd.prog o a w K Q else E:=by
 have hw:Region.wanted o (yielded ops a.tmps)=true:=by simp[Region.wanted,hg]
 rw[if_pos hw];obtain ⟨i0,hi,hz0,hz1,hz2⟩:=info_parts groupInfo;obtain ⟨v',w',hr,h2,h3,_,h5⟩:=run_append_own_at (P:=Tryd.prog) w B 61 o.type 117 i0 _ 2 32 Tryd.underlying61 hi hz0 hz1 hz2 rfl (by decide) v n xs hown ad 1 1 [.slice sa sl sc,.int .i64 d] rfl hnews (by intro u hu;simp at hu;rcases hu with rfl|rfl<;>rfl) (by unfold maxLen;omega) (by omega) hB
 unfold Oper.wp;simp[execOp,hop,resolve,invoke,builtin,hs,hx,hr,Result.andThen];exact hK v' w' h2 h3 h5
structure CE where
 v:Value
 n:Nat
 ts:List Tr
 o:Nat
def csum (P:List CE):Nat:=(P.map fun e=>cnt e.n e.ts).sum
def yh (P:List CE):Nat:=(P.map fun e=>e.o+dep e.n e.ts).foldr max 0
def grp (e:CE):Value × Nat:=(e.v,e.o+1)
theorem zX (P Q:List CE):csum (P++Q)=csum P+csum Q:=by simp[csum]
theorem yN (P Q:List CE):yh (P++Q)=max (yh P) (yh Q):=by
 induction P with
 | nil=>simp[yh]
 | cons e r ih =>
   have h1:yh (e::r++Q)=max (e.o+dep e.n e.ts) (yh (r++Q)):=rfl;have h2:yh (e::r)=max (e.o+dep e.n e.ts) (yh r):=rfl;rw[h1,h2,ih];omega
def Y4 (S:Nat→Prop)(w:World)(e:CE):Prop:=e.ts≠[]∧qb S w e.n e.v e.ts∧e.o+dep e.n e.ts≤1048577
structure QR (S:Nat→Prop) (B cb:Nat) (w:World) (ds cs L:Nat) (o:Nat) (ts:List Tr) (dd cc:Nat) (wv:Value) (G:List (Value × Nat)) (w':World) (P:List CE) (dd' cc':Nat) (wv':Value):Prop where
 below:Below B w w'
 cst:Cst B cb w' dd' cc' wv' (G++P.map grp)
 row:wv'.ownBlock=wv.ownBlock∨∃ b,wv'.ownBlock=some b∧w.heap.size≤b
 frame:∀ b,b<w.heap.size→b≠cb→wv.ownBlock≠some b→w'.heap[b]?=w.heap[b]?
 pend:∀ e∈P,Y4 S w e
 dmax:max dd' (yh P)=max dd ds
 csum:cc'+csum P=cc+cs
 more:cc≤cc'∧(0<L→cc+ts.length≤cc')
def Zp (S:Nat→Prop)(B cb L:Nat):Prop:=∀ (n:Nat) (v:Value) (ts:List Tr) (o d dd cc:Nat) (wv:Value) (G:List (Value × Nat)) (w:World),
 d=o+1→(∀ b,S b→b<w.heap.size∧b≠cb∧wv.ownBlock≠some b)→qb S w n v ts→Cst B cb w dd cc wv G→B≤w.heap.size→o+dep n ts≤1048577→dd≤1048577→cc+cnt n ts≤1048576→G.length+cnt n ts≤1048576 →
 Calls Tryd.prog 82 #[.pointer (some ⟨cb,0,none⟩),.agg #[v,.int .i64 (d:Int)],.int .i64 (L:Int)] w fun e w'=>e=.returned (.tuple #[]) ∧
  ∃ P dd' cc' wv',QR S B cb w (if ts=[] then 0 else o+dep n ts) (cnt n ts) L o ts dd cc wv G w' P dd' cc' wv'
theorem Cst.later {B cb:Nat}{w w':World}{dd cc:Nat}{v:Value}{G:List (Value × Nat)}(h:Cst B cb w dd cc v G)(hb:Below w.heap.size w w'):Cst B cb w' dd cc v G :=
 ⟨h.base,by rw[hb.block cb h.lt];exact h.held,qq h.own hb,h.slices⟩
theorem Y5 (S:Nat→Prop)(B cb L n:Nat)(v:Value)(o d dd cc:Nat)(wv:Value)(G:List (Value × Nat))(w:World)(h:qb S w n v [])(hc:Cst B cb w dd cc wv G)(hB:B≤w.heap.size) :
 Calls Tryd.prog 82 #[.pointer (some ⟨cb,0,none⟩),.agg #[v,.int .i64 (d:Int)],.int .i64 (L:Int)] w fun e w'=>e=.returned (.tuple #[]) ∧
  ∃ P dd' cc' wv',QR S B cb w 0 (cnt n []) L o [] dd cc wv G w' P dd' cc' wv':=by
 obtain ⟨a,c,rfl,_,_⟩:=qb.shape n h;simp only[List.length_nil]
 go_enter Tryd.func82,Tryd.ntmps82
 go_wp2_with fail
 go_returns
 refine ⟨rfl,[],dd,cc,wv,?_⟩;refine ⟨(Below.refl B w).alloc hB _,by simpa using hc.later (Below.alloc1 w _),Or.inl rfl,fun b hb _ _=>Below.heap_alloc _ _ _ hb,by simp,by simp[yh],by simp[Go.Proofs.YtfdbipeidmpciaaDoor.csum,qH],nR9 _,fun _=>by simp⟩
theorem ZI {W:World}{ad:Nat}{x y:Value}(h0:W.cell? ⟨ad,0,none⟩=some x)(h1:W.cell? ⟨ad,1,none⟩=some y):∀ j u,[x,y][j]?=some u→W.cell? ((⟨ad,0,none⟩:Addr).add j)=some u:=by
 intro j u hj
 match j,hj with
 | 0,hj=>simp at hj;subst hj;exact h0
 | 1,hj=>simp at hj;subst hj;exact h1
theorem JM {w:World}{B n:Nat}{e:TypeId}{size:Nat}{v:Value}{xs:List Value}(h:w.ownsRow B e size v n xs):∃ a l c,v=.slice a l c:=by
 rcases h.2 with ⟨hv,_⟩|⟨g,cap,cur,hv,_⟩
 · exact ⟨_,_,_,hv⟩
 · exact ⟨_,_,_,hv⟩
theorem xM {B cb:Nat}{W X w1:World}{dd cc:Nat}{wv:Value}{G:List (Value × Nat)}(h:Cst B cb W dd cc wv G)(hX:Below W.heap.size W X)(hg:X.grownBy w1 wv.ownBlock) :
 w1.heap[cb]?=some (.cells #[.int .i64 (dd:Int),.int .i64 (cc:Int),wv] 63 (0,0)):=by
 rw[hg.block cb (Nat.lt_of_lt_of_le h.lt hX.size) (fun e=>h.apart e.symm),hX.block cb h.lt]
 exact h.held
theorem XI {S:Nat→Prop}{B cb:Nat}{w W0 w1:World}{n o d dd cc:Nat}{ts:List Tr}{va wa a1:Option Addr}{vc wc l1 c1:Nat}{G:List (Value × Nat)}{c:Obj}(hd:d=o+1)(hne:ts≠[])
 (hT:qb S w n (.slice va ts.length vc) ts) (hod:o+dep n ts≤1048577) (hBw:B≤w.heap.size) (hbx:Below w.heap.size w W0) (hX:Cst B cb W0 dd cc (.slice wa G.length wc) G)
 (hown1:w1.ownsRow B 117 2 (.slice a1 l1 c1) (G.length+1) (groupCells G++[.slice va ts.length vc,.int .i64 (d:Int)]))
 (hgr1:(W0.alloc c).drew.grownBy w1 (Value.slice wa G.length wc).ownBlock)
 (hat1:(Value.slice a1 l1 c1).ownBlock=(Value.slice wa G.length wc).ownBlock∨(Value.slice a1 l1 c1).ownBlock=some (W0.alloc c).drew.heap.size) :
 QR S B cb w (o+dep n ts) (cnt n ts) 0 o ts dd cc (.slice wa G.length wc) G (w1.setCell ⟨cb,2,none⟩ (.slice a1 l1 c1)) [⟨.slice va ts.length vc,n,ts,o⟩] dd cc (.slice a1 l1 c1):=by
 have hH:=xM hX (Below.alloc1 W0 c).drew hgr1;have hsz:=hbx.size;have hsX:(W0.alloc c).drew.heap.size=W0.heap.size+1:=by simp[World.drew]
 have hap:(Value.slice a1 l1 c1).ownBlock≠some cb:=by
  intro e;obtain ⟨_,cs,fz,hc⟩:=qI hown1 e;rw[hH]at hc
  simp at hc
 subst hd;refine ⟨?_,⟨hX.base,?_,?_,?_⟩,?_,?_,?_,?_,?_,nR9 _,fun h=>by omega⟩
 · exact (((((hbx.mono hBw).alloc (by omega) c).drew).grown hgr1 (by omega) (fun k hk=>(hX.own.lt k hk).1))).setCell hX.base _
 · simp[World.setCell,Array.getElem?_modify,hH]
 · have e1 : (G ++ List.map grp [(⟨.slice va ts.length vc, n, ts, o⟩ : CE)]).length = G.length + 1 := by simp
   rw[e1,q6];exact qo hown1 fun b hb=>Below.heap_setCell _ _ _ _ (fun e=>hap (by rw[hb,e]))
 · intro x hx
   rcases List.mem_append.1 hx with hx|hx
   · exact hX.slices x hx
   · simp[grp]at hx;subst hx;exact ⟨_,_,_,rfl⟩
 · rcases hat1 with h | h
   · exact Or.inl h
   · exact Or.inr ⟨_,h,by omega⟩
 · intro b hb h1 h2;rw[Below.heap_setCell _ _ _ _ h1,hgr1.block b (by omega) (fun e=>h2 e.symm)]
   show (W0.alloc c).heap[b]?=_
   rw[Lib.alloc_old _ _ _ (by omega),hbx.block b hb]
 · intro e he;simp at he
   subst he;exact ⟨hne,hT,hod⟩
 · simp[yh]
 · simp[Go.Proofs.YtfdbipeidmpciaaDoor.csum]
theorem add_zero (S:Nat→Prop)(B cb:Nat):Zp S B cb 0:=by
 intro n v ts o d dd cc wv G w hd _ hT hC hBw hod hdd hcc hG;have HD:Hid (d=o+1):=hd
 by_cases hne:ts=[]
 · subst hne
   simpa using Y5 S B cb 0 n v o d dd cc wv G w hT hC hBw
 · have hTo : Hid (qb S w n v ts) := hT;obtain ⟨va,vc,rfl,_,hvm⟩:=qb.shape n hT;have hl0:0<ts.length:=List.length_pos_iff.2 hne
   have hcn:1≤cnt n ts:=by
    have:=(qb.deep n hT).len;omega
   have hlt:=hC.lt;have hap:=hC.apart
   have hne1:((ts.length:Int)==0)=false:=by
    have:(ts.length:Int)≠0:=by omega
    simpa using this
   have hbx:=Below.alloc1 w (.cells #[.slice va ts.length vc,.int .i64 (d:Int)] 117);have hX:=hC.later hbx;have b0:(w.alloc (.cells #[.slice va ts.length vc,.int .i64 (d:Int)] 117)).cell? ⟨w.heap.size,0,none⟩=some (.slice va ts.length vc):=by simp
   have b1:(w.alloc (.cells #[.slice va ts.length vc,.int .i64 (d:Int)] 117)).cell? ⟨w.heap.size,1,none⟩=some (.int .i64 (d:Int)):=by simp
   have hsz:(w.alloc (.cells #[.slice va ts.length vc,.int .i64 (d:Int)] 117)).heap.size=w.heap.size+1:=by simp
   have HO:Hid (o+dep n ts≤1048577):=hod;clear hT hd hod hcc hdd;unfold maxLen at hvm
   go_enter Tryd.func82,Tryd.ntmps82
   go_wp2_with fail
   generalize w.alloc (.cells #[.slice va ts.length vc,.int .i64 (d:Int)] 117)=W0 at hbx hX b0 b1 hsz ⊢
   obtain ⟨wa,wc,rfl⟩:=hC.shape;have HS:Hid (W0.heap.size=w.heap.size+1):=hsz;have hB0:B≤W0.heap.size:=by omega
   have hszl:w.heap.size<W0.heap.size:=by omega
   clear hsz;have k2:W0.cell? ⟨cb,2,none⟩=some (.slice wa G.length wc):=by rw[cH9 hX.held];rfl
   have kf:W0.frozen? ⟨cb,2,none⟩=false:=fH9 hX.held 2;have hcb0:cb<W0.heap.size:=hX.lt;have HX:Hid (Cst B cb W0 dd cc (.slice wa G.length wc) G):=hX;clear hX hC;have hrow:(W0.alloc (.cells #[.slice va ts.length vc,.int .i64 (d:Int)] 117)).drew.ownsRow B 117 2 (.slice wa G.length wc) G.length (groupCells G):=HX.out.own.alloc _;have hgc:∀ j u,[Value.slice va ts.length vc,Value.int .i64 (d:Int)][j]?=some u→(W0.alloc (.cells #[.slice va ts.length vc,.int .i64 (d:Int)] 117)).drew.cell? ((⟨W0.heap.size,0,none⟩:Addr).add j)=some u:=ZI (W:=(W0.alloc (.cells #[.slice va ts.length vc,.int .i64 (d:Int)] 117)).drew) (by simp) (by simp)
   have HR:Hid _:=hrow;have HGC:Hid _:=hgc;clear hrow hgc;have hGl:G.length≤1048576:=by omega
   have HH:Hid (∀ w1,(W0.alloc (.cells #[.slice va ts.length vc,.int .i64 (d:Int)] 117)).drew.grownBy w1 (Value.slice wa G.length wc).ownBlock→w1.heap[cb]?=some (.cells #[.int .i64 (dd:Int),.int .i64 (cc:Int),.slice wa G.length wc] 63 (0,0))):=fun w1 hg=>xM HX.out (Below.alloc1 W0 _).drew hg
   go_region_law (first
    | (refine YV (by rfl) (.tmp 17) (.tmp 19) (by rfl) B (.slice wa G.length wc) G.length (groupCells G) (by simp[Act.eval]) HR.out ⟨W0.heap.size,0,none⟩ va ts.length vc (d:Int) (by simp[Act.eval]) HGC.out hGl (by simp;omega) ?_;intro v1 w1 hown1 hgr1 hat1;obtain ⟨a1,l1,c1,rfl⟩:=JM hown1;have hj1:=cH9 (HH.out w1 hgr1) 2;have hf1:=fH9 (HH.out w1 hgr1) 2;simp at hj1))
   all_goals
    go_wp2_with fail
    go_returns
    exact ⟨rfl,_,_,_,_,XI HD.out hne hTo.out HO.out hBw hbx HX.out hown1 hgr1 hat1⟩
section
attribute [local go_sem] qg
structure Qs (S:Nat→Prop) (B cb:Nat) (w:World) (m o k:Nat) (ts:List Tr) (bx by_:Value) (dd cc:Nat) (wv:Value) (G:List (Value × Nat)) (w':World) (P:List CE) (dd' cc':Nat) (wv':Value):Prop where
 below:Below B w w'
 cst:Cst B cb w' dd' cc' wv' (G++P.map grp)
 row:wv'.ownBlock=wv.ownBlock∨∃ b,wv'.ownBlock=some b∧w.heap.size+1≤b
 frame:∀ b,b<w.heap.size→b≠cb→wv.ownBlock≠some b→w'.heap[b]?=w.heap[b]?
 box0:w'.cell? ⟨w.heap.size,0,none⟩=some bx
 box1:w'.cell? ⟨w.heap.size,1,none⟩=some by_
 size:w.heap.size+1≤w'.heap.size
 pend:∀ e∈P,Y4 S w e
 dmax:max dd' (yh P)=max dd (max (o+1) (o+dep (m+1) (ts.take k)))
 csum:cc'+csum P=cc+ts.length+cnt m (nx (ts.take k))
 more:cc+ts.length≤cc'
theorem ZE {S:Nat→Prop}{w:World}{P:List CE}(h:∀ e∈P,Y4 S w e):P.length≤csum P:=by
 induction P with
 | nil=>simp
 | cons e r ih =>
   have h1:=ih (fun x hx=>h x (List.mem_cons_of_mem _ hx))
   obtain ⟨h2,h3,_⟩:=h e List.mem_cons_self;have h4:=(qb.deep e.n h3).len;have h5:=List.length_pos_iff.2 h2;have h6:csum (e::r)=cnt e.n e.ts+csum r:=by simp[csum]
   simp only[List.length_cons];omega
theorem Yx {S:Nat→Prop}{B cb:Nat}{w:World}{m o k L:Nat}{ts:List Tr}{bx by_:Value}{dd cc:Nat}{wv:Value}{G:List (Value × Nat)}{wr w3:World}{P P1:List CE}{dd' cc' dd3 cc3:Nat}{wv' wv3:Value}{t:Tr}
 (hS:∀ b,S b→wr.heap[b]?=w.heap[b]?) (I:Qs S B cb w m o k ts bx by_ dd cc wv G wr P dd' cc' wv') (hwv:∀ b,wv.ownBlock=some b→b<w.heap.size) (hcb:cb<w.heap.size) (hsn:ts.take (k+1)=ts.take k++[t])
 (J:QR S B cb wr (if t.kids=[] then 0 else o+1+dep m t.kids) (cnt m t.kids) L (o+1) t.kids dd' cc' wv' (G++P.map grp) w3 P1 dd3 cc3 wv3) :
 Qs S B cb w m o (k+1) ts bx by_ dd cc wv G w3 (P++P1) dd3 cc3 wv3:=by
 have hsz3:=J.below.size;have hszr:=I.size
 have hrow:∀ b,b<w.heap.size+1→wv.ownBlock≠some b→wv'.ownBlock≠some b:=by
  intro b hb h1 h2
  rcases I.row with h|⟨b',h,h3⟩
  · exact h1 (h.symm.trans h2)
  · rw[h]at h2;cases h2;omega
 have hbox:w3.heap[w.heap.size]?=wr.heap[w.heap.size]?:=J.frame _ (by omega) (by omega) (hrow _ (by omega) (fun e=>by have:=hwv _ e;omega))
 refine ⟨I.below.trans J.below,?_,?_,?_,?_,?_,by omega,?_,?_,?_,?_⟩
 · have:=J.cst;simpa using this
 · rcases J.row with h | ⟨b, h, h1⟩
   · rw[h];exact I.row
   · exact Or.inr ⟨b,h,by omega⟩
 · intro b hb h1 h2;rw[J.frame b (by omega) h1 (hrow b (by omega) h2),I.frame b hb h1 h2]
 · rw[World.cell?_of_block (a:=⟨w.heap.size,0,none⟩) hbox];exact I.box0
 · rw[World.cell?_of_block (a:=⟨w.heap.size,1,none⟩) hbox];exact I.box1
 · intro e he
   rcases List.mem_append.1 he with he|he
   · exact I.pend e he
   · obtain ⟨h1, h2, h3⟩ := J.pend e he;exact ⟨h1,qb.carry (fun b hb=>⟨hb,(hS b hb).symm⟩) e.n h2,h3⟩
 · rw[yN, hsn, zR, q9, q5];have h1:=J.dmax;have h2:=I.dmax
   by_cases hk:t.kids=[]
   · rw[if_pos hk]at h1
     rw[hk,q5];omega
   · rw[if_neg hk]at h1
     omega
 · rw[zX, hsn, yo, yz, nx_nil, List.append_nil, zP];have h1:=J.csum;have h2:=I.csum;omega
 · have:=J.more.1;have:=I.more;omega
theorem ZN {S:Nat→Prop}{B cb:Nat}{w W0:World}{m o d:Nat}{ts:List Tr}{bx by_:Value}{dd cc:Nat}{wv:Value}{G:List (Value × Nat)}(hd:d=o+1)(hBw:B≤w.heap.size)(hcb:cb<w.heap.size)(hsz:W0.heap.size=w.heap.size+1)(hbx:Below w.heap.size w W0)(hX:Cst B cb W0 dd cc wv G)
 (b0:W0.cell? ⟨w.heap.size,0,none⟩=some bx) (b1:W0.cell? ⟨w.heap.size,1,none⟩=some by_) :
 Qs S B cb w m o 0 ts bx by_ dd cc wv G ((W0.setCell ⟨cb,0,none⟩ (.int .i64 (max (dd:Int) (d:Int)))).setCell ⟨cb,1,none⟩ (.int .i64 ((cc:Int)+(ts.length:Int)))).drew.drew [] (max dd d) (cc+ts.length) wv:=by
 have hk:∀ b,b≠cb→((W0.setCell ⟨cb,0,none⟩ (.int .i64 (max (dd:Int) (d:Int)))).setCell ⟨cb,1,none⟩ (.int .i64 ((cc:Int)+(ts.length:Int)))).drew.drew.heap[b]?=W0.heap[b]?:=by
  intro b hb
  show ((W0.setCell ⟨cb,0,none⟩ (.int .i64 (max (dd:Int) (d:Int)))).setCell ⟨cb,1,none⟩ (.int .i64 ((cc:Int)+(ts.length:Int)))).heap[b]?=_
  rw[Below.heap_setCell _ _ _ _ hb,Below.heap_setCell _ _ _ _ hb]
 subst hd;refine ⟨((((hbx.mono hBw).setCell hX.base _).setCell hX.base _).drew).drew,⟨hX.base,?_,?_,?_⟩,Or.inl rfl,?_,?_,?_,?_,by simp,?_,?_,nR9 _⟩
 · show ((W0.setCell ⟨cb, 0, none⟩ _).setCell ⟨cb, 1, none⟩ _).heap[cb]? = _
   have e1:(((max dd (o+1):Nat)):Int)=max (dd:Int) ((o+1:Nat):Int):=by omega
   have e2:(((cc+ts.length:Nat)):Int)=(cc:Int)+(ts.length:Int):=by omega
   rw[e1,e2];simp[World.setCell,Array.getElem?_modify,hX.held]
 · simp only[List.map_nil, List.append_nil];exact qo hX.own fun b hb=>hk b (fun e=>hX.apart (by rw[hb,e]))
 · simp only[List.map_nil, List.append_nil];exact hX.slices
 · intro b hb h1 _;rw[hk b h1,hbx.block b hb]
 · rw[World.cell?_of_block (a:=⟨w.heap.size,0,none⟩) (hk w.heap.size (by omega))];exact b0
 · rw[World.cell?_of_block (a:=⟨w.heap.size,1,none⟩) (hk w.heap.size (by omega))];exact b1
 · show w.heap.size + 1 ≤ ((W0.setCell ⟨cb, 0, none⟩ _).setCell ⟨cb, 1, none⟩ _).heap.size
   simp;omega
 · simp[yh,q5]
 · simp[Go.Proofs.YtfdbipeidmpciaaDoor.csum,nx_nil,qH]
theorem Yy {S:Nat→Prop}{B cb:Nat}{w:World}{m o L:Nat}{ts:List Tr}{bx by_:Value}{dd cc:Nat}{wv:Value}{G:List (Value × Nat)}{wr:World}{P:List CE}{dd' cc':Nat}{wv':Value}
 (hne:ts≠[]) (I:Qs S B cb w m o ts.length ts bx by_ dd cc wv G wr P dd' cc' wv'):QR S B cb w (o+dep (m+1) ts) (cnt (m+1) ts) L o ts dd cc wv G wr P dd' cc' wv':=by
 refine ⟨I.below,I.cst,?_,I.frame,I.pend,?_,?_,?_,fun _=>I.more⟩
 · rcases I.row with h | ⟨b, h, h1⟩
   · exact Or.inl h
   · exact Or.inr ⟨b,h,by omega⟩
 · have h := I.dmax;rw[List.take_length]at h
   rw[h,Yo m ts hne];omega
 · have h := I.csum;rw[List.take_length]at h
   rw[h,xH m ts];omega
 · have:=I.more;omega
theorem QR.undrew {S:Nat→Prop}{B cb:Nat}{w:World}{ds cs L o:Nat}{ts:List Tr}{dd cc:Nat}{wv:Value}{G:List (Value × Nat)}{w':World}{P:List CE}{dd' cc':Nat}{wv':Value}
    (h:QR S B cb w.drew ds cs L o ts dd cc wv G w' P dd' cc' wv'):QR S B cb w ds cs L o ts dd cc wv G w' P dd' cc' wv' :=
  ⟨(Below.refl B w).drew.trans h.below, h.cst, h.row, h.frame, fun e he => by
    obtain ⟨h1,h2,h3⟩:=h.pend e he;exact ⟨h1,qb.carry (w:=w.drew) (w':=w) (fun b hb=>⟨hb,rfl⟩) e.n h2,h3⟩,h.dmax,h.csum,h.more⟩
theorem J1 (S:Nat→Prop)(B cb:Nat)(L:Nat)(hL:L<1000)(ih:Zp S B cb L):Zp S B cb (L+1):=by
 intro n v ts o d dd cc wv G w hd hS0 hT hC hBw hod hdd hcc hG;have HS0:Hid (∀ b,S b→b<w.heap.size∧b≠cb∧wv.ownBlock≠some b):=hS0;clear hS0;have HD:Hid (d=o+1):=hd
 by_cases hne:ts=[]
 · subst hne
   simpa using Y5 S B cb (L+1) n v o d dd cc wv G w hT hC hBw
 · have hTo : Hid (qb S w n v ts) := hT;obtain ⟨va,vc,rfl,_,hvm⟩:=qb.shape n hT;have hl0:0<ts.length:=List.length_pos_iff.2 hne;have hcn:=(qb.deep n hT).len;have hlt:=hC.lt;have hap:=hC.apart
   have hne1:((ts.length:Int)==0)=false:=by
    have:(ts.length:Int)≠0:=by omega
    simpa using this
   have hne2:((((L+1:Nat):Int))==0)=false:=by
    have:(((L+1:Nat):Int))≠0:=by omega
    simpa using this
   obtain ⟨M,hM⟩:∃ M,L+1=M:=⟨_,rfl⟩;rw[hM]at hne2 ⊢
   have hbx:=Below.alloc1 w (.cells #[.slice va ts.length vc,.int .i64 (d:Int)] 117);have hX:=hC.later hbx;have b0:(w.alloc (.cells #[.slice va ts.length vc,.int .i64 (d:Int)] 117)).cell? ⟨w.heap.size,0,none⟩=some (.slice va ts.length vc):=by simp
   have b1:(w.alloc (.cells #[.slice va ts.length vc,.int .i64 (d:Int)] 117)).cell? ⟨w.heap.size,1,none⟩=some (.int .i64 (d:Int)):=by simp
   have hsz:(w.alloc (.cells #[.slice va ts.length vc,.int .i64 (d:Int)] 117)).heap.size=w.heap.size+1:=by simp
   have HO:Hid (o+dep n ts≤1048577):=hod;have HIH:Hid (Zp S B cb L):=ih;have HM:Hid (L+1=M):=hM;clear hT hd ih hM;unfold maxLen at hvm
   go_enter Tryd.func82,Tryd.ntmps82
   go_wp2_with fail
   generalize w.alloc (.cells #[.slice va ts.length vc,.int .i64 (d:Int)] 117)=W0 at hbx hX b0 b1 hsz ⊢
   have HS:Hid (W0.heap.size=w.heap.size+1):=hsz;have hB0:B≤W0.heap.size:=by omega
   have hszl:w.heap.size<W0.heap.size:=by omega
   have hcw:cb≠w.heap.size:=by omega
   clear hsz;have k0:W0.cell? ⟨cb,0,none⟩=some (.int .i64 (dd:Int)):=by rw[cH9 hX.held];rfl
   have k1:W0.cell? ⟨cb,1,none⟩=some (.int .i64 (cc:Int)):=by rw[cH9 hX.held];rfl
   have kf0:W0.frozen? ⟨cb,0,none⟩=false:=fH9 hX.held 0;have kf1:W0.frozen? ⟨cb,1,none⟩=false:=fH9 hX.held 1;have HX:Hid (Cst B cb W0 dd cc wv G):=hX;have HWV:Hid (∀ b,wv.ownBlock=some b→b<w.heap.size):=fun b hb=>(hC.own.lt b hb).2
   clear hX hC
   go_region
   go_wp2_with fail
   go_region
   go_wp2_with fail;cases n with
   | zero=>exact absurd hTo.out.1 hne
   | succ m =>
   have hwv:∀ b,wv.ownBlock=some b→b<w.heap.size:=fun b hb=>HWV.out b hb
   have HW:Hid (∀ b,wv.ownBlock=some b→b<w.heap.size):=hwv;clear hwv
   go_loopg [46] ts.length (fun g i wr=>∃ (k:Nat) (P:List CE) (dd' cc':Nat) (wv':Value),k+g=ts.length∧i=.int .i64 k∧Qs S B cb w m o k ts (.slice va ts.length vc) (.int .i64 (d:Int)) dd cc wv G wr P dd' cc' wv')
   case atStart => exact ⟨0,[],_,_,_,by omega,rfl,ZN HD.out hBw hlt HS.out hbx HX.out b0 b1⟩
   case round =>
    obtain ⟨k,P,dd',cc',wv',hk,rfl,I⟩:=hrel;have HI:Hid (Qs S B cb w m o k ts (.slice va ts.length vc) (.int .i64 (d:Int)) dd cc wv G wr P dd' cc' wv'):=I;have x0:=I.box0;have x1:=I.box1;have hBr:=I.below;have hsr:=I.size;clear I b0 b1 k0 k1 kf0 kf1 HX hbx hcw hB0 hszl HS
    by_cases hlt':k<ts.length
    · obtain ⟨_, _, hve, _, _, h4⟩ := hTo.out;obtain ⟨b,o',hao,hs,hcc'⟩:=h4 hne
      injection hve with e1 e2 e3
      subst e1;subst hao;obtain ⟨t,ht⟩:∃ t,ts[k]?=some t:=⟨ts[k],by simp[hlt']⟩
      obtain ⟨xa,xk,c0,c1,c2,c3,hat,hkt⟩:=hcc' k t ht;obtain ⟨ka,kc,rfl,_,hkm⟩:=qb.shape m hkt;have hkeep:∀ b,S b→wr.heap[b]?=w.heap[b]?:=fun b hb=>HI.out.frame b (HS0.out b hb).1 (HS0.out b hb).2.1 (HS0.out b hb).2.2
      have HKEEP:Hid (∀ b,S b→wr.heap[b]?=w.heap[b]?):=hkeep;rw[←World.cell?_of_block (a:=⟨b,o'+k*4+3,none⟩) (hkeep b hs)]at c3
      have hsn:ts.take (k+1)=ts.take k++[t]:=by
       rw[List.take_succ_eq_append_getElem hlt'];congr 2;simpa[hlt'] using ht
      have HSN:Hid (ts.take (k+1)=ts.take k++[t]):=hsn;have hkT:qb S wr m (.slice ka t.kids.length kc) t.kids:=qb.carry (fun b hb=>⟨hb,hkeep b hb⟩) m hkt
      have HKT:Hid (qb S wr m (.slice ka t.kids.length kc) t.kids):=hkT
      have hkids:dep m t.kids+1≤dep (m+1) ts∧cnt m (nx (ts.take (k+1)))≤cnt m (nx ts)∧dep (m+1) (ts.take k)≤dep (m+1) ts:=by
       refine ⟨?_,?_,?_⟩
       · obtain ⟨a, b, e⟩ := List.append_of_mem (List.mem_of_getElem? ht);rw[e,zR,q9];omega
       · have e : nx ts = nx (ts.take (k + 1)) ++ nx (ts.drop (k + 1)) := by rw[←yo, List.take_append_drop]
         rw[e,zP];omega
       · have e : dep (m + 1) ts = max (dep (m + 1) (ts.take k)) (dep (m + 1) (ts.drop k)) := by rw[←zR, List.take_append_drop]
         omega
      have HCALL:Hid (Calls Tryd.prog 82 #[.pointer (some ⟨cb,0,none⟩),.agg #[.slice ka t.kids.length kc,.int .i64 ((d:Int)+1)],.int .i64 ((M:Int)-1)] wr.drew fun e w'=>∃ r,e=.returned r∧(r=.tuple #[]∧∃ P1 dd3 cc3 wv3,QR S B cb wr (if t.kids=[] then 0 else o+1+dep m t.kids) (cnt m t.kids) L (o+1) t.kids dd' cc' wv' (G++P.map grp) w' P1 dd3 cc3 wv3)):=by
       have I:=HI.out;have h1:=I.dmax;have h2:=I.csum;have h3:=ZE I.pend;have h4:=I.more;have h5:=xH m ts;obtain ⟨h6,h7,h8⟩:=hkids;rw[hsn,yo,yz,nx_nil,List.append_nil,zP]at h7
       have hd:=HD.out
       have hfree:∀ b,S b→b<wr.drew.heap.size∧b≠cb∧wv'.ownBlock≠some b:=by
        intro b hb;obtain ⟨q1,q2,q3⟩:=HS0.out b hb;refine ⟨Nat.lt_of_lt_of_le q1 (Nat.le_trans (Nat.le_succ _) I.size),q2,fun h=>?_⟩
        rcases I.row with h'|⟨b',h',h''⟩
        · exact q3 (h'.symm.trans h)
        · rw[h']at h;cases h;omega
       have hcst:Cst B cb wr.drew dd' cc' wv' (G++P.map grp):=⟨I.cst.base,I.cst.held,I.cst.own,I.cst.slices⟩;have hTd:qb S wr.drew m (.slice ka t.kids.length kc) t.kids:=qb.carry (w:=wr) (w':=wr.drew) (fun b hb=>⟨hb,rfl⟩) m HKT.out
       have:=HIH.out m (.slice ka t.kids.length kc) t.kids (o+1) (d+1) dd' cc' wv' (G++P.map grp) wr.drew (by omega) hfree hTd hcst (by show B≤wr.heap.size;omega) (by omega) (by omega) (by omega) (by rw[List.length_append,List.length_map];omega)
       have e1:((d+1:Nat):Int)=(d:Int)+1:=by omega
       have e2:(L:Int)=(M:Int)-1:=by have:=HM.out;omega
       rw[e1,e2]at this
       refine this.mono ?_;rintro e w' ⟨rfl,P1,dd3,cc3,wv3,J⟩;exact ⟨_,rfl,rfl,P1,dd3,cc3,wv3,J.undrew⟩
      have hkb:(k:Int)<(ts.length:Int):=by omega
      have hdb:d≤1048578:=by have:=HD.out;omega
      have hMb:1≤M∧M≤1000:=by have:=HM.out;omega
      clear c0 c1 c2 hat hkt hkT hcc' h4 e2 e3 ht hsn hs hkids hkeep;go_wp2_with fail
      go_region_law (first
       | (refine zU (by rfl) 82 #[.pointer (some ⟨cb,0,none⟩),.agg #[.slice ka t.kids.length kc,.int .i64 ((d:Int)+1)],.int .i64 ((M:Int)-1)] (by go_simp;exact ⟨IntWalk.i64_in _ (by omega),IntWalk.i64_in _ (by omega)⟩) _ HCALL.out ?_;intro r w3 hR;obtain ⟨hr,P1,dd3,cc3,wv3,J⟩:=hR))
      all_goals
       go_wp2_with fail
       go_roundg (ts.length-(k+1))
       case measure => omega
       case rel => exact ⟨k+1,_,_,_,_,by omega,by go_num,Yx HKEEP.out HI.out HW.out hlt HSN.out J⟩
    · have hkk : k = ts.length := by omega
      subst hkk;go_wp2_with fail
      go_returns
      exact ⟨rfl,_,_,_,_,Yy hne HI.out⟩
end
section
attribute [local go_sem] qg
theorem XH (S:Nat→Prop)(B cb:Nat):∀ L,L≤1000→Zp S B cb L:=by
 intro L
 induction L with
 | zero=>intro _;exact add_zero S B cb
 | succ L ih=>intro h;exact J1 S B cb L (by omega) (ih (by omega))
structure X9 (S:Nat→Prop) (B cb:Nat) (w:World) (D C:Nat) (w':World) (P:List CE) (dd cc:Nat) (wv:Value):Prop where
 below:Below B w w'
 cst:Cst B cb w' dd cc wv (P.map grp)
 keep:∀ b,S b→w'.heap[b]?=w.heap[b]?
 free:∀ b,S b→wv.ownBlock≠some b
 pend:∀ e∈P,Y4 S w e
 dmax:max dd (yh P)=D
 csum:cc+csum P=C
theorem Ji {S:Nat→Prop}{B cb n:Nat}{va:Option Addr}{vc:Nat}{ts:List Tr}{w:World}(hS:∀ b,S b→b<w.heap.size∧b≠cb)(hne:ts≠[])(hT:qb S w n (.slice va ts.length vc) ts)(hD:dep n ts≤1048577)(hC:Cst B cb w 0 0 (.slice none 0 0) [])(hBw:B≤w.heap.size) :
 X9 S B cb w (dep n ts) (cnt n ts) ((w.setCell ⟨cb,2,none⟩ (.slice (some ⟨w.heap.size,0,none⟩) 1 1)).alloc (.cells #[.slice va ts.length vc,.int .i64 1] 117)) [⟨.slice va ts.length vc,n,ts,0⟩] 0 0 (.slice (some ⟨w.heap.size,0,none⟩) 1 1):=by
 have hlt:=hC.lt;refine ⟨((Below.refl B w).setCell hC.base _).alloc (by simp;omega) _,⟨hC.base,?_,?_,?_⟩,?_,?_,?_,?_,?_⟩
 · rw[Lib.alloc_old _ _ _ (by simp;omega)]
   simp[World.setCell,Array.getElem?_modify,hC.held]
 · have := World.ownsRow_lit (base := B) (e := 117) (size := 2) (w.setCell ⟨cb, 2, none⟩ (.slice (some ⟨w.heap.size, 0, none⟩) 1 1)) #[.slice va ts.length vc, .int .i64 1] 1 (by simp;omega) (by unfold maxLen;omega) rfl
   simpa[grp,groupCells] using this
 · intro x hx;simp[grp]at hx
   subst hx;exact ⟨_,_,_,rfl⟩
 · intro b hb;rw[Lib.alloc_old _ _ _ (by simp;exact (hS b hb).1),Below.heap_setCell _ _ _ _ (hS b hb).2]
 · intro b hb h;cases h;exact Nat.lt_irrefl _ (hS _ hb).1
 · intro e he;simp at he
   subst he;exact ⟨hne,hT,by simpa using hD⟩
 · simp[yh]
 · simp[Go.Proofs.YtfdbipeidmpciaaDoor.csum]
theorem QZ (S:Nat→Prop)(B cb n:Nat)(v:Value)(ts:List Tr)(w:World)(hS:∀ b,S b→b<w.heap.size∧b≠cb)(hne:ts≠[])(hT:qb S w n v ts)(hC:Cst B cb w 0 0 (.slice none 0 0) [])(hBw:B≤w.heap.size)(hcnt:cnt n ts≤1048576) :
 Calls Tryd.prog 52 #[.pointer (some ⟨cb,0,none⟩),v] w fun e w'=>e=.returned (.tuple #[])∧∃ wv,Cst B cb w' (dep n ts) (cnt n ts) wv []∧Below B w w':=by
 obtain ⟨va,vc,rfl,_,hvm⟩:=qb.shape n hT;have hDC:=dep_cnt n ts;have hlt:=hC.lt;have c2:w.cell? ⟨cb,2,none⟩=some (.slice none 0 0):=by rw[cH9 hC.held];rfl
 have f2:w.frozen? ⟨cb,2,none⟩=false:=fH9 hC.held 2;have HC:Hid (Cst B cb w 0 0 (.slice none 0 0) []):=hC;have HT:Hid (qb S w n (.slice va ts.length vc) ts):=hT;clear hC hT
 go_enter Tryd.func52,Tryd.ntmps52
 go_wp2_with fail
 go_loopg [] (cnt n ts) (fun g wr=>∃ P dd cc wv,csum P=g∧X9 S B cb w (dep n ts) (cnt n ts) wr P dd cc wv)
 case atStart => exact ⟨_,_,_,_,by simp[csum],Ji hS hne HT.out (by omega) HC.out hBw⟩
 case round =>
  obtain ⟨P,dd,cc,wv,hm,I⟩:=hrel;subst hm;obtain ⟨wa,wc,rfl⟩:=I.cst.shape;rw[List.length_map]at I
  have d2:wr.cell? ⟨cb,2,none⟩=some (.slice wa P.length wc):=by rw[cH9 I.cst.held];rfl
  have HI:Hid (X9 S B cb w (dep n ts) (cnt n ts) wr P dd cc (.slice wa P.length wc)):=I;clear I
  rcases List.eq_nil_or_concat P with rfl|⟨P0,e,hPe⟩
  · simp only[List.length_nil]at d2
    go_wp2_with fail
    go_returns
    have I:=HI.out;have h1:=I.dmax;have h2:=I.csum;have h3:yh []=0:=rfl;have h4:csum []=0:=rfl;rw[h3]at h1
    rw[h4]at h2
    have e1:dd=dep n ts:=by omega
    have e2:cc=cnt n ts:=by omega
    have hc:=I.cst;rw[e1,e2]at hc
    exact ⟨rfl,_,hc,I.below⟩
  · rw[List.concat_eq_append]at hPe
    subst hPe;have hl:(P0++[e]).length=P0.length+1:=by simp
    rw[hl]at d2
    have hcs:Cst B cb wr dd cc (.slice wa (P0++[e]).length wc) (P0.map grp++[(e.v,e.o+1)]):=by
     have:=HI.out.cst;rw[List.map_append,List.map_cons,List.map_nil]at this
     exact this
    have hszr:B≤wr.heap.size:=Nat.le_trans hBw HI.out.below.size;have HCS:Hid _:=hcs;clear hcs;go_wp2_with fail;refine (JR B cb wr dd cc _ (P0.map grp) e.v (e.o+1) HCS.out hszr).mono ?_;rintro e' w1 ⟨rfl,v1,hc1,hv1,hk1,hb1⟩;have hB1:Below B w w1:=HI.out.below.trans hb1;obtain ⟨hp1,hp2,hp3⟩:=HI.out.pend e (by simp)
    have hwr:=HI.out.below.size;have hw1:=hb1.size;have hkp:∀ b,S b→w1.heap[b]?=w.heap[b]?:=fun b hb=>(hk1 b (by have:=(hS b hb).1;omega) (hS b hb).2).trans (HI.out.keep b hb)
    have HKP:Hid (∀ b,S b→w1.heap[b]?=w.heap[b]?):=hkp;have hfr:∀ b,S b→b<w1.heap.size∧b≠cb∧v1.ownBlock≠some b:=fun b hb=>⟨by have:=(hS b hb).1;omega,(hS b hb).2,by rw[hv1];exact HI.out.free b hb⟩
    have HFR:Hid (∀ b,S b→b<w1.heap.size∧b≠cb∧v1.ownBlock≠some b):=hfr;have hTe:qb S w1 e.n e.v e.ts:=qb.carry (fun b hb=>⟨hb,hkp b hb⟩) e.n hp2
    have h1:=HI.out.dmax;have h2:=HI.out.csum;have h3:csum (P0++[e])=csum P0+cnt e.n e.ts:=by rw[zX];simp[csum]
    have h4:yh (P0++[e])=max (yh P0) (e.o+dep e.n e.ts):=by rw[yN];simp[yh]
    have h5:=ZE (P:=P0) (fun x hx=>HI.out.pend x (by simp[hx]))
    rw[h3]at h2
    rw[h4]at h1
    have hcall:=XH S B cb 1000 (nR9 _) e.n e.v e.ts e.o (e.o+1) dd cc v1 (P0.map grp) w1 rfl hfr hTe hc1 (by have:=hb1.size;omega) hp3 (by omega) (by omega) (by rw[List.length_map];omega)
    have e1:((e.o+1:Nat):Int)=(e.o:Int)+1:=by omega
    rw[e1,show ((1000:Nat):Int)=1000 from rfl]at hcall
    have HCALL:Hid _:=hcall;clear hcall e1 hkp hfr hk1;have H1:Hid (max dd (max (yh P0) (e.o+dep e.n e.ts))=dep n ts):=h1;have H2:Hid (cc+(csum P0+cnt e.n e.ts)=cnt n ts):=h2;have H3:Hid (csum (P0++[e])=csum P0+cnt e.n e.ts):=h3;clear d2 h1 h2 h3 h4 h5 hp3 hTe hc1 hv1 hl hszr;go_wp2_with fail;refine (Calls.mono HCALL.out ?_);rintro e' w2 ⟨rfl,P1,dd3,cc3,wv3,J⟩;go_wp2_with fail
    go_roundg (csum (P0++P1))
    case measure =>
     have h6:=J.csum;have h7:=J.more.2 (by omega)
     have h8:=List.length_pos_iff.2 hp1;rw[H3.out,zX];omega
    case rel =>
     refine ⟨P0++P1,dd3,cc3,wv3,rfl,hB1.trans J.below,by rw[List.map_append];exact J.cst,fun b hb=>(J.frame b (HFR.out b hb).1 (HFR.out b hb).2.1 (HFR.out b hb).2.2).trans (HKP.out b hb),?_,?_,?_,?_⟩
     · intro b hb h
       rcases J.row with h'|⟨b',h',h''⟩
       · exact (HFR.out b hb).2.2 (h'.symm.trans h)
       · rw[h']at h;cases h;have:=(HFR.out _ hb).1;omega
     · intro x hx
       rcases List.mem_append.1 hx with hx|hx
       · exact HI.out.pend x (by simp[hx])
       · obtain ⟨q1, q2, q3⟩ := J.pend x hx;exact ⟨q1,qb.carry (fun b hb=>⟨hb,(HKP.out b hb).symm⟩) x.n q2,q3⟩
     · have h6 := J.dmax;rw[if_neg hp1]at h6
       have h1:=H1.out;rw[yN];omega
     · have h6 := J.csum;have h2:=H2.out;rw[zX];omega
theorem Xw (S:Nat→Prop)(n:Nat)(va vk:Value)(t:Tr)(w:World)(h:qe S w va t.attrs)(hk:qb S w n vk t.kids)(hc:cnt (n+1) [t]≤1048576) :
 Calls Tryd.prog 11 #[.agg #[.bool t.text,.string t.s,va,vk]] w fun e w'=>e=.returned (.tuple #[.int .i64 (dep (n+1) [t]:Int),.int .i64 (cnt (n+1) [t]:Int)])∧Below w.heap.size w w':=by
 obtain ⟨aa,ac,rfl⟩:=h.shape;obtain ⟨ka,kc,rfl,_,_⟩:=qb.shape n hk;have hb:∀ X Y Z,Below w.heap.size w (((w.alloc X).alloc Y).alloc Z):=fun X Y Z=>((Below.alloc1 w X).alloc (by simp) Y).alloc (by simp;omega) Z
 have HB:Hid (∀ X Y Z,Below w.heap.size w (((w.alloc X).alloc Y).alloc Z)):=hb;have HA:Hid (qe (fun b=>S b∧b<w.heap.size) w (.slice aa t.attrs.length ac) t.attrs):=h.bounded
 have HK:Hid (qb (fun b=>S b∧b<w.heap.size) w n (.slice ka t.kids.length kc) t.kids):=qb.bounded n hk
 clear h hk hb
 go_enter Tryd.func11,Tryd.ntmps11
 go_wp2_with fail
 have hT:=qb.of_block (S:=fun b=>S b∧b<w.heap.size) (n:=n) (len:=1) (cap:=1) (ts:=[t]) (e:=25) (fz:=(0,0)) (qs:=[(t.text,t.s,.slice aa t.attrs.length ac,.slice ka t.kids.length kc)]) (heap_alloc_new ((w.alloc (.cells #[.bool t.text,.string t.s,.slice aa t.attrs.length ac,.slice ka t.kids.length kc] 25)).alloc (.cells #[.int .i64 0,.int .i64 0,.slice none 0 0] 63)) (.cells #[.bool t.text,.string t.s,.slice aa t.attrs.length ac,.slice ka t.kids.length kc] 25)) rfl rfl rfl (nR9 _) (by unfold maxLen;simp) (by
  intro i q t' hq ht';cases i with
  | zero =>
    simp at hq ht'
    subst hq ht';exact ⟨rfl,rfl,HA.out.later (HB.out _ _ _),qb.later (HB.out _ _ _) n HK.out⟩
  | succ i=>simp at ht')
 have hCst:Cst w.heap.size (w.heap.size+1) (((w.alloc (.cells #[.bool t.text,.string t.s,.slice aa t.attrs.length ac,.slice ka t.kids.length kc] 25)).alloc (.cells #[.int .i64 0,.int .i64 0,.slice none 0 0] 63)).alloc (.cells #[.bool t.text,.string t.s,.slice aa t.attrs.length ac,.slice ka t.kids.length kc] 25)) 0 0 (.slice none 0 0) []:=by
  refine ⟨by omega,?_,World.ownsRow_nil _ _ _ _,by simp⟩
  have e:=heap_alloc_new (w.alloc (.cells #[.bool t.text,.string t.s,.slice aa t.attrs.length ac,.slice ka t.kids.length kc] 25)) (.cells #[.int .i64 0,.int .i64 0,.slice none 0 0] 63);rw[World.size_alloc]at e
  rw[Lib.alloc_old _ _ _ (by simp)]
  exact e
 have hB3:=HB.out (.cells #[.bool t.text,.string t.s,.slice aa t.attrs.length ac,.slice ka t.kids.length kc] 25) (.cells #[.int .i64 0,.int .i64 0,.slice none 0 0] 63) (.cells #[.bool t.text,.string t.s,.slice aa t.attrs.length ac,.slice ka t.kids.length kc] 25);have hs2:((w.alloc (.cells #[.bool t.text,.string t.s,.slice aa t.attrs.length ac,.slice ka t.kids.length kc] 25)).alloc (.cells #[.int .i64 0,.int .i64 0,.slice none 0 0] 63)).heap.size=w.heap.size+1+1:=by simp
 rw[hs2]at hT
 refine (QZ _ w.heap.size (w.heap.size+1) (n+1) _ [t] _ ?_ (by simp) hT hCst hB3.size hc).mono ?_
 · intro b hb;simp only[World.size_alloc]
   rcases hb with hb|hb
   · have:=hb.2;omega
   · omega
 rintro e w2 ⟨rfl,wv,hC2,hb2⟩;have k0:w2.cell? ⟨w.heap.size+1,0,none⟩=some (.int .i64 (dep (n+1) [t]:Int)):=by rw[cH9 hC2.held];rfl
 have k1:w2.cell? ⟨w.heap.size+1,1,none⟩=some (.int .i64 (cnt (n+1) [t]:Int)):=by rw[cH9 hC2.held];rfl
 have hB4:Below w.heap.size w w2:=hB3.trans hb2;obtain ⟨D,hD⟩:∃ D,dep (n+1) [t]=D:=⟨_,rfl⟩;obtain ⟨C,hC⟩:∃ C,cnt (n+1) [t]=C:=⟨_,rfl⟩;rw[hD]at k0
 rw[hC]at k1
 have HD:Hid (dep (n+1) [t]=D):=hD;have HC:Hid (cnt (n+1) [t]=C):=hC;clear hD hC hc;clear hC2 hT hCst hB3 hb2 hs2;go_wp2_with fail
 go_region
 all_goals
  go_wp2_with fail
  go_ret2
  exact ⟨by rw[HD.out,HC.out];rfl,hB4.drew⟩
end
theorem ZZ (c:UInt8)(w:World) :
 Calls Tryd.prog 54 #[.int .u8 (c.toNat:Int)] w fun e w'=>e=.returned (.bool (sign c))∧w'=w:=by
 by_cases h10:c.toNat=10
 · have hb : ((c.toNat : Int) == 10) = true := by simp;omega
   have HS:Hid (sign c=true):=by show _=_;simp[sign,h10]
   clear h10
   go_enter Tryd.func54,Tryd.ntmps54
   go_wp2;go_ret;exact ⟨by rw[HS.out];rfl,rfl⟩
 · have hb : ((c.toNat : Int) == 10) = false := by simp;omega
   by_cases ha:(32:Int)≤(c.toNat:Int)
   · by_cases hb' : (c.toNat : Int) < 127
     · have HS : Hid (sign c = true) := by show _ = _;simp[sign, h10];omega
       clear h10
       go_enter Tryd.func54,Tryd.ntmps54
       go_wp2;go_ret;exact ⟨by rw[HS.out];rfl,rfl⟩
     · have HS : Hid (sign c = false) := by show _ = _;simp[sign, h10];omega
       clear h10
       go_enter Tryd.func54,Tryd.ntmps54
       go_wp2;go_ret;exact ⟨by rw[HS.out];rfl,rfl⟩
   · have HS : Hid (sign c = false) := by show _ = _;simp[sign, h10];omega
     clear h10
     go_enter Tryd.func54,Tryd.ntmps54
     go_wp2;go_ret;exact ⟨by rw[HS.out];rfl,rfl⟩
theorem xh (s:ByteArray)(w:World)(hs:s.size≤maxLen) :
 Calls Tryd.prog 16 #[.string s] w fun e w'=>e=.returned (.bool (qO s))∧Below w.heap.size w w':=by
 unfold maxLen at hs
 have hcv:=Lib.run_convert_string_bytes (P:=Tryd.prog) w 9 66 5 s (u:=.string) Tryd.underlying9 Tryd.underlying66 Tryd.underlying5;have hbw:Below w.heap.size w (Lib.bytesWorld w 5 s):=⟨rfl,rfl,rfl,by rw[Lib.bytesWorld_size];omega,fun k hk=>Lib.bytesWorld_at_old w _ s k hk⟩
 have hcell:Hid (∀ k (h:k<s.size),(Lib.bytesWorld w 5 s).cell? ⟨w.heap.size,k,none⟩=some (.int .u8 (s[k].toNat:Int))):=by
  intro k h;rw[Lib.bytesWorld_cell w _ s k h];simp[List.getD,h];rfl
 generalize Lib.bytesWorld w 5 s=W at hcv hbw hcell
 generalize grownCap w s.size 0 5=cap at hcv
 have HB:Hid (Below w.heap.size w W):=hbw;clear hbw
 go_enter Tryd.func16,Tryd.ntmps16
 go_wp2
 go_loop [8] (fun i=>∃ k:Nat,k≤s.size∧i=.int .i64 k∧(s.data.toList.take k).all sign=true) (fun i=>s.size-(intOf i).toNat)
 case atStart => exact ⟨0,Nat.zero_le _,rfl,by simp⟩
 case round =>
  obtain ⟨k,hk,rfl,hall⟩:=hrel;have HA:Hid ((s.data.toList.take k).all sign=true):=hall;clear hall
  by_cases hlt:k<s.size
  · have hc := hcell.out k hlt;go_wp2_with fail;refine (ZZ s[k] W).mono ?_;rintro e W' ⟨rfl,rfl⟩
    by_cases hp:sign s[k]=true
    · go_wp2;exact ⟨⟨k+1,by omega,by go_num,jG hlt HA.out hp⟩,by simp[intOf];omega⟩
    · have hp' : sign s[k] = false := by simpa using hp
      go_wp2;go_ret;exact ⟨by simp[qO,yL hlt hp'],HB⟩
  · have HT:Hid (s.data.toList.all sign=true):=by
     have:=HA.out;rw[List.take_of_length_le (by simp;omega)]at this
     exact this
    by_cases h40:s.size≤40
    · go_wp2;go_ret;exact ⟨by simp[qO,HT.out,h40];omega,HB⟩
    · go_wp2;go_ret;exact ⟨by simp[qO,h40];omega,HB⟩
theorem qb.pred {S:Nat→Prop}{w:World}{m:Nat}{v:Value}{ts:List Tr}(h:qb S w m v ts):qb S w (m.pred+1) v ts:=by
 cases m with
 | zero=>exact qb.deeper 0 h
 | succ m=>exact h
theorem qb.back {S:Nat→Prop}{w:World}{m:Nat}{v:Value}{ts:List Tr}(h:qb S w (m.pred+1) v ts)(hd:Deep m ts):qb S w m v ts:=by
 cases m with
 | zero =>
   have:ts=[]:=hd;subst this;obtain ⟨a,c,e,_,hc⟩:=qb.shape 1 h;exact ⟨rfl,a,c,e,hc⟩
 | succ m=>exact h
theorem YR (S:Nat→Prop)(n:Nat)(va vk:Value)(t:Tr)(w:World)(h:qe S w va t.attrs)(hk:qb S w n vk t.kids)(hc:cnt (n+1) [t]≤1048576) :
 Calls Tryd.prog 12 #[.agg #[.bool t.text,.string t.s,va,vk]] w fun e w'=>e=.returned (.tuple #[.int .i64 (dep (n+1) [t]:Int),.int .i64 (cnt (n+1) [t]:Int)])∧Below w.heap.size w w':=by
 obtain ⟨aa,ac,rfl⟩:=h.shape;obtain ⟨ka,kc,rfl,_,_⟩:=qb.shape n hk;have hb:∀ X Y,Below w.heap.size w ((w.alloc X).alloc Y):=fun X Y=>(Below.alloc1 w X).alloc (by simp) Y
 have hT:qb (fun _=>True) ((w.alloc (.cells #[.bool t.text,.string t.s,.slice aa t.attrs.length ac,.slice ka t.kids.length kc] 25)).alloc (.cells #[.bool t.text,.string t.s,.slice aa t.attrs.length ac,.slice ka t.kids.length kc] 25)) (n+1) (.slice (some ⟨w.heap.size+1,0,none⟩) 1 1) [t]:=by
  refine qb.carry (fun b _=>⟨trivial,rfl⟩) (n+1) (qb.of_block (S:=S) (e:=25) (fz:=(0,0)) (qs:=[(t.text,t.s,.slice aa t.attrs.length ac,.slice ka t.kids.length kc)]) ?_ rfl rfl rfl (nR9 _) (by unfold maxLen;simp) ?_)
  · have := heap_alloc_new (w.alloc (.cells #[.bool t.text, .string t.s, .slice aa t.attrs.length ac, .slice ka t.kids.length kc] 25)) (.cells #[.bool t.text, .string t.s, .slice aa t.attrs.length ac, .slice ka t.kids.length kc] 25);rw[World.size_alloc]at this
    exact this
  · intro i q t' hq ht';cases i with
    | zero =>
      simp at hq ht'
      subst hq ht';exact ⟨rfl,rfl,h.later (hb _ _),qb.later (hb _ _) n hk⟩
    | succ i=>simp at ht'
 have HT:Hid _:=hT;have HB:Hid (∀ X Y,Below w.heap.size w ((w.alloc X).alloc Y)):=hb;clear hT hb h hk;obtain ⟨D,hD⟩:∃ D,dep (n+1) [t]=D:=⟨_,rfl⟩;obtain ⟨C,hC⟩:∃ C,cnt (n+1) [t]=C:=⟨_,rfl⟩;rw[hD,hC];rw[hC]at hc
 have HD:Hid (dep (n+1) [t]=D):=hD;have HC:Hid (cnt (n+1) [t]=C):=hC;clear hD hC;have hDC:D≤1048576:=by have:=dep_cnt (n+1) [t];rw[HD.out,HC.out]at this;omega
 go_enter Tryd.func12,Tryd.ntmps12
 go_wp2_with fail
 go_loopg [4,5,6] (n+1) (fun g d c v wr=>∃ (dd cc:Nat) (lv:List Tr),d=.int .i64 (dd:Int)∧c=.int .i64 (cc:Int)∧qb (fun _=>True) wr g v lv∧dd+dep g lv=D∧cc+cnt g lv=C∧Below w.heap.size w wr)
 case atStart => exact ⟨0,0,[t],rfl,rfl,HT,by rw[HD.out];omega,by rw[HC.out];omega,HB _ _⟩
 case round =>
  obtain ⟨dd,cc,lv,rfl,rfl,hlv,hd,hcn,hB⟩:=hrel;have hsz:=hB.size
  by_cases hne:lv=[]
  · subst hne;rw[q5]at hd
    rw[qH]at hcn
    obtain ⟨la,lc,rfl,_,_⟩:=qb.shape _ hlv;have hd':dd=D:=by omega
    have hc':cc=C:=by omega
    subst hd' hc';clear hlv HT HD HC;simp only[List.length_nil];go_wp2_with fail
    go_ret2
    exact ⟨rfl,hB⟩
  · cases gk with
    | zero=>exact absurd hlv.1 hne
    | succ m =>
      obtain ⟨wo,hwo⟩:∃ x,x=wr:=⟨_,rfl⟩;subst hwo;rw[Yo m lv hne]at hd
      rw[xH m lv]at hcn
      have hdeep:Deep m (nx lv):=(qb.deep (m+1) hlv).nx;have hlen:=hdeep.len;have HDp:Hid (Deep m (nx lv)):=hdeep;have hlv':=qb.bounded (m+1) hlv;obtain ⟨la,lc,rfl,hlc,hlm⟩:=qb.shape _ hlv;obtain ⟨_,_,hve,_,_,h4⟩:=hlv';have hl0:0<lv.length:=List.length_pos_iff.2 hne;obtain ⟨b,o,hao,hs,hcc⟩:=h4 hne
      injection hve with e1 e2 e3
      subst e1;subst hao;have Hd:Hid (dd+(1+dep m (nx lv))=D):=hd;have Hc:Hid (cc+(lv.length+cnt m (nx lv))=C):=hcn;have HCC:Hid _:=hcc;have hcb:cc+lv.length≤1048576:=by omega
      have hdb:dd≤1048576:=by omega
      have hnb:(nx lv).length≤1048576:=by omega
      clear hdeep h4 e2 hd hcn hcc hlen hs e3 HT HD HC hlv;unfold maxLen at hlm
      go_wp2_with fail
      go_loopg [7,23] lv.length (fun g v i wr=>∃ (k:Nat) (qs:List (Bool × ByteArray × Value × Value)),k+g=lv.length∧i=.int .i64 k∧qS (fun b=>b<wo.heap.size) m.pred wo.heap.size wr v (nx (lv.take k)) qs∧Below wo.heap.size wo wr)
      case atStart => exact ⟨0,[],by omega,rfl,qS.nil _ _ _ _,Below.refl _ _⟩
      case round =>
       obtain ⟨k,qs,hk,rfl,hG,hBq⟩:=hrel;have hszq:=hBq.size
       by_cases hlt:k<lv.length
       · obtain ⟨x, hx⟩ : ∃ x, lv[k]? = some x := ⟨lv[k], by simp[hlt]⟩
         obtain ⟨va,vk,c0,c1,c2,c3,hat,hkt⟩:=HCC.out k x hx;obtain ⟨xa,xc,rfl⟩:=hat.shape;obtain ⟨ya,yc,rfl,_,_⟩:=qb.shape m hkt;have hbl:b<wo.heap.size:=World.block_lt_of_cell? wo _ c0;rw[←hBq.cell (p:=⟨b,o+k*4,none⟩) hbl]at c0
         rw[←hBq.cell (p:=⟨b,o+k*4+1,none⟩) hbl]at c1
         rw[←hBq.cell (p:=⟨b,o+k*4+2,none⟩) hbl]at c2
         rw[←hBq.cell (p:=⟨b,o+k*4+3,none⟩) hbl]at c3
         have hsn:nx (lv.take (k+1))=nx (lv.take k)++x.kids:=by
          have e:lv.take (k+1)=lv.take k++[x]:=by
           rw[List.take_succ_eq_append_getElem hlt];congr 2;simpa[hlt] using hx
          rw[e,yo,yz,nx_nil,List.append_nil]
         have HS:Hid (nx (lv.take (k+1))=nx (lv.take k)++x.kids):=hsn
         have hle:(nx (lv.take k)++x.kids).length≤1048576:=by
          rw[←hsn];have e:nx lv=nx (lv.take (k+1))++nx (lv.drop (k+1)):=by rw[←yo,List.take_append_drop]
          rw[e,List.length_append]at hnb
          omega
         rw[List.length_append]at hle
         have hblq:b<wr.heap.size:=by omega
         have hG1:=hG.later (Below.alloc1 wr (.cells #[.bool x.text,.string x.s,.slice xa x.attrs.length xc,.slice ya x.kids.length yc] 25));have hB1:Below wo.heap.size wo (wr.alloc (.cells #[.bool x.text,.string x.s,.slice xa x.attrs.length xc,.slice ya x.kids.length yc] 25)):=hBq.alloc hszq _;have hK1:=(qb.later hB1 m hkt).pred;obtain ⟨us,hus⟩:∃ us,nx (lv.take k)=us:=⟨_,rfl⟩;rw[hus]at hG1 hle HS hG
         obtain ⟨ja,jc,rfl⟩:=hG1.shape;clear hx hsn hus hG hat hkt;go_wp2_with (at_builtin;refine ji rfl _ _ rfl (fun b=>b<wo.heap.size) _ m.pred wo.heap.size _ _ us x.kids qs rfl hG1 rfl hK1 ?qc1 hle ?qc2 ?_)
         case qc1 =>
          intro b hb;refine ⟨Or.inl hb.2,Nat.lt_of_lt_of_le hb.2 (by simp;omega),fun e=>?_⟩
          have:=(hG1.own.lt b e).1;have:=hb.2;omega
         case qc2 => simp;omega
         intro v' w2 qs' hG2 hb2;have hB2:Below wo.heap.size wo w2:=hB1.trans hb2;go_wp2_with fail
         go_roundg (lv.length-(k+1))
         case measure => omega
         case rel => exact ⟨k+1,qs',by omega,by go_num,by rw[HS.out];exact hG2,hB2⟩
       · have hkk : k = lv.length := by omega
         subst hkk;rw[List.take_length]at hG
         have hT2:qb (fun _=>True) wr m _ (nx lv):=qb.carry (fun b _=>⟨trivial,rfl⟩) m (hG.done.back HDp.out)
         have hBw:Below w.heap.size w wr:=hB.trans (hBq.mono hsz);go_wp2_with fail
         go_roundg m
         case measure => omega
         case rel => exact ⟨dd+1,cc+lv.length,nx lv,by go_num,by go_num,hT2,by have:=Hd.out;omega,by have:=Hc.out;omega,hBw⟩
theorem Qo (S S':Nat→Prop)(v v':Value)(l:List (ByteArray × ByteArray))(w:World)(h1:qe S w v l)(h2:qe S' w v' l) :
 Calls Tryd.prog 58 #[v,v'] w fun e w'=>e=.returned (.bool true)∧Below w.heap.size w w':=by
 obtain ⟨a,cap,rfl,_,hm,h5⟩:=h1;obtain ⟨a',cap',rfl,_,_,h5'⟩:=h2;unfold maxLen at hm
 have hne:((l.length:Int) != l.length)=false:=by simp
 go_enter Tryd.func58,Tryd.ntmps58
 go_wp2_with fail
 go_loopg [13] l.length (fun g i wr=>∃ k:Nat,k+g=l.length∧i=.int .i64 k∧Below w.heap.size w wr)
 case atStart => exact ⟨0,by omega,rfl,Below.refl _ _⟩
 case round =>
  obtain ⟨k,hk,rfl,hB⟩:=hrel
  by_cases hlt:k<l.length
  · have hne : l ≠ [] := by intro e;subst e;simp at hlt
    obtain ⟨b,o,rfl,hs,hcc⟩:=h5 hne;obtain ⟨b',o',rfl,hs',hcc'⟩:=h5' hne;obtain ⟨x,hx⟩:∃ x,l[k]?=some x:=⟨l[k],by simp[hlt]⟩
    obtain ⟨c0,c1⟩:=hcc k x hx;obtain ⟨c0',c1'⟩:=hcc' k x hx;have hbl:b<w.heap.size:=World.block_lt_of_cell? w _ c0;have hbl':b'<w.heap.size:=World.block_lt_of_cell? w _ c0';rw[←hB.cell (p:=⟨b,o+k*2,none⟩) hbl]at c0
    rw[←hB.cell (p:=⟨b,o+k*2+1,none⟩) hbl]at c1
    rw[←hB.cell (p:=⟨b',o'+k*2,none⟩) hbl']at c0'
    rw[←hB.cell (p:=⟨b',o'+k*2+1,none⟩) hbl']at c1'
    have hlti:(k:Int)<(l.length:Int):=by omega
    clear hcc hcc' h5 h5' hx;go_wp2_with fail
    go_quiet (fail)
    go_wp2_with fail
    go_roundg (l.length-(k+1))
    case measure => omega
    case rel => exact ⟨k+1,by omega,by go_num,below_drewN hB nq⟩
  · go_wp2_with fail;go_ret;exact ⟨rfl,hB⟩
def zy (n:Nat):Prop:=∀ (S S':Nat→Prop) (v v':Value) (ts:List Tr) (w:World),qb S w n v ts→qb S' w n v' ts →
 Calls Tryd.prog 59 #[v,v'] w fun e w'=>e=.returned (.bool true)∧Below w.heap.size w w'
def js (n:Nat):Prop:=∀ (S S':Nat→Prop) (tx:Bool) (s:ByteArray) (va va' vk vk':Value) (l:List (ByteArray × ByteArray)) (ts:List Tr) (w:World),qe S w va l→qe S' w va' l→qb S w n vk ts→qb S' w n vk' ts →
 Calls Tryd.prog 25 #[.agg #[.bool tx,.string s,va,vk],.agg #[.bool tx,.string s,va',vk']] w fun e w'=>e=.returned (.bool true)∧Below w.heap.size w w'
theorem Zg (n:Nat)(h:js n):zy (n+1):=by
 intro S S' v v' ts w h1 h2;obtain ⟨a,cap,rfl,_,hm,h4⟩:=h1;obtain ⟨a',cap',rfl,_,_,h4'⟩:=h2;unfold maxLen at hm
 have hne:((ts.length:Int) != ts.length)=false:=by simp
 have H:Hid (js n):=h;clear h
 go_enter Tryd.func59,Tryd.ntmps59
 go_wp2_with fail
 go_loopg [13] ts.length (fun g i wr=>∃ k:Nat,k+g=ts.length∧i=.int .i64 k∧Below w.heap.size w wr)
 case atStart => exact ⟨0,by omega,rfl,Below.refl _ _⟩
 case round =>
  obtain ⟨k,hk,rfl,hB⟩:=hrel
  by_cases hlt:k<ts.length
  · have hne : ts ≠ [] := by intro e;subst e;simp at hlt
    obtain ⟨b,o,rfl,hs,hcc⟩:=h4 hne;obtain ⟨b',o',rfl,hs',hcc'⟩:=h4' hne;obtain ⟨t,ht⟩:∃ t,ts[k]?=some t:=⟨ts[k],by simp[hlt]⟩
    obtain ⟨va,vk,c0,c1,c2,c3,hat,hkt⟩:=hcc k t ht;obtain ⟨va',vk',c0',c1',c2',c3',hat',hkt'⟩:=hcc' k t ht;have hbl:b<w.heap.size:=World.block_lt_of_cell? w _ c0;have hbl':b'<w.heap.size:=World.block_lt_of_cell? w _ c0';rw[←hB.cell (p:=⟨b,o+k*4,none⟩) hbl]at c0
    rw[←hB.cell (p:=⟨b,o+k*4+1,none⟩) hbl]at c1
    rw[←hB.cell (p:=⟨b,o+k*4+2,none⟩) hbl]at c2
    rw[←hB.cell (p:=⟨b,o+k*4+3,none⟩) hbl]at c3
    rw[←hB.cell (p:=⟨b',o'+k*4,none⟩) hbl']at c0'
    rw[←hB.cell (p:=⟨b',o'+k*4+1,none⟩) hbl']at c1'
    rw[←hB.cell (p:=⟨b',o'+k*4+2,none⟩) hbl']at c2'
    rw[←hB.cell (p:=⟨b',o'+k*4+3,none⟩) hbl']at c3'
    have hlti:(k:Int)<(ts.length:Int):=by omega
    clear hcc hcc' h4 h4' ht;go_wp2_with fail
    go_region_with (go_at_call 25;refine (H.out S S' t.text t.s va va' vk vk' t.attrs t.kids wr.drew (hat.later hB.drew) (hat'.later hB.drew) (qb.later hB.drew n hkt) (qb.later hB.drew n hkt')).mono ?_;rintro e w1 ⟨rfl,hb1⟩)
    all_goals
     go_wp2_with fail
     go_roundg (ts.length-(k+1))
     case measure => omega
     case rel => exact ⟨k+1,by omega,by go_num,hB.drew.trans (hb1.mono hB.size)⟩
  · go_wp2_with fail;go_ret;exact ⟨rfl,hB⟩
theorem yZ (n:Nat)(h:zy n):js n:=by
 intro S S' tx s va va' vk vk' l ts w h1 h2 h3 h4;have H:Hid (zy n):=h;clear h;obtain ⟨ka,kc,rfl,_,_⟩:=qb.shape n h3;obtain ⟨ka',kc',rfl,_,_⟩:=qb.shape n h4;obtain ⟨aa,ac,rfl⟩:=h1.shape;obtain ⟨aa',ac',rfl⟩:=h2.shape;have htx:(tx==tx)=true:=by simp
 go_enter Tryd.func25,Tryd.ntmps25
 go_wp2_with fail;have hb0:∀ X Y,Below w.heap.size w ((w.alloc X).alloc Y):=fun X Y=>(Below.alloc1 w X).alloc (by simp) Y
 refine (Qo S S' _ _ l _ (h1.later (hb0 _ _)) (h2.later (hb0 _ _))).mono ?_;rintro e w1 ⟨rfl,hb1⟩
 have q3:w1.cell? ⟨w.heap.size,3,none⟩=some (.slice ka ts.length kc):=by
  rw[hb1.cell (p:=⟨w.heap.size,3,none⟩) (by simp;omega)];simp[go_sem]
 have q3':w1.cell? ⟨w.heap.size+1,3,none⟩=some (.slice ka' ts.length kc'):=by
  rw[hb1.cell (p:=⟨w.heap.size+1,3,none⟩) (by simp)];simp[go_sem]
 have hB1:Below w.heap.size w w1:=(hb0 _ _).trans (hb1.mono (by simp;omega))
 go_wp2_with fail;refine (H.out S S' _ _ ts _ (qb.later hB1 n h3) (qb.later hB1 n h4)).mono ?_;rintro e w2 ⟨rfl,hb2⟩;go_wp2_with fail;go_ret;exact ⟨rfl,hB1.trans (hb2.mono hB1.size)⟩
theorem sameTrees_zero:zy 0:=by
 intro S S' v v' ts w h1 h2;obtain ⟨rfl,a,cap,rfl,_⟩:=h1;obtain ⟨_,a',cap',rfl,_⟩:=h2
 go_enter Tryd.func59,Tryd.ntmps59
 go_wp2_with fail;go_rounds 1;go_ret;exact ⟨rfl,Below.refl _ _⟩
theorem jo (n:Nat):zy n:=by
 induction n with
 | zero=>exact sameTrees_zero
 | succ n ih=>exact Zg n (yZ n ih)
theorem XD {α:Type}{l m:List α}(hl:l.length=m.length)(h:l.take l.length=m.take l.length):l=m:=by
 rw[List.take_length,hl,List.take_length]at h;exact h
theorem jS (S S':Nat→Prop)(v v':Value)(l m:List (ByteArray × ByteArray))(w:World)(h1:qe S w v l)(h2:qe S' w v' m) :
 Calls Tryd.prog 58 #[v,v'] w fun e w'=>e=.returned (.bool (decide (l=m)))∧Below w.heap.size w w':=by
 obtain ⟨a,cap,rfl,_,hm,h5⟩:=h1;obtain ⟨a',cap',rfl,_,_,h5'⟩:=h2;unfold maxLen at hm
 by_cases hlen:l.length=m.length
 · have hne : ((l.length : Int) != m.length) = false := by simp[hlen]
   have HL:Hid (l.length=m.length):=hlen;clear hlen
   go_enter Tryd.func58,Tryd.ntmps58
   go_wp2_with fail
   go_loopg [13] l.length (fun g i wr=>∃ k:Nat,k+g=l.length∧i=.int .i64 k∧Below w.heap.size w wr∧l.take k=m.take k)
   case atStart => exact ⟨0,by omega,rfl,Below.refl _ _,by simp⟩
   case round =>
    obtain ⟨k,hk,rfl,hB,htk⟩:=hrel;have HTK:Hid (l.take k=m.take k):=htk;clear htk
    by_cases hlt:k<l.length
    · have hne1 : l ≠ [] := by intro e;subst e;simp at hlt
      have hlt':k<m.length:=by have:=HL.out;omega
      have hne2:m≠[]:=by intro e;subst e;simp at hlt'
      obtain ⟨b,o,rfl,hs,hcc⟩:=h5 hne1;obtain ⟨b',o',rfl,hs',hcc'⟩:=h5' hne2;obtain ⟨x,hx⟩:∃ x,l[k]?=some x:=⟨l[k],by simp[hlt]⟩
      obtain ⟨y,hy⟩:∃ y,m[k]?=some y:=⟨m[k],by simp[hlt']⟩
      obtain ⟨c0,c1⟩:=hcc k x hx;obtain ⟨c0',c1'⟩:=hcc' k y hy;have hbl:b<w.heap.size:=World.block_lt_of_cell? w _ c0;have hbl':b'<w.heap.size:=World.block_lt_of_cell? w _ c0';rw[←hB.cell (p:=⟨b,o+k*2,none⟩) hbl]at c0
      rw[←hB.cell (p:=⟨b,o+k*2+1,none⟩) hbl]at c1
      rw[←hB.cell (p:=⟨b',o'+k*2,none⟩) hbl']at c0'
      rw[←hB.cell (p:=⟨b',o'+k*2+1,none⟩) hbl']at c1'
      have hlti:(k:Int)<(l.length:Int):=by omega
      have hlti':(k:Int)<(m.length:Int):=by omega
      have hstep:x=y→l.take (k+1)=m.take (k+1):=by
       intro e;have e1:l.take (k+1)=l.take k++[x]:=by rw[List.take_succ_eq_append_getElem hlt];congr 2;simpa[hlt] using hx
       have e2:m.take (k+1)=m.take k++[y]:=by rw[List.take_succ_eq_append_getElem hlt'];congr 2;simpa[hlt'] using hy
       rw[e1,e2,HTK.out,e]
      have hno:x≠y→decide (l=m)=false:=by
       intro e;simp only[decide_eq_false_iff_not];rintro rfl;rw[hx]at hy;exact e (by cases hy;rfl)
      have HSTEP:Hid (x=y→l.take (k+1)=m.take (k+1)):=hstep;have HNO:Hid (x≠y→decide (l=m)=false):=hno;clear hcc hcc' h5 h5' hx hy hstep hno;obtain ⟨x1,x2⟩:=x;obtain ⟨y1,y2⟩:=y;simp only at c0 c1 c0' c1'
      by_cases he:x1=y1
      · by_cases he2 : x2 = y2
        · subst he;subst he2;have HS2:Hid (l.take (k+1)=m.take (k+1)):=HSTEP.out rfl;clear HSTEP HNO;go_wp2_with fail
          go_quiet (fail)
          go_wp2_with fail
          go_roundg (l.length-(k+1))
          case measure => omega
          case rel => exact ⟨k+1,by omega,by go_num,below_drewN hB nq,HS2.out⟩
        · have hb : (x2.toList == y2.toList) = false := jI he2;have HQ:Hid (decide (l=m)=false):=HNO.out (by intro e;cases e;exact he2 rfl)
          subst he;clear HSTEP HNO he2;go_wp2_with fail
          go_quiet (fail)
          go_wp2_with fail;go_ret;exact ⟨by rw[HQ.out];rfl,below_drewN hB nq⟩
      · have hb : (x1.toList == y1.toList) = false := jI he;have HQ:Hid (decide (l=m)=false):=HNO.out (by intro e;cases e;exact he rfl)
        clear HSTEP HNO he;go_wp2_with fail
        go_quiet (fail)
        go_wp2_with fail;go_ret;exact ⟨by rw[HQ.out];rfl,below_drewN hB nq⟩
    · have hkk : k = l.length := by omega
      subst hkk;have HQ:Hid (decide (l=m)=true):=decide_eq_true (XD HL.out HTK.out);go_wp2_with fail;go_ret;exact ⟨by rw[HQ.out];rfl,hB⟩
 · have hne:((l.length:Int) != m.length)=true:=by
    have:(l.length:Int)≠m.length:=by omega
    simpa using this
   have hq:decide (l=m)=false:=by
    simp only[decide_eq_false_iff_not];rintro rfl;exact hlen rfl
   rw[hq]
   go_enter Tryd.func58,Tryd.ntmps58
   go_wp2_with fail;go_ret;exact ⟨rfl,Below.refl _ _⟩
end Go.Proofs.YtfdbipeidmpciaaDoor
