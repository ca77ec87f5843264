/- tree.Joined: for every list of trees, what it answers is the joined list, in new memory. Condition: at most 2^20 trees, letters, attributes. -/
import Derived.Test.YtfdbipeidmpciaaKidsW
namespace Go.Proofs.Ytfdbipeidmpciaa
open Go.ChangeShapes Go.WideShapes Go.ChangeAt Go.RowKit
set_option maxRecDepth 100000
def zq (P:List Ent):Nat:=(P.map fun e=>max 1 (cnt (e.n+1) e.us)).sum
theorem zv (P Q:List Ent):zq (P++Q)=zq P+zq Q:=by simp[zq]
theorem Qi (P:List Ent):P.length≤zq P:=by
 induction P with
 | nil=>simp
 | cons e r ih =>
   have:zq (e::r)=max 1 (cnt (e.n+1) e.us)+zq r:=by simp[zq]
   simp only[List.length_cons];omega
theorem y5 {P:List Ent}(h:∀ e∈P,e.us≠[]):zq P=zr P:=by
 induction P with
 | nil=>rfl
 | cons e r ih =>
   have h1:=ih (fun x hx=>h x (List.mem_cons_of_mem _ hx))
   have h2:=yj e.n e.us;have h3:=List.length_pos_iff.2 (h e List.mem_cons_self);have h4:zr (e::r)=cnt (e.n+1) e.us+zr r:=by simp[zr]
   have h5:zq (e::r)=max 1 (cnt (e.n+1) e.us)+zq r:=by simp[zq]
   omega
structure Qv (S:Nat→Prop) (B jb:Nat) (w:World) (v:Value) (n:Nat) (us:List Tr) (w':World) (P:List Ent) (X:Nat→Prop):Prop where
 below:Below B w w'
 jst:Jst B jb w' (P.map (·.v))
 raw:∀ e∈P,Raw S e.n B w' e.v e.us e.qs∧Small (e.n+1) e.us
 apart:P.Pairwise fun e f=>e.v.ownBlock=none∨e.v.ownBlock≠f.v.ownBlock
 prot:∀ b,X b→B≤b∧b<w'.heap.size∧qE w' b∧b≠jb∧∀ e∈P,e.v.ownBlock≠some b
 wand:∀ ws:World,(∀ b,X b→ws.heap[b]?=w'.heap[b]?)→(∀ e∈P,xX B ws e)→qa (fun b=>B≤b) ws (n+1) v (us.map (jk n))
theorem x5 {S:Nat→Prop}{B jb:Nat}{w:World}{v:Value}{n:Nat}{us:List Tr}{wr w1 w2:World}{P P1:List Ent}{e:Ent}{X X1:Nat→Prop}(hS:∀ b,S b→b<B)
 (I:Qv S B jb w v n us wr (P++[e]) X) (hs1:w1.heap.size=wr.heap.size) (h1:∀ b,b≠jb→w1.heap[b]?=wr.heap[b]?) (hb1:Below B wr w1)
 (J:JK S B jb w1 e.v e.n e.us (P.map (·.v)) w2 P1 X1):Qv S B jb w v n us w2 (P++P1) (fun b=>X b∨X1 b):=by
 have hsz2:=J.below.size;rw[hs1]at hsz2
 have keep:∀ b,b<wr.heap.size→b≠jb→e.v.ownBlock≠some b→qE wr b→w2.heap[b]?=wr.heap[b]?:=by
  intro b hb hbj hbe hnr;rw[J.frame b (by omega) hbj hbe (hnr.of_heap (h1 b hbj)),h1 b hbj]
 have keepX:∀ b,X b→w2.heap[b]?=wr.heap[b]?:=by
  intro b hb;obtain ⟨_,p2,p3,p4,p5⟩:=I.prot b hb;exact keep b p2 p4 (p5 e (by simp)) p3
 have hT:∀ f∈P++[e],∀ b,f.v.ownBlock=some b→qy B 29 wr b:=fun f hf b hb=>qg (I.raw f hf).1.own hb
 have keepA:∀ b,qy B 65 wr b→w2.heap[b]?=wr.heap[b]?:=by
  intro b hb;refine keep b hb.lt (I.jst.ne hb (by decide)) (fun h=>?_) (qE.of_own hb (by decide))
  exact qr (I.raw e (by simp)).1.own hb (by decide) h.symm
 have keepP:∀ f∈P,∀ b,f.v.ownBlock=some b→w2.heap[b]?=wr.heap[b]?:=by
  intro f hf b hb;have hTb:=hT f (by simp[hf]) b hb
  refine keep b hTb.lt (I.jst.ne hTb (by decide)) (fun h=>?_) (qE.of_own hTb (by decide))
  rcases (List.pairwise_append.1 I.apart).2.2 f hf e (by simp) with h'|h'
  · rw[hb]at h';cases h'
  · exact h' (hb.trans h.symm)
 refine ⟨I.below.trans (hb1.trans J.below),?_,?_,?_,?_,?_⟩
 · have:=J.jst;simpa using this
 · intro f hf
   rcases List.mem_append.1 hf with hf|hf
   · refine ⟨(I.raw f (by simp[hf])).1.stand hS (keepP f hf) keepA (fun b hb => ?_), (I.raw f (by simp[hf])).2⟩
     rw[J.below.block b hb,hb1.block b hb]
   · exact (J.pend f hf).2
 · refine List.pairwise_append.2 ⟨(List.pairwise_append.1 I.apart).1, J.apart.imp (fun h => Or.inr h), fun f hf f' hf' => ?_⟩
   cases hfb:f.v.ownBlock with
   | none=>exact Or.inl rfl
   | some b =>
     right
     intro h;have h3:=(hT f (by simp[hf]) b hfb).lt
     rcases J.blocks f' hf' b h.symm with h4|h4
     · omega
     · rcases (List.pairwise_append.1 I.apart).2.2 f hf e (by simp) with h' | h'
       · rw[hfb]at h';cases h'
       · exact h' (hfb.trans h4.symm)
 · intro b hb
   rcases hb with hb|hb
   · obtain ⟨p1, p2, p3, p4, p5⟩ := I.prot b hb;refine ⟨p1,by omega,p3.of_heap (keepX b hb),p4,fun f hf h=>?_⟩
     rcases List.mem_append.1 hf with hf|hf
     · exact p5 f (by simp[hf]) h
     · rcases J.blocks f hf b h with h4 | h4
       · omega
       · exact p5 e (by simp) h4
   · obtain ⟨p1, p2, p3, p4, p5, p6⟩ := J.prot b hb;refine ⟨p1,p2,p3,p4,fun f hf h=>?_⟩
     rcases List.mem_append.1 hf with hf|hf
     · have hTb := hT f (by simp[hf]) b h
       have h3:=hTb.lt
       rcases p5 with h5|h5|h5
       · omega
       · rcases (List.pairwise_append.1 I.apart).2.2 f hf e (by simp) with h' | h'
         · rw[h]at h';cases h'
         · exact h' (h.trans h5.symm)
       · have e0 := keepP f hf b h;obtain ⟨_,c1,f1,e1⟩:=hTb;obtain ⟨_,c2,f2,e2⟩:=h5;rw[e0,e1]at e2
         simp at e2
     · exact p6 f hf h
 · intro ws hX hP;refine I.wand ws (fun b hb=>(hX b (Or.inl hb)).trans (keepX b hb)) (fun f hf=>?_)
   rcases List.mem_append.1 hf with hf|hf
   · exact hP f (by simp[hf])
   · simp at hf
     subst hf;exact J.wand ws (fun b hb=>hX b (Or.inr hb)) (fun g hg=>hP g (by simp[hg]))
theorem xz {S:Nat→Prop}{B jb n:Nat}(hS:∀ b,S b→b<B){va:Option Addr}{vc:Nat}{us:List Tr}{qs:List (Bool × ByteArray × Value × Value)}{w:World}(hraw:Raw S n B w (.slice va us.length vc) us qs)(hsm:Small (n+1) us)
 (hjb:B≤jb) (hj:w.heap[jb]?=some (.cells #[.slice none 0 0] 53 (0,0))) (hBw:B≤w.heap.size) :
 Qv S B jb w (.slice va us.length vc) n us ((w.setCell ⟨jb,0,none⟩ (.slice (some ⟨w.heap.size,0,none⟩) 1 1)).alloc (.cells #[.slice va us.length vc] 22)) [⟨.slice va us.length vc,n,us,qs⟩] (fun _=>False):=by
 have hlt:jb<w.heap.size:=by
  rcases Nat.lt_or_ge jb w.heap.size with h'|h'
  · exact h'
  · simp[Array.getElem?_eq_none h']at hj
 have keep:∀ b,b<w.heap.size→b≠jb→((w.setCell ⟨jb,0,none⟩ (.slice (some ⟨w.heap.size,0,none⟩) 1 1)).alloc (.cells #[.slice va us.length vc] 22)).heap[b]?=w.heap[b]?:=by
  intro b hb hbj;rw[Lib.alloc_old _ _ _ (by simp;omega),Below.heap_setCell _ _ _ _ hbj]
 have hne:∀ {e b},qy B e w b→e≠53→b≠jb:=by
  intro e b hb hne h;subst h;obtain ⟨_,c,fz,hc⟩:=hb;rw[hj]at hc
  simp only[Option.some.injEq,Obj.cells.injEq]at hc
  exact hne hc.2.1.symm
 have hbel:Below B w ((w.setCell ⟨jb,0,none⟩ (.slice (some ⟨w.heap.size,0,none⟩) 1 1)).alloc (.cells #[.slice va us.length vc] 22)):=((Below.refl B w).setCell hjb _).alloc (by simp;omega) _
 refine ⟨hbel,⟨hjb,⟨.slice (some ⟨w.heap.size,0,none⟩) 1 1,?_,?_⟩,?_⟩,?_,?_,?_,?_⟩
 · rw[Lib.alloc_old _ _ _ (by simp;omega)]
   simp[World.setCell,Array.getElem?_modify,hj]
 · have := World.ownsRow_lit (base := B) (e := 22) (size := 1) (w.setCell ⟨jb, 0, none⟩ (.slice (some ⟨w.heap.size, 0, none⟩) 1 1)) #[.slice va us.length vc] 1 (by simp;omega) (by unfold maxLen;omega) rfl
   simpa using this
 · intro x hx;simp at hx
   exact ⟨_,_,_,hx⟩
 · intro e he;simp at he
   subst he;exact ⟨hraw.stand hS (fun b hb=>keep b (qg hraw.own hb).lt (hne (qg hraw.own hb) (by decide))) (fun b hb=>keep b hb.lt (hne hb (by decide))) (fun b hb=>hbel.block b hb),hsm⟩
 · simp
 · intro b hb;exact hb.elim
 · intro ws _ hP;exact hP _ List.mem_cons_self
theorem jJ (S:Nat→Prop)(B jb n:Nat)(hS:∀ b,S b→b<B)(v:Value)(us:List Tr)(qs:List (Bool × ByteArray × Value × Value))(w:World)(hraw:Raw S n B w v us qs)(hsm:Small (n+1) us)
 (hjb:B≤jb) (hj:w.heap[jb]?=some (.cells #[.slice none 0 0] 53 (0,0))) (hBw:B≤w.heap.size) (hcnt:cnt (n+1) us≤1048576) :
 Calls Try.prog 29 #[.pointer (some ⟨jb,0,none⟩),v] w fun e w'=>e=.returned (.tuple #[])∧qa (fun b=>B≤b) w' (n+1) v (us.map (jk n))∧Below B w w':=by
 obtain ⟨va,vc,rfl⟩:=hraw.shape
 have hlt:jb<w.heap.size:=by
  rcases Nat.lt_or_ge jb w.heap.size with h'|h'
  · exact h'
  · simp[Array.getElem?_eq_none h']at hj
 have c0:w.cell? ⟨jb,0,none⟩=some (.slice none 0 0):=by rw[cH9 hj];rfl
 have f0:w.frozen? ⟨jb,0,none⟩=false:=fH9 hj 0;have HJ:Hid (w.heap[jb]?=some (.cells #[.slice none 0 0] 53 (0,0))):=hj;clear hj
 go_enter Try.func29,Try.ntmps29
 go_wp2_with fail
 go_loopg [] (max 1 (cnt (n+1) us)) (fun g wr=>∃ P X,zq P=g∧g≤1048576∧Qv S B jb w (.slice va us.length vc) n us wr P X)
 case atStart =>
  refine ⟨[⟨.slice va us.length vc,n,us,qs⟩],fun _=>False,by simp[zq],by omega,?_⟩
  exact xz hS hraw hsm hjb HJ.out hBw
 case round =>
  obtain ⟨P,X,hm,hle,I⟩:=hrel;subst hm;have hj:=I.jst;obtain ⟨hjB,⟨v0,hj0,hown0⟩,hsl⟩:=id hj
  obtain ⟨a0,c0',rfl⟩:∃ a c,v0=.slice a P.length c:=by
   rcases hown0.2 with ⟨hv,h0⟩|⟨g,cap,cur,hv,_⟩
   · exact ⟨none,0,by rw[hv];simp at h0;simp[h0]⟩
   · exact ⟨some ⟨g,0,none⟩,cap,by rw[hv];simp⟩
  have d0:wr.cell? ⟨jb,0,none⟩=some (.slice a0 P.length c0'):=by rw[cH9 hj0];rfl
  clear hj0
  rcases List.eq_nil_or_concat P with rfl|⟨P0,e,hPe⟩
  · simp only[List.length_nil]at d0
    go_wp2_with fail
    go_returns
    exact ⟨rfl,I.wand wr (fun _ _=>rfl) (by simp),I.below⟩
  · rw[List.concat_eq_append]at hPe
    subst hPe;have hl:(P0++[e]).length=P0.length+1:=by simp
    rw[hl]at d0
    rw[List.map_append,List.map_cons,List.map_nil]at hj
    go_wp2_with fail;refine (jw B jb _ _ _ hj).mono ?_;rintro e' w1 ⟨rfl,hj1,hs1,h1,hb1⟩;obtain ⟨hraw1,hsm1⟩:=I.raw e (by simp)
    have hraw2:Raw S e.n B w1 e.v e.us e.qs:=hraw1.stand hS (fun b hb=>h1 b (I.jst.ne (qg hraw1.own hb) (by decide))) (fun b hb=>h1 b (I.jst.ne hb (by decide))) (fun b hb=>h1 b (by omega))
    have hmm:zq (P0++[e])=zq P0+max 1 (cnt (e.n+1) e.us):=by rw[zv];simp[zq]
    have hle0:=hle;rw[hmm]at hle0
    have hml:=Qi P0;have hsz1:B≤w1.heap.size:=by have:=I.below.size;omega
    go_wp2_with fail;refine (jo S B jb hS 1000 e.n e.v e.us e.qs (P0.map (·.v)) _ (nR9 _) hraw2 hsm1 hj1 hsz1 (by rw[List.length_map];omega)).mono ?_
    rintro e' w2 ⟨rfl,P1,X1,J,hless⟩;go_wp2_with fail
    go_roundg (zq (P0++P1))
    case measure =>
     rw[hmm,zv,y5 (fun f hf=>(J.pend f hf).1)]
     have h3:=J.less
     by_cases hne:e.us=[]
     · rw[hne,qw]at h3;omega
     · have:=hless (by omega) hne;omega
    case rel =>
     refine ⟨P0++P1,_,rfl,?_,x5 hS I hs1 h1 hb1 J⟩;rw[zv,y5 (fun f hf=>(J.pend f hf).1)]
     have h3:=J.less;omega
theorem qZ (S:Nat→Prop)(n:Nat)(v:Value)(ts:List Tr)(w:World)(h:qa S w (n+1) v ts)(hsm:Small (n+1) ts)(hS:∀ b,S b→b<w.heap.size)(hcnt:cnt (n+1) ts≤1048576) :
 Calls Try.prog 9 #[v] w fun e w'=>∃ v',e=.returned v'∧qa (fun b=>w.heap.size≤b) w' (n+1) v' ((jt ts).map (jk n))∧Below w.heap.size w w':=by
 go_enter Try.func9,Try.ntmps9
 go_wp2_with fail;refine (zz S n _ ts _ h hsm hS).mono ?_;rintro e w1 ⟨v1,qs,rfl,hraw,hb⟩;obtain ⟨a1,c1,rfl⟩:=hraw.shape;go_wp2_with fail;have hsz:=hb.size;refine (jJ S w.heap.size w1.heap.size n hS _ (jt ts) qs _ (hraw.later (Below.alloc1 _ _)) (zO hsm) hsz (heap_alloc_new w1 _) (by simp;omega) (Nat.le_trans (yt n ts) hcnt)).mono ?_
 rintro e w2 ⟨rfl,hT,hb2⟩;go_wp2_with fail;go_ret;exact ⟨_,rfl,hT,(hb.alloc (by omega) _).trans hb2⟩
end Go.Proofs.Ytfdbipeidmpciaa
