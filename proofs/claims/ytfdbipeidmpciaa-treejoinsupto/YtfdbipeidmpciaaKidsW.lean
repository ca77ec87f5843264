/- (*joiner).joinKids, called on a new list: all is joined within reach, the rest waits. Condition: at most 2^20 trees, and letters and attributes in each list. -/
import Derived.Test.YtfdbipeidmpciaaKidsS
namespace Go.Proofs.Ytfdbipeidmpciaa
open Go.ChangeShapes Go.WideShapes Go.ChangeAt Go.RowKit
set_option maxRecDepth 100000
theorem JK.empty {S:Nat→Prop}{B jb n:Nat}{w:World}{v:Value}{vs:List Value}{qs:List (Bool × ByteArray × Value × Value)}(hr:Raw S n B w v [] qs)(hj:Jst B jb w vs):JK S B jb w v n [] vs w [] (fun _=>False) where
 below:=Below.refl _ _
 jst:=by simpa using hj
 pend:=by simp
 blocks:=by simp
 apart:=List.Pairwise.nil
 frame:=fun _ _ _ _ _=>rfl
 less:=by simp[zr]
 prot:=fun _ h=>h.elim
 wand:=fun ws _ _=>by
  refine qa.nil _ ?_
  rcases hr.own.2 with ⟨hv,_⟩|⟨g,cap,cur,hv,_,_,_,hm,_⟩
  · exact ⟨_,_,hv,nZ9 _⟩
  · exact ⟨_,_,hv,hm⟩
theorem zI.start {S:Nat→Prop}{B jb n:Nat}{w:World}{v:Value}{us:List Tr}{vs:List Value}{qs:List (Bool × ByteArray × Value × Value)}(hr:Raw S n B w v us qs)(hj:Jst B jb w vs):zI S B jb w v n us vs 0 w qs [] (fun _=>False) where
 below:=Below.refl _ _
 len:=hr.len
 own:=hr.own
 rest:=fun i q t _ hq ht=>hr.each i q t hq ht
 done:=fun i _ _ h=>by omega
 jst:=by simpa using hj
 pend:=by simp
 blocks:=by simp
 apart:=List.Pairwise.nil
 frame:=fun _ _ _ _ _=>rfl
 less:=by simp[zr]
 prot:=fun _ h=>h.elim
theorem zI.stop {S:Nat→Prop}{B jb n:Nat}{w w':World}{us:List Tr}{vs:List Value}{qs:List (Bool × ByteArray × Value × Value)}{P:List Ent}{X:Nat→Prop}{g cap:Nat}
 (I:zI S B jb w (.slice (some ⟨g,0,none⟩) us.length cap) n us vs us.length w' qs P X) (hgw:g<w.heap.size):JK S B jb w (.slice (some ⟨g,0,none⟩) us.length cap) n us vs w' P (fun b=>X b∨b=g) where
 below:=I.below
 jst:=I.jst
 pend:=I.pend
 blocks:=fun e he b hb=>Or.inl (I.blocks e he b hb)
 apart:=I.apart
 frame:=I.frame
 less:=by have:=I.less;omega
 prot:=fun b hb=>by
  rcases hb with hb|rfl
  · obtain ⟨p1, p2, p3, p4, _, p6, p7⟩ := I.prot b hb;exact ⟨p1,p2,p3,p4,p6.elim Or.inl (fun h=>Or.inr (Or.inr h)),p7⟩
  · have hT : qy B 29 w' b := qg I.own rfl;refine ⟨hT.1,hT.lt,qE.of_own hT (by decide),I.jst.ne hT (by decide),Or.inr (Or.inl rfl),fun e he heb=>?_⟩
    have:=I.blocks e he b heb;omega
 wand:=fun ws hX hP=>by
  have hown:ws.ownsRow B 29 4 (.slice (some ⟨g,0,none⟩) us.length cap) us.length (quadCells qs):=qn I.own fun b hb=>by cases hb;exact hX g (Or.inr rfl)
  rcases I.own.2 with ⟨hv,_⟩|⟨g',cap',cur,hv,hB,_,hc,hm,_⟩
  · cases hv
  cases hv;refine ⟨_,_,by rw[List.length_map],by rw[List.length_map];exact hc,hm,fun _=>⟨g,0,rfl,hB,fun i t' ht'=>?_⟩⟩
  rw[List.getElem?_map,Option.map_eq_some_iff]at ht'
  obtain ⟨t,ht,rfl⟩:=ht'
  have hi:i<us.length:=by
   rcases Nat.lt_or_ge i us.length with h|h
   · exact h
   · rw[List.getElem?_eq_none h]at ht;cases ht
  obtain ⟨q,hq⟩:∃ q,qs[i]?=some q:=⟨qs[i]'(by rw[I.len];exact hi),by simp[I.len,hi]⟩
  obtain ⟨d1,d2,d3⟩:=I.done i q t hi hq ht;obtain ⟨d4,d5⟩:=d3 ws (fun b hb=>hX b (Or.inl hb)) hP
  obtain ⟨g0,g1,g2,g3⟩:=qP qs i q hq;refine ⟨q.2.2.1,q.2.2.2,?_,?_,?_,?_,by rw[zd];exact d4,d5⟩
  · rw[Nat.zero_add,World.ownsRow.cellAt hown (i*4) (by omega),g0,zi,d1]
  · rw[Nat.zero_add,World.ownsRow.cellAt hown (i*4+1) (by omega),g1,jm,d2]
  · rw[Nat.zero_add,World.ownsRow.cellAt hown (i*4+2) (by omega),g2]
  · rw[Nat.zero_add,World.ownsRow.cellAt hown (i*4+3) (by omega),g3]
theorem listInfo:(Try.prog.info? 22).map (fun i=>(i.zero,i.size,i.bytes))=some (some (.slice none 0 0),1,24):=by kernel_rfl
theorem Qn {S:Nat→Prop}{B jb:Nat}{w:World}{n:Nat}{us us1:List Tr}{vs:List Value}{k m:Nat}{wr w1:World}{qs qs1:List (Bool × ByteArray × Value × Value)}{P:List Ent}{X:Nat→Prop}{g cap:Nat}{v1:Value}
 (hS:∀ b,S b→b<B) (I:zI S B jb w (.slice (some ⟨g,0,none⟩) us.length cap) n us vs k wr qs P X) (hB:B≤wr.heap.size)
 (hraw1:Raw S m wr.heap.size w1 v1 us1 qs1) (hb1:Below wr.heap.size wr w1) (j:Nat) :
 Raw S m B (w1.setCell ⟨g,j*4+3,none⟩ v1) v1 us1 qs1∧Jst B jb (w1.setCell ⟨g,j*4+3,none⟩ v1) (vs++P.map (·.v)):=by
 have hgT:qy B 29 wr g:=qg I.own rfl;have hgj:g≠jb:=I.jst.ne hgT (by decide)
 have hg1:w1.heap[g]?=wr.heap[g]?:=hb1.block g hgT.lt;have hgT1:qy B 29 w1 g:=hgT.to (nR9 _) hg1;refine ⟨(hraw1.base hB).stand hS (fun b hb=>Below.heap_setCell _ _ _ _ ?_) (fun b hb=>Below.heap_setCell _ _ _ _ ?_) (fun b hb=>Below.heap_setCell _ _ _ _ ?_),?_⟩
 · have:=(hraw1.own.lt b hb).1;have:=hgT.lt;simp only;omega
 · intro e;simp only at e
   subst e;obtain ⟨_,c,fz,h1⟩:=hb;obtain ⟨_,c',fz',h2⟩:=hgT1;rw[h1]at h2
   simp at h2
 · have:=hgT.1;simp only;omega
 · obtain ⟨h1, ⟨v0, h2, h3⟩, h4⟩ := I.jst
   have hlt:jb<wr.heap.size:=by
    rcases Nat.lt_or_ge jb wr.heap.size with h'|h'
    · exact h'
    · simp[Array.getElem?_eq_none h']at h2
   refine ⟨h1,⟨v0,?_,?_⟩,h4⟩
   · rw[Below.heap_setCell _ _ _ _ (by simp only;omega),hb1.block jb hlt];exact h2
   · refine qn (qj h3 hb1) fun b hb => Below.heap_setCell _ _ _ _ ?_
     intro e;simp only at e
     subst e;exact qr h3 hgT (by decide) hb.symm
attribute [local go_sem] qe
theorem jo (S:Nat→Prop)(B jb:Nat)(hS:∀ b,S b→b<B):∀ (L n:Nat)(v:Value)(us:List Tr)(qs:List (Bool × ByteArray × Value × Value))(vs:List Value)(w:World),L≤1000→Raw S n B w v us qs→Small (n+1) us→Jst B jb w vs→B≤w.heap.size→vs.length+cnt (n+1) us≤1048576 →
 Calls Try.prog 43 #[.pointer (some ⟨jb,0,none⟩),v,.int .i64 L] w fun e w'=>e=.returned (.tuple #[])∧∃ P X,JK S B jb w v n us vs w' P X∧(0<L→us≠[]→zr P<cnt (n+1) us):=by
 intro L
 induction L with
 | zero =>
   intro n v us qs vs w hL hraw hsm hj hBw hcnt;obtain ⟨va,vc,rfl⟩:=hraw.shape;cases us with
   | nil =>
     simp only[List.length_nil]at *
     go_enter Try.func43,Try.ntmps43
     go_wp2_with fail
     go_returns
     exact ⟨rfl,[],_,JK.empty hraw hj,fun h=>by omega⟩
   | cons t r => 
     obtain ⟨i0,hi,hz0,hz1,hz2⟩:=info_parts listInfo;obtain ⟨hjB,⟨v0,hj0,hown0⟩,hsl⟩:=hj;have c0:w.cell? ⟨jb,0,none⟩=some v0:=by rw[cH9 hj0];rfl
     have hlt:jb<w.heap.size:=by
      rcases Nat.lt_or_ge jb w.heap.size with h'|h'
      · exact h'
      · simp[Array.getElem?_eq_none h']at hj0
     have hne1:(((t::r).length:Int)==0)=false:=by simp;omega
     have hll:=yj n (t::r);simp only[List.length_cons]at hll
     go_enter Try.func43,Try.ntmps43
     go_wp2_with (at_builtin;refine wpList_append_own _ rfl _ _ 51 rfl B 22 i0 _ 1 24 Try.underlying51 hi hz0 hz1 hz2 rfl (by decide) _ _ _ rfl (hown0.alloc _) ⟨w.heap.size,0,none⟩ 1 1 [.slice va (t::r).length vc] rfl ?qc1 ?qc2 ?qc3 ?qc4 ?qc5 ?qc6 ?_)
     case qc1 => rfl
     case qc2 =>
      intro j u hj'
      match j,hj' with
      | 0,hj'=>simp at hj';subst hj';simp[Addr.add]
     case qc3 => intro u hu;simp at hu;subst hu;rfl
     case qc4 => unfold maxLen;omega
     case qc5 => omega
     case qc6 => simp;omega
     intro v' w1 hown1 hgrow _
     have hv0j:some jb≠v0.ownBlock:=by
      intro e;obtain ⟨_,c,fz,hc⟩:=qg hown0 e.symm;rw[hj0]at hc
      simp at hc
     have hj1:w1.heap[jb]?=some (.cells #[v0] 53 (0,0)):=by
      rw[hgrow.block jb (by simp;omega) hv0j,Lib.alloc_old _ _ _ hlt];exact hj0
     have d0:w1.cell? ⟨jb,0,none⟩=some v0:=by rw[cH9 hj1];rfl
     have f0:w1.frozen? ⟨jb,0,none⟩=false:=fH9 hj1 0
     have hv'j:v'.ownBlock≠some jb:=by
      intro e;obtain ⟨_,c,fz,hc⟩:=qg hown1 e;rw[hj1]at hc
      simp at hc
     obtain ⟨ao,l',c',rfl⟩:∃ ao l' c',v'=.slice ao l' c':=by
      rcases hown1.2 with ⟨hv,_⟩|⟨g,cap,cur,hv,_⟩
      · exact ⟨_,_,_,hv⟩
      · exact ⟨_,_,_,hv⟩
     have hsz1:=hgrow.size;simp only[World.size_alloc]at hsz1
     have keep:∀ b,b<w.heap.size→b≠jb→some b≠v0.ownBlock→(w1.setCell ⟨jb,0,none⟩ (.slice ao l' c')).heap[b]?=w.heap[b]?:=by
      intro b hb h1 h2;rw[Below.heap_setCell _ _ _ _ h1,hgrow.block b (by simp;omega) h2,Lib.alloc_old _ _ _ hb]
     have HK:Hid (∀ b,b<w.heap.size→b≠jb→some b≠v0.ownBlock→(w1.setCell ⟨jb,0,none⟩ (.slice ao l' c')).heap[b]?=w.heap[b]?):=keep;have HJ1:Hid (w1.heap[jb]?=some (.cells #[v0] 53 (0,0))):=hj1;clear keep hj1;go_wp2_with fail
     go_returns
     refine ⟨rfl,[⟨.slice va (t::r).length vc,n,t::r,qs⟩],fun _=>False,?_,fun h=>by omega⟩
     have hbelow:Below B w (w1.setCell ⟨jb,0,none⟩ (.slice ao l' c')):=((((Below.refl B w).alloc hBw _).grown hgrow (by simp;omega) (fun k hk=>(hown0.lt k hk).1))).setCell hjB _
     have hTy:∀ b,(Value.slice va (t::r).length vc).ownBlock=some b→qy B 29 w b:=fun b hb=>qg hraw.own hb
     have hneT:∀ {e b},qy B e w b→e≠22→e≠53→(w1.setCell ⟨jb,0,none⟩ (.slice ao l' c')).heap[b]?=w.heap[b]?:=by
      intro e b hb h1 h2;exact HK.out b hb.lt (Jst.ne ⟨hjB,⟨v0,hj0,hown0⟩,hsl⟩ hb h2) (qr hown0 hb h1)
     refine ⟨hbelow,⟨hjB,⟨.slice ao l' c',?_,?_⟩,?_⟩,?_,?_,?_,?_,?_,?_,?_⟩
     · simp[World.setCell,Array.getElem?_modify,HJ1.out]
     · rw[show (vs ++ List.map (·.v) [(⟨.slice va (t :: r).length vc, n, t :: r, qs⟩ : Ent)]) = vs ++ [.slice va (t :: r).length vc] from rfl, show (vs ++ [Value.slice va (t :: r).length vc]).length = vs.length + 1 from by simp]
       refine qn hown1 fun k hk=>Below.heap_setCell _ _ _ _ (fun e=>?_)
       subst e;exact hv'j hk
     · intro x hx
       rcases List.mem_append.1 hx with hx|hx
       · exact hsl x hx
       · simp at hx;exact ⟨_,_,_,hx⟩
     · intro e he;simp at he
       subst he;exact ⟨by simp,hraw.stand hS (fun b hb=>hneT (hTy b hb) (by decide) (by decide)) (fun b hb=>hneT hb (by decide) (by decide)) (fun b hb=>hbelow.block b hb),hsm⟩
     · intro e he b hb;simp at he
       subst he;exact Or.inr hb
     · simp
     · intro b hb hbj _ hnr;refine HK.out b hb hbj (fun e=>?_)
       obtain ⟨_,c,fz,hc⟩:=qg hown0 e.symm;exact hnr c fz hc
     · simp[zr]
     · intro b hb;exact hb.elim
     · intro ws _ hP;exact hP _ List.mem_cons_self
 | succ L ih =>
   intro n v us qs vs w hL hraw hsm hj hBw hcnt;obtain ⟨va,vc,rfl⟩:=hraw.shape;cases us with
   | nil =>
     simp only[List.length_nil]at *
     go_enter Try.func43,Try.ntmps43
     go_wp2_with fail
     go_returns
     exact ⟨rfl,[],_,JK.empty hraw hj,fun _ h=>absurd rfl h⟩
   | cons t0 r0 =>
     obtain ⟨us,hus⟩:∃ us,t0::r0=us:=⟨_,rfl⟩;have hne:us≠[]:=by rw[←hus];simp
     rw[hus]at hraw hsm hcnt ⊢
     clear hus;have hpos:=List.length_pos_iff.2 hne;have hne1:((us.length:Int)==0)=false:=by simp;omega
     have hll:=yj n us;have IH:Hid _:=ih;clear ih
     rcases hraw.own.2 with ⟨_,h0⟩|⟨g,cap,cur,hv,hg,hh,hcc,hm,_⟩
     · omega
     cases hv;unfold maxLen at hm
     have hgw:g<w.heap.size:=(qg hraw.own rfl).lt
     have hjlt:jb<w.heap.size:=by
      obtain ⟨_,⟨v0,hj0,_⟩,_⟩:=hj
      rcases Nat.lt_or_ge jb w.heap.size with h'|h'
      · exact h'
      · simp[Array.getElem?_eq_none h']at hj0
     go_enter Try.func43,Try.ntmps43
     go_wp2_with fail
     go_loopg [24] us.length (fun gk i wr=>∃ k qs P X,k+gk=us.length∧i=.int .i64 (k:Nat)∧zI S B jb w (.slice (some ⟨g,0,none⟩) us.length vc) n us vs k wr qs P X)
     case atStart => exact ⟨0,qs,[],_,by omega,rfl,zI.start hraw hj⟩
     case round =>
      obtain ⟨k,qs',P,X,hk,rfl,I⟩:=hrel
      by_cases hlt:k<us.length
      · obtain ⟨t, ht⟩ : ∃ t, us[k]? = some t := ⟨us[k], by simp[hlt]⟩
        obtain ⟨q,hq⟩:∃ q,qs'[k]?=some q:=⟨qs'[k]'(by rw[I.len];exact hlt),by simp[I.len,hlt]⟩
        obtain ⟨_,_,_,hkt⟩:=I.rest k q t (nR9 _) hq ht
        have hkt':qa S wr (n-1+1) q.2.2.2 t.kids:=by
         cases n with
         | zero=>exact qa.deeper 0 hkt
         | succ m=>exact hkt
        have hsmk:Small (n-1+1) t.kids:=by
         cases n with
         | zero=>rw[hkt.1];exact ⟨by simp,by simp[catL],by simp⟩
         | succ m=>exact (hsm.2.2 t (List.mem_of_getElem? ht)).2.2
        obtain ⟨ka,kc,hkv,_,_⟩:=qa.shape _ hkt'
        have hgc:wr.cell? ⟨g,k*4+3,none⟩=some q.2.2.2:=by
         rw[World.ownsRow.cellAt I.own (k*4+3) (by omega)];exact (qP qs' k q hq).2.2.2
        have hgf:wr.frozen? ⟨g,k*4+3,none⟩=false:=World.ownsRow.frozenAt I.own _;rw[hkv]at hgc hkt'
        have HQ:Hid (qs'[k]?=some q):=hq;have HT:Hid (us[k]?=some t):=ht;have HV:Hid (q.2.2.2=.slice ka t.kids.length kc):=hkv;clear hq ht hkt hkv;have hwr:=I.below.size;go_wp2_with fail;refine (zz S (n-1) _ t.kids _ hkt' hsmk (fun b hb=>by have:=hS b hb;omega)).mono ?_
        rintro e w1 ⟨v1,qs1,rfl,hraw1,hb1⟩;obtain ⟨a1,c1,rfl⟩:=hraw1.shape;have hg1:w1.cell? ⟨g,k*4+3,none⟩=some (.slice ka t.kids.length kc):=by rw[hb1.cell (p:=⟨g,k*4+3,none⟩) (by simp only;omega)];exact hgc
        have hf1:w1.frozen? ⟨g,k*4+3,none⟩=false:=by rw[hb1.frozen (p:=⟨g,k*4+3,none⟩) (by simp only;omega)];exact hgf
        go_wp2_with fail;obtain ⟨hraw2,hj2⟩:=Qn hS I (by omega) hraw1 hb1 k
        have hbnd:(vs++P.map (·.v)).length+cnt (n-1+1) (jt t.kids)≤1048576:=by
         have h1:=I.less;have h2:=yt (n-1) t.kids;have h3:=Qu (fun e he=>(I.pend e he).1)
         have hd:us.drop k=t::us.drop (k+1):=by
          rw[List.drop_eq_getElem_cons hlt];congr 1;simpa[hlt] using HT.out
         rw[hd,qp]at h1
         have h4:cnt (n-1+1) t.kids≤cnt n t.kids:=by
          cases n with
          | zero =>
            obtain ⟨_,_,_,d⟩:=I.rest k q t (nR9 _) HQ.out HT.out;rw[d.1];simp[cnt]
          | succ m=>exact nR9 _
         rw[List.length_append,List.length_map];omega
        refine (IH.out (n-1) _ (jt t.kids) qs1 (vs++P.map (·.v)) _ (by omega) hraw2 (zO hsmk) hj2 (by have:=hb1.size;simp;omega) hbnd).mono ?_
        rintro e w3 ⟨rfl,P1,X1,J,_⟩;go_wp2_with fail
        go_roundg (us.length-(k+1))
        case measure => omega
        case rel => exact ⟨k+1,_,_,_,by omega,by go_num,xL I hS hgw HQ.out HT.out hraw1 hb1 J⟩
      · have hkk : k = us.length := by omega
        subst hkk;go_wp2_with fail
        go_returns
        refine ⟨rfl,P,_,I.stop hgw,fun _ _=>?_⟩
        have:=I.less;omega
end Go.Proofs.Ytfdbipeidmpciaa
