/- The law topiarykeep.TreeOnce answers true, for every list of trees. Condition: at most 2^20 trees, letters, attributes in all. -/
import Derived.Test.YtfdbipeidmpciaaTreesK
import Derived.Test.YtfdbipeidmpciaaTold
import Derived.Test.YtfdbipeidmpciaaSame
namespace Go.Proofs.Ytfdbipeidmpciaa
open Go.ChangeShapes Go.WideShapes Go.ChangeAt Go.RowKit
set_option maxRecDepth 100000
theorem Qk (S:Nat→Prop)(n:Nat)(v:Value)(ts:List Tr)(w:World)(h:qa S w (n+1) v ts)(hsm:Small (n+1) ts)(hS:∀ b,S b→b<w.heap.size)(hcnt:cnt (n+1) ts≤1048576)
 (hx:TextsN (n+1) ts) (htl:(tell (n+1) ts).length≤1048576) :
 Calls Try.prog 4 #[v] w fun e w'=>e=.returned (.bool true)∧Below w.heap.size w w':=by
 go_enter Try.func4,Try.ntmps4
 go_wp2_with fail;refine (qZ S n _ ts _ h hsm hS hcnt).mono ?_;rintro e w1 ⟨va,rfl,hT0,hB0⟩;obtain ⟨us,hus⟩:∃ us,qv n ts=us:=⟨_,rfl⟩;have hT:qa (fun b=>w.heap.size≤b) w1 (n+1) va us:=by rw[←hus];exact hT0
 have hclean:Clean us:=by rw[←hus];exact j3 n ts
 have hsmu:Small (n+1) us:=by rw[←hus];exact j4 hsm
 have hcntu:cnt (n+1) us≤1048576:=by rw[←hus];exact Nat.le_trans (Qb n ts) hcnt
 have htwice:qv n us=us:=by rw[←hus];exact j5 n ts
 have HU:Hid (qv n ts=us):=hus;have HTW:Hid (qv n us=us):=htwice;have HC:Hid (Clean us):=hclean;clear hus htwice hclean hT0;obtain ⟨aa,ac,rfl,_,hm⟩:=qa.shape _ hT;unfold maxLen at hm
 go_wp2_with fail
 go_loopg [10] us.length (fun g i wr=>∃ k:Nat,k+g=us.length∧i=.int .i64 k∧Below w1.heap.size w1 wr)
 case atStart => exact ⟨0,by omega,rfl,Below.refl _ _⟩
 case round =>
  obtain ⟨k,hk,rfl,hB⟩:=hrel;have hsz:=hB.size
  by_cases hlt:k<us.length
  · obtain ⟨_, _, hv, _, _, h4⟩ := id hT;cases hv;obtain ⟨b,o,rfl,hs,hcc⟩:=h4 (by intro e;subst e;simp at hlt)
    obtain ⟨t,ht⟩:∃ t,us[k]?=some t:=⟨us[k],by simp[hlt]⟩
    obtain ⟨ta,tk,c0,c1,c2,c3,hat,hkt⟩:=hcc k t ht;obtain ⟨ta',tac,rfl⟩:=hat.shape;obtain ⟨tk',tkc,rfl,_,_⟩:=qa.shape n hkt;have hbl:b<w1.heap.size:=World.block_lt_of_cell? w1 _ c0;have hblr:b<wr.heap.size:=by omega
    rw[←hB.cell (p:=⟨b,o+k*4,none⟩) hbl]at c0
    rw[←hB.cell (p:=⟨b,o+k*4+1,none⟩) hbl]at c1
    rw[←hB.cell (p:=⟨b,o+k*4+2,none⟩) hbl]at c2
    rw[←hB.cell (p:=⟨b,o+k*4+3,none⟩) hbl]at c3
    cases htx:t.text with
    | false =>
      rw[htx]at c0
      clear hcc h4 ht;go_wp2_with fail
      go_roundg (us.length-(k+1))
      case measure => omega
      case rel => exact ⟨k+1,by omega,by go_num,hB.alloc hsz _⟩
    | true =>
      rw[htx]at c0
      obtain ⟨q1,q2⟩:=x6 HC.out k t ht htx;have hne:=y6 q1;cases k with
      | zero =>
        clear hcc h4 ht q1 q2;simp only[Nat.zero_mul,Nat.add_zero]at c0 c1 c2 c3
        rw[show ((0:Nat):Int)=0 from rfl]
        go_wp2_with fail
        go_roundg (us.length-1)
        case measure => omega
        case rel => exact ⟨1,by omega,by go_num,hB.alloc hsz _⟩
      | succ j =>
        obtain ⟨u,hu⟩:∃ u,us[j]?=some u:=⟨us[j]'(by omega),by simp⟩
        have hu1:=q2 j u rfl hu;obtain ⟨_,_,e0,_⟩:=hcc j u hu;rw[←hB.cell (p:=⟨b,o+j*4,none⟩) hbl,hu1]at e0
        have hj1:(j:Int)<(us.length:Int):=by omega
        have hj2:(j:Int)+1<(us.length:Int):=by omega
        clear hcc h4 ht q1 q2 hu hu1;go_wp2_with fail
        go_roundg (us.length-(j+2))
        case measure => omega
        case rel => exact ⟨j+2,by omega,by go_num,hB.alloc hsz _⟩
  · have hTr := qa.later hB (n + 1) hT;have hTb:=qa.bounded (n+1) hTr;have hBw:Below w.heap.size w wr:=hB0.trans (hB.mono hB0.size);go_wp2_with fail;refine (qZ _ n _ us _ hTb hsmu (fun b hb=>hb.2) hcntu).mono ?_
    rintro e w2 ⟨v2,rfl,hT2,hb2⟩
    have hT2':qa (fun b=>wr.heap.size≤b) w2 (n+1) v2 us:=by
     have:=hT2;rw[show (jt us).map (jk n)=us from HTW.out]at this
     exact this
    clear hT2;obtain ⟨a2,c2,rfl,_,_⟩:=qa.shape _ hT2';go_wp2_with fail;refine (zY (n+1) _ _ _ _ us _ (qa.later hb2 (n+1) hTr) hT2').mono ?_;rintro e w3 ⟨rfl,hb3⟩;have hBw2:Below w.heap.size w w2:=hBw.trans (hb2.mono hBw.size);have hBw3:Below w.heap.size w w3:=hBw2.trans (hb3.mono hBw2.size);go_wp2_with fail;refine (yb S (n+1) _ ts _ (qa.later hBw3 (n+1) h) hx).mono ?_;rintro e w4 ⟨rfl,hb4⟩;have hBw4:Below w.heap.size w w4:=hBw3.trans (hb4.mono hBw3.size);cases hcb:qU ts with
    | false =>
      go_wp2_with fail;refine (yG _).mono ?_;rintro e w5 ⟨rfl,hb5⟩;go_wp2_with fail;go_ret;exact ⟨rfl,hBw4.trans (hb5.mono hBw4.size)⟩
    | true =>
      have hid:us=ts:=by rw[←HU.out];exact jh hcb (qa.deep (n+1) h)
      have hTa4:qa (fun b=>w.heap.size≤b) w4 (n+1) (.slice aa us.length ac) ts:=by
       rw[←hid];exact qa.later (hb2.trans ((hb3.mono hb2.size).trans (hb4.mono (Nat.le_trans hb2.size hb3.size)))) (n+1) hTr
      have htlv:=htl;clear hid;go_wp2_with fail;refine (zY (n+1) _ S _ _ ts _ hTa4 (qa.later hBw4 (n+1) h)).mono ?_;rintro e w5 ⟨rfl,hb5⟩;have hBw5:Below w.heap.size w w5:=hBw4.trans (hb5.mono hBw4.size);go_wp2_with fail;refine (yF (n+1) _ _ ts _ (qa.later hb5 (n+1) hTa4) htlv).mono ?_;rintro e w6 ⟨rfl,hb6⟩;have hBw6:Below w.heap.size w w6:=hBw5.trans (hb6.mono hBw5.size);go_wp2_with fail;refine (yF (n+1) S _ ts _ (qa.later hBw6 (n+1) h) htlv).mono ?_;rintro e w7 ⟨rfl,hb7⟩;have hBw7:Below w.heap.size w w7:=hBw6.trans (hb7.mono hBw6.size);go_wp2_with fail;refine (yG _).mono ?_;rintro e w8 ⟨rfl,hb8⟩;go_wp2_with fail;go_ret;exact ⟨rfl,hBw7.trans (hb8.mono hBw7.size)⟩
end Go.Proofs.Ytfdbipeidmpciaa
