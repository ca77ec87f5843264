/- Bundled: StepPut PicksK. What each says stands ahead of it. -/
import Derived.Test.YtfdbipeidmpciabDoorBundle13
import Derived.Test.YtfdbipeidmpciabDoorPathpicks17
namespace Go.Proofs.YtfdbipeidmpciabDoor
open Go.ChangeShapes Go.WideShapes Go.ChangeAt Go.RowKit
set_option maxRecDepth 100000
theorem qj.putN {S:Nat→Prop}{w:World}{b o len cap:Nat}{l:List St}(h:qj S w (.slice (some ⟨b,o,none⟩) len cap) l){i:Nat}{s:St}(hs:l[i]?=some s)(n:Int) :
 qj S (w.setCell ⟨b,o+i*2+1,none⟩ (.int .i64 n)) (.slice (some ⟨b,o,none⟩) len cap) (l.set i ⟨s.name,n⟩):=by
 have hi:=qe hs;obtain ⟨b',o',cap',hv,hS,hb,e0,e1⟩:=h.at hs
 obtain ⟨a,c,h1,h2,h3,h4⟩:=h
 injection h1 with h1a h1b h1c
 subst h1a h1b h1c
 injection hv with hv1 _ hv2
 injection hv1 with hv1
 injection hv1 with hv3 hv4
 subst hv3 hv4 hv2;refine ⟨_,cap,by rw[List.length_set],by rw[List.length_set];exact h2,h3,fun _=>⟨b,o,rfl,hS,fun j x hx=>?_⟩⟩
 obtain ⟨b2,o2,hab,_,hc⟩:=h4 (by intro e;rw[e]at hi;simp at hi)
 injection hab with hab
 injection hab with hb2 ho2
 subst hb2 ho2
 by_cases hij:i=j
 · subst hij;rw[List.getElem?_set_self hi]at hx
   have hx:=Option.some.inj hx;subst hx;refine ⟨?_,qc (by rw[e1];rfl)⟩
   rw[World.cell?_setCell_other _ _ _ _ (by intro e;injection e with _ e;omega)]
   exact e0
 · rw[List.getElem?_set_ne hij]at hx
   obtain ⟨g0,g1⟩:=hc j x hx;rw[World.cell?_setCell_other _ _ _ _ (by intro e;injection e with _ e;omega),World.cell?_setCell_other _ _ _ _ (by intro e;injection e with _ e;omega)]
   exact ⟨g0,g1⟩
theorem qj.put {S:Nat→Prop}{w:World}{b o len cap:Nat}{l:List St}(h:qj S w (.slice (some ⟨b,o,none⟩) len cap) l){i:Nat}{s:St}(hs:l[i]?=some s)(t:St) :
 qj S ((w.setCell ⟨b,o+i*2,none⟩ (.string t.name)).setCell ⟨b,o+i*2+1,none⟩ (.int .i64 t.n)) (.slice (some ⟨b,o,none⟩) len cap) (l.set i t):=by
 have hi:=qe hs;obtain ⟨b',o',cap',hv,hS,hb,e0,e1⟩:=h.at hs
 obtain ⟨a,c,h1,h2,h3,h4⟩:=h
 injection h1 with h1a h1b h1c
 subst h1a h1b h1c
 injection hv with hv1 _ hv2
 injection hv1 with hv1
 injection hv1 with hv3 hv4
 subst hv3 hv4 hv2;refine ⟨_,cap,by rw[List.length_set],by rw[List.length_set];exact h2,h3,fun _=>⟨b,o,rfl,hS,fun j x hx=>?_⟩⟩
 obtain ⟨b2,o2,hab,_,hc⟩:=h4 (by intro e;rw[e]at hi;simp at hi)
 injection hab with hab
 injection hab with hb2 ho2
 subst hb2 ho2;have far:∀ p q:Nat,p≠q→(⟨b,p,none⟩:Addr)≠⟨b,q,none⟩:=by intro p q hpq e;injection e with _ e;exact hpq e
 by_cases hij:i=j
 · subst hij;rw[List.getElem?_set_self hi]at hx
   have hx:=Option.some.inj hx;subst hx;refine ⟨?_,qc ?_⟩
   · rw[World.cell?_setCell_other _ _ _ _ (far _ _ (by omega))]
     exact qc (by rw[e0];rfl)
   · rw[World.cell?_setCell_other _ _ _ _ (far _ _ (by omega)),e1];rfl
 · rw[List.getElem?_set_ne hij]at hx
   obtain ⟨g0,g1⟩:=hc j x hx;rw[World.cell?_setCell_other _ _ _ _ (far _ _ (by omega)),World.cell?_setCell_other _ _ _ _ (far _ _ (by omega)),World.cell?_setCell_other _ _ _ _ (far _ _ (by omega)),World.cell?_setCell_other _ _ _ _ (far _ _ (by omega))]
   exact ⟨g0,g1⟩
theorem qJ.block {B:Nat}{w:World}{v:Value}{l:List St}(h:qJ B w v l)(hne:l≠[]):∃ g cap,v=.slice (some ⟨g,0,none⟩) l.length cap∧B≤g∧g<w.heap.size∧∀ k,w.frozen? ⟨g,k,none⟩=false:=by
 rcases h.2 with ⟨_,h0⟩|⟨g,cap,cur,rfl,hg,hh,hc,hm,hs,ht⟩
 · exact absurd (List.eq_nil_of_length_eq_zero h0) hne
 · exact ⟨g,cap,rfl,hg,qh hh,fun k=>fH9 hh k⟩
section
attribute [local go_sem] qc
theorem qj.cells {S:Nat→Prop}{w:World}{a:Addr}{n c:Nat}{l:List St}(h:qj S w (.slice (some a) n c) l):∀ j u,(stepCells l)[j]?=some u→w.cell? (a.add j)=some u:=by
 intro j u hj;have hlen:=qH l
 have hjl:j<l.length*2:=by
  rcases Nat.lt_or_ge j (l.length*2) with h'|h'
  · exact h'
  · rw[List.getElem?_eq_none (by omega)]at hj;cases hj
 obtain ⟨s,hs⟩:∃ s,l[j / 2]?=some s:=⟨l[j / 2]'(by omega),by simp⟩
 obtain ⟨g0,g1⟩:=zo l (j / 2) s hs;obtain ⟨b,o,cap,hv,_,_,c0,c1⟩:=h.at hs
 injection hv with hv1 _ _
 injection hv1 with hv1
 subst hv1;rw[Addr.add_lit]
 rcases Nat.mod_two_eq_zero_or_one j with h'|h'
 · rw[show j / 2 * 2 = j by omega]at g0 c0
   rw[g0]at hj
   rw[c0,hj]
 · rw[show j / 2 * 2 + 1 = j by omega]at g1
   rw[show o+j / 2*2+1=o+j by omega]at c1
   rw[g1]at hj
   rw[c1,hj]
theorem zp (l:List St):∀ u∈stepCells l,u.oneCell'=true:=by
 induction l with
 | nil=>intro u hu;simp[stepCells]at hu
 | cons s l ih =>
   intro u hu;simp only[stepCells,List.mem_cons]at hu
   rcases hu with rfl|rfl|hu
   · rfl
   · rfl
   · exact ih u hu
theorem qj.only {S:Nat→Prop}{w:World}{g o n c:Nat}{l:List St}(h:qj S w (.slice (some ⟨g,o,none⟩) n c) l):qj (fun b=>b=g) w (.slice (some ⟨g,o,none⟩) n c) l:=by
 obtain ⟨a,cap,h1,h2,h3,h4⟩:=h;refine ⟨a,cap,h1,h2,h3,fun hne=>?_⟩
 obtain ⟨b,o',ha,_,hc⟩:=h4 hne
 injection h1 with h1
 rw[ha]at h1
 injection h1 with h1
 injection h1 with h1
 exact ⟨b,o',ha,h1.symm,hc⟩
theorem yG {l:List St}{m:Nat}{s:St}(hs:l[m]?=some s){a:Int}(h0:0≤a)(h1:a≤99):qu (l.set m ⟨s.name,a⟩)=qu (l.set m ⟨s.name,0⟩):=by
 unfold qu;rw[List.length_set,List.length_set]
 congr 1
 have hm:=qe hs
 have key:∀ x y:St,qq x=qq y→(l.set m x).all qq=(l.set m y).all qq:=by
  intro x y hxy;rw[List.set_eq_take_append_cons_drop,List.set_eq_take_append_cons_drop,if_pos hm,if_pos hm];simp[hxy]
 apply key
 unfold qq;simp[h0,h1]
theorem xK {ns:List Nd}{l:List St}{m:Nat}{s:St}(hs:l[m]?=some s){a:Int}(h0:0≤a)(h1:a≤99):zc ns (l.set m ⟨s.name,a⟩)=zc ns (l.set m ⟨s.name,0⟩):=by
 unfold zc;rw[yG hs h0 h1]
theorem xJ {ns:List Nd}{l:List St}{m:Nat}{s:St}(hs:l[m]?=some s){a:Int}(h0:0≤a)(h1:a≤99):q6 ns (l.set m ⟨s.name,a⟩)⊆q6 ns (l.set m ⟨s.name,0⟩):=by
 unfold q6;rw[yG hs h0 h1]
 split
 · exact xh l m ⟨s.name,a⟩ ⟨s.name,0⟩ s hs rfl rfl
 · intro u hu;exact hu
theorem qB.set {l:List St}(h:qB l){m:Nat}{s:St}(hs:l[m]?=some s)(a:Int):qB (l.set m ⟨s.name,a⟩):=by
 intro x hx
 rcases List.mem_or_eq_of_mem_set hx with hx|rfl
 · exact h x hx
 · exact h s (List.mem_of_getElem? hs)
set_option maxHeartbeats 4000000 in
theorem yw (S:Nat→Prop)(vd vl:Value)(ns:List Nd)(l:List St)(k n:Int)(w:World)(hD:zj S w vd ns)(hL:qj S w vl l)(hn:qB l)(hre:l.length*24≤140737488351232)(hE:ze w) :
 Calls Tryd.prog 4 #[.agg #[vd],vl,.int .i64 k,.int .i64 n] w fun e w'=>e=.returned (.bool true)∧Below w.heap.size w w':=by
 have hb1:=Below.alloc1 w (.cells #[vd] 24);have hx1:=heap_alloc_new w (.cells #[vd] 24);have HPA:Hid (∀ W,Below w.heap.size w W→Calls Tryd.prog 7 #[] W fun e w'=>e=.returned (.bool true)∧Below W.heap.size W w'):=fun W h=>zt W (hE.later h)
 have HD:Hid (zj S w vd ns):=hD;have HL:Hid (qj S w vl l):=hL;have HN:Hid (qB l):=hn;obtain ⟨na,nc,rfl,hnl,hnm⟩:=hD.nodes.shape;obtain ⟨la,lc,rfl,hll,hlm⟩:=hL.shape;unfold maxLen at hnm hlm
 obtain ⟨i0,hi,hz0,hzz1,hzz2⟩:=info_parts stepInfo;clear hD hL hn hE
 by_cases hl0:l.length=0
 · have hl0b : ((l.length : Int) == 0) = true := by simp[hl0]
   clear hi hz0 hzz1 hzz2;rw[hl0]
   go_enter Tryd.func4,Tryd.ntmps4
   go_wp2_with fail;refine (Calls.mono (HPA.out _ hb1) ?_);rintro e w3 ⟨rfl,hb3⟩;go_wp2_with fail;go_ret;exact ⟨rfl,hb1.trans (hb3.mono hb1.size)⟩
 · have hl0b : ((l.length : Int) == 0) = false := beq_eq_false_iff_ne.2 (by omega)
   have HPK:Hid (∀ W,Calls Tryd.prog 8 #[.int .i64 k,.int .i64 (l.length:Int)] W fun e w'=>∃ m:Nat,m<l.length∧e=.returned (.int .i64 (m:Int))∧w'=W):=fun W=>yg k l.length W (by omega) (by omega)
   have HPN:Hid (∀ W,Calls Tryd.prog 8 #[.int .i64 n,.int .i64 100] W fun e w'=>∃ m:Nat,m<100∧e=.returned (.int .i64 (m:Int))∧w'=W):=fun W=>yg n 100 W (by decide) (by decide)
   obtain ⟨s00,hs00⟩:∃ s,l[0]?=some s:=⟨l[0]'(by omega),by simp⟩
   obtain ⟨lb,lo,lc2,hlv,_,hlb,_⟩:=HL.out.at hs00
   injection hlv with hla hll2 hlc2
   subst hla hlc2;clear hll2 hs00 hl0
   go_enter Tryd.func4,Tryd.ntmps4
   go_wp2_with fail;refine (Calls.mono (HPK.out _) ?_);rintro e W1 ⟨m,hm,rfl,rfl⟩;obtain ⟨s,hs⟩:∃ s,l[m]?=some s:=⟨l[m],by simp[hm]⟩
   have HS:Hid (l[m]?=some s):=hs;clear hs
   generalize w.alloc (.cells #[.slice na ns.length nc] 24)=W1 at *
   have hz1:=qh hx1;go_wp2_with (at_builtin;refine wpList_append_own_at _ rfl _ _ 25 rfl W1.heap.size 37 i0 _ 2 24 Tryd.underlying25 hi hz0 hzz1 hzz2 rfl (by decide) _ _ _ rfl (World.ownsRow_nil _ _ _ _) ⟨lb,lo,none⟩ l.length lc (stepCells l) rfl ?qc1 ?qc2 ?qc3 ?qc4 ?qc5 ?qc6 ?_)
   case qc1 => exact qH l
   case qc2 => exact (HL.out.later hb1).cells
   case qc3 => exact zp l
   case qc4 => unfold maxLen;omega
   case qc5 => omega
   case qc6 => exact nR9 _
   intro v2 W2 hown2 hgr2 _ _
   have hS2:qJ W1.heap.size W2 v2 l:=by
    unfold qJ
    simpa using hown2
   have hne:l≠[]:=by intro e;rw[e]at hm;simp at hm
   obtain ⟨g,cap,rfl,hg1,hg2,hfz⟩:=hS2.block hne;have hb2:Below W1.heap.size W1 W2:=(Below.refl _ W1).grown hgr2 (nR9 _) (fun z hz=>by simp[Value.ownBlock]at hz)
   have hx2:=(hb2.block _ hz1).trans hx1;have hB2:Below w.heap.size w W2:=hb1.trans (hb2.mono hb1.size);have hT2:=hS2.steps;obtain ⟨_,_,_,hv2,_,_,s0,s1⟩:=hT2.at HS.out
   injection hv2 with hv2a hv2l hv2c
   injection hv2a with hv2a
   injection hv2a with hv2b hv2d
   subst hv2b hv2c hv2d;clear hv2l;simp only[Nat.zero_add]at s0 s1
   have hf1:=hfz (m*2+1);have hmi:(m:Int)<(l.length:Int):=by omega
   have HT2:Hid (qj (fun b=>W1.heap.size≤b) W2 (.slice (some ⟨g,0,none⟩) l.length cap) l):=hT2
   clear hown2 hgr2 hS2 hT2 hfz hx1 HPK;go_wp2_with fail;refine (Calls.mono (HPN.out _) ?_);rintro e W2' ⟨a,ha,rfl,rfl⟩;clear HPN;have hTP:=HT2.out.putN HS.out (a:Int);simp only[Nat.zero_add]at hTP
   have hzs:(W2'.setCell ⟨g,m*2+1,none⟩ (.int .i64 (a:Int))).heap.size=W2'.heap.size:=by simp
   have hB3:Below w.heap.size w (W2'.setCell ⟨g,m*2+1,none⟩ (.int .i64 (a:Int))):=hB2.setCell (p:=⟨g,m*2+1,none⟩) (by show w.heap.size≤g;omega) _
   have hB3':Below W1.heap.size W1 (W2'.setCell ⟨g,m*2+1,none⟩ (.int .i64 (a:Int))):=hb2.setCell (p:=⟨g,m*2+1,none⟩) (by show W1.heap.size≤g;omega) _
   have hgx:w.heap.size≠g:=by omega
   have hx3:(W2'.setCell ⟨g,m*2+1,none⟩ (.int .i64 (a:Int))).heap[w.heap.size]?=some (.cells #[.slice na ns.length nc] 24 (0,0)):=by rw[qa hgx];exact hx2
   have HTP:Hid (qj (fun b=>W1.heap.size≤b) (W2'.setCell ⟨g,m*2+1,none⟩ (.int .i64 (a:Int))) (.slice (some ⟨g,0,none⟩) l.length cap) (l.set m ⟨s.name,(a:Int)⟩)):=hTP
   have HB3:Hid _:=hB3;have HB3':Hid _:=hB3';have HX3:Hid _:=hx3;have HZS:Hid _:=hzs;have HLC:Hid (∀ j u,(stepCells l)[j]?=some u→(W2'.setCell ⟨g,m*2+1,none⟩ (.int .i64 (a:Int))).cell? ((⟨lb,lo,none⟩:Addr).add j)=some u):=(HL.out.later hB3).cells;clear hTP hB3 hB3' hx3 hzs hx2 hgx;go_wp2_with (at_builtin;refine wpList_append_own_at _ rfl _ _ 25 rfl W2'.heap.size 37 i0 _ 2 24 Tryd.underlying25 hi hz0 hzz1 hzz2 rfl (by decide) _ _ _ rfl (World.ownsRow_nil _ _ _ _) ⟨lb,lo,none⟩ l.length lc (stepCells l) rfl ?qc1 ?qc2 ?qc3 ?qc4 ?qc5 ?qc6 ?_)
   case qc1 => exact qH l
   case qc2 => exact HLC.out
   case qc3 => exact zp l
   case qc4 => unfold maxLen;omega
   case qc5 => omega
   case qc6 => rw[HZS.out];exact nR9 _
   intro v4 W4 hown4 hgr4 _ _
   have hS4:qJ W2'.heap.size W4 v4 l:=by
    unfold qJ
    simpa using hown4
   obtain ⟨g4,cap4,rfl,hg41,hg42,hfz4⟩:=hS4.block hne;have hb4:Below W2'.heap.size (W2'.setCell ⟨g,m*2+1,none⟩ (.int .i64 (a:Int))) W4:=(Below.refl _ _).grown hgr4 (by rw[HZS.out];exact nR9 _) (fun z hz=>by simp[Value.ownBlock]at hz)
   have hb4':Below (W2'.setCell ⟨g,m*2+1,none⟩ (.int .i64 (a:Int))).heap.size (W2'.setCell ⟨g,m*2+1,none⟩ (.int .i64 (a:Int))) W4:=by rw[HZS.out];exact hb4
   have hB4:Below w.heap.size w W4:=HB3.out.trans (hb4.mono hB2.size);have hx4:=(hb4'.block _ (qh HX3.out)).trans HX3.out;have hT4:=hS4.steps;obtain ⟨_,_,_,hv4,_,_,t0,t1⟩:=hT4.at HS.out
   injection hv4 with hv4a hv4l hv4c
   injection hv4a with hv4a
   injection hv4a with hv4b hv4d
   subst hv4b hv4c hv4d;clear hv4l;simp only[Nat.zero_add]at t0 t1
   have hf4:=hfz4 (m*2+1);have HTA:Hid (qj (fun b=>W1.heap.size≤b) W4 (.slice (some ⟨g,0,none⟩) l.length cap) (l.set m ⟨s.name,(a:Int)⟩)):=HTP.out.later hb4'
   have HT4:Hid (qj (fun b=>W2'.heap.size≤b) W4 (.slice (some ⟨g4,0,none⟩) l.length cap4) l):=hT4
   have hgg:g<W2'.heap.size:=hg2;clear hown4 hgr4 hS4 hT4 hfz4 HTP HLC HB3 HB3' HX3 HZS hi hz0 hzz1 hzz2 s0 s1 hf1;have hTQ:=HT4.out.putN HS.out 0;simp only[Nat.zero_add]at hTQ
   have hB5:Below w.heap.size w (W4.setCell ⟨g4,m*2+1,none⟩ (.int .i64 0)):=hB4.setCell (p:=⟨g4,m*2+1,none⟩) (by show w.heap.size≤g4;omega) _
   have hgx4:w.heap.size≠g4:=by omega
   have hx5:(W4.setCell ⟨g4,m*2+1,none⟩ (.int .i64 0)).heap[w.heap.size]?=some (.cells #[.slice na ns.length nc] 24 (0,0)):=by rw[qa hgx4];exact hx4
   have hgg4:g≠g4:=by omega
   have hTA5:qj (fun b=>b=g) (W4.setCell ⟨g4,m*2+1,none⟩ (.int .i64 0)) (.slice (some ⟨g,0,none⟩) l.length cap) (l.set m ⟨s.name,(a:Int)⟩) :=
    HTA.out.only.carry fun b hb=>⟨hb,by subst hb;exact qa hgg4⟩
   have hTQ5:=hTQ.only;have hz5:(W4.setCell ⟨g4,m*2+1,none⟩ (.int .i64 0)).heap.size=W4.heap.size:=by simp
   have hgW:g<W4.heap.size:=Nat.lt_of_lt_of_le hgg (by have:=hb4.size;have:=hg42;omega)
   have HSA:Hid (∀ W,Below W4.heap.size (W4.setCell ⟨g4,m*2+1,none⟩ (.int .i64 0)) W→Calls Tryd.prog 6 #[.agg #[.slice na ns.length nc],.slice (some ⟨g,0,none⟩) l.length cap] W fun e w'=>∃ v,e=.returned (.tuple #[v,.int .i64 (zc ns (l.set m ⟨s.name,0⟩))])∧qm (fun b=>W.heap.size≤b) w' v (q6 ns (l.set m ⟨s.name,(a:Int)⟩))∧Below W.heap.size W w'):=by
    intro W hW;have hW':Below w.heap.size w W:=hB5.trans (hW.mono hB4.size);have hW2:Below (W4.setCell ⟨g4,m*2+1,none⟩ (.int .i64 0)).heap.size (W4.setCell ⟨g4,m*2+1,none⟩ (.int .i64 0)) W:=by rw[hz5];exact hW
    have hsz:=hW.size;rw[hz5]at hsz
    have:=qS (fun b=>S b∨b=g) _ _ ns (l.set m ⟨s.name,(a:Int)⟩) W ⟨(HD.out.later hW').nodes.carry fun b hb=>⟨Or.inl hb,rfl⟩,fun b hb=>by
     rcases hb with hb|hb
     · exact Nat.lt_of_lt_of_le (HD.out.here b hb) hW'.size
     · omega,HD.out.few,HD.out.short⟩ ((hTA5.later hW2).carry fun b hb=>⟨Or.inr hb,rfl⟩) (HN.out.set HS.out _)
    rw[xK HS.out (by omega) (by omega)]at this
    exact this
   have HSB:Hid (∀ W,Below W4.heap.size (W4.setCell ⟨g4,m*2+1,none⟩ (.int .i64 0)) W→Calls Tryd.prog 6 #[.agg #[.slice na ns.length nc],.slice (some ⟨g4,0,none⟩) l.length cap4] W fun e w'=>∃ v,e=.returned (.tuple #[v,.int .i64 (zc ns (l.set m ⟨s.name,0⟩))])∧qm (fun b=>W.heap.size≤b) w' v (q6 ns (l.set m ⟨s.name,0⟩))∧Below W.heap.size W w'):=by
    intro W hW;have hW':Below w.heap.size w W:=hB5.trans (hW.mono hB4.size);have hW2:Below (W4.setCell ⟨g4,m*2+1,none⟩ (.int .i64 0)).heap.size (W4.setCell ⟨g4,m*2+1,none⟩ (.int .i64 0)) W:=by rw[hz5];exact hW
    have hsz:=hW.size;rw[hz5]at hsz
    exact qS (fun b=>S b∨b=g4) _ _ ns (l.set m ⟨s.name,0⟩) W ⟨(HD.out.later hW').nodes.carry fun b hb=>⟨Or.inl hb,rfl⟩,fun b hb=>by
     rcases hb with hb|hb
     · exact Nat.lt_of_lt_of_le (HD.out.here b hb) hW'.size
     · omega,HD.out.few,HD.out.short⟩ ((hTQ5.later hW2).carry fun b hb=>⟨Or.inr hb,rfl⟩) (HN.out.set HS.out _)
   obtain ⟨E,hEq⟩:∃ E,zc ns (l.set m ⟨s.name,0⟩)=E:=⟨_,rfl⟩;obtain ⟨A,hA⟩:∃ A,q6 ns (l.set m ⟨s.name,(a:Int)⟩)=A:=⟨_,rfl⟩;obtain ⟨B,hBq⟩:∃ B,q6 ns (l.set m ⟨s.name,0⟩)=B:=⟨_,rfl⟩;have HAB:Hid (A⊆B):=by show A⊆B;rw[←hA,←hBq];exact xJ HS.out (by omega) (by omega)
   rw[hEq,hA]at HSA
   rw[hEq,hBq]at HSB
   have d4:W4.cell? ⟨w.heap.size,0,none⟩=some (.slice na ns.length nc):=by rw[cH9 hx4];rfl
   have d5:(W4.setCell ⟨g4,m*2+1,none⟩ (.int .i64 0)).cell? ⟨w.heap.size,0,none⟩=some (.slice na ns.length nc):=by rw[cH9 hx5];rfl
   have HB5:Hid _:=hB5;have HX5:Hid _:=hx5;have hw4:=hB4.size;clear hTQ hTA5 hTQ5 hB5 hx5 hz5 hEq hA hBq HTA HT4 HT2 hx4;go_wp2_with fail;refine (Calls.mono (HSA.out _ (Below.refl _ _)) ?_);rintro e W6 ⟨v6,rfl,hI6,hb6⟩;have hb6':Below W4.heap.size (W4.setCell ⟨g4,m*2+1,none⟩ (.int .i64 0)) W6:=by have:=hb6;simp only[World.size_setCell]at this;exact this
   have hx6:=(hb6.block _ (qh HX5.out)).trans HX5.out;have hB6:Below w.heap.size w W6:=HB5.out.trans (hb6'.mono hw4);have d6:W6.cell? ⟨w.heap.size,0,none⟩=some (.slice na ns.length nc):=by rw[cH9 hx6];rfl
   obtain ⟨xa,xc,rfl,hxl,hxm⟩:=hI6.shape;have HI6:Hid (qm (fun b=>(W4.setCell ⟨g4,m*2+1,none⟩ (.int .i64 0)).heap.size≤b) W6 (.slice xa A.length xc) A):=hI6
   clear hI6 d5 d4 t0 t1 hf4;go_wp2_with fail;refine (Calls.mono (HSB.out _ hb6') ?_);rintro e W7 ⟨v7,rfl,hI7,hb7⟩;have hB7:Below w.heap.size w W7:=hB6.trans (hb7.mono hB6.size);obtain ⟨ya,yc,rfl,hyl,hym⟩:=hI7.shape;have HI7:Hid (qm (fun b=>W6.heap.size≤b) W7 (.slice ya B.length yc) B):=hI7
   have HI67:Hid (qm (fun b=>(W4.setCell ⟨g4,m*2+1,none⟩ (.int .i64 0)).heap.size≤b) W7 (.slice xa A.length xc) A):=HI6.out.later hb7
   clear hI7 d6 HI6 HSA HSB;go_wp2_with fail;refine (Calls.mono (HPA.out _ hB7) ?_);rintro e W8 ⟨rfl,hb8⟩;have hB8:Below w.heap.size w W8:=hB7.trans (hb8.mono hB7.size);have HA8:Hid (qm (fun b=>(W4.setCell ⟨g4,m*2+1,none⟩ (.int .i64 0)).heap.size≤b) W8 (.slice xa A.length xc) A):=HI67.out.later hb8
   have HB8:Hid (qm (fun b=>W6.heap.size≤b) W8 (.slice ya B.length yc) B):=HI7.out.later hb8
   unfold maxLen at hxm hym
   clear HI67 HI7 hb8 HPA hb7 hb6 hb6' hB6 hB7;go_wp2_with fail
   go_loopg [63] A.length (fun g i wr=>∃ ii:Nat,ii+g=A.length∧i=.int .i64 (ii:Int)∧wr=W8)
   case atStart => exact ⟨0,by omega,rfl,rfl⟩
   case round =>
    obtain ⟨i,hi,rfl,hwr⟩:=hrel;subst hwr
    rename World=>wo
    by_cases hil:i<A.length
    · obtain ⟨u, hu⟩ : ∃ u, A[i]? = some u := ⟨A[i], by simp[hil]⟩
      obtain ⟨ab,ao,ac,hav,_,_,e1⟩:=HA8.out.at hu
      injection hav with hav1 hav2 hav3
      subst hav1 hav3;clear hav2;have HU:Hid (u∈B):=HAB.out (List.mem_of_getElem? hu);have hili:(i:Int)<(A.length:Int):=by omega
      clear hu;go_wp2_with fail
      go_loopg [69,17] B.length (fun g j q wz=>∃ jj:Nat,jj+g=B.length∧j=.int .i64 (jj:Int)∧q=.bool (decide (u∈B.take jj))∧wz=wo)
      case atStart => exact ⟨0,by omega,rfl,by simp,rfl⟩
      case round =>
       obtain ⟨j,hj,rfl,rfl,hwz⟩:=hrel;subst hwz
       by_cases hjl:j<B.length
       · obtain ⟨y, hy⟩ : ∃ y, B[j]? = some y := ⟨B[j], by simp[hjl]⟩
         obtain ⟨bb,bo,bc,hbv,_,_,e2⟩:=HB8.out.at hy
         injection hbv with hbv1 hbv2 hbv3
         subst hbv1 hbv3;clear hbv2;have hjli:(j:Int)<(B.length:Int):=by omega
         have HT:Hid (decide (u∈B.take (j+1))=(decide (u∈B.take j)||(u==y))):=by
          show _=_
          have e:B[j]=y:=by simpa[hjl] using hy
          rw[List.take_succ_eq_append_getElem hjl,e]
          by_cases h1:u∈B.take j<;>by_cases h2:u=y<;>simp[List.mem_append,h1,h2]
         obtain ⟨q,hq⟩:∃ q,decide (u∈B.take j)=q:=⟨_,rfl⟩;rw[hq]at HT ⊢
         clear hq hy;cases q with
         | true =>
           have HT2:Hid (decide (u∈B.take (j+1))=true):=by show _=_;rw[HT.out];rfl
           clear HT;go_wp2_with fail
           go_roundg (B.length-(j+1))
           case measure => omega
           case rel => exact ⟨j+1,by omega,by go_num,by rw[HT2.out],rfl⟩
         | false =>
           have HT2:Hid (decide (u∈B.take (j+1))=(u==y)):=by show _=_;rw[HT.out];rfl
           clear HT;go_wp2_with fail
           go_roundg (B.length-(j+1))
           case measure => omega
           case rel => exact ⟨j+1,by omega,by go_num,by rw[HT2.out],rfl⟩
       · have hjli : ¬ ((j : Int) < (B.length : Int)) := by omega
         have hT:decide (u∈B.take j)=true:=by rw[List.take_of_length_le (by omega)];simpa using HU.out
         rw[hT];clear hT;go_wp2_with fail
         go_roundg (A.length-(i+1))
         case measure => omega
         case rel => exact ⟨i+1,by omega,by go_num,rfl⟩
    · have hili : ¬ ((i : Int) < (A.length : Int)) := by omega
      go_wp2_with fail;go_ret;exact ⟨rfl,hB8⟩
end
end Go.Proofs.YtfdbipeidmpciabDoor
