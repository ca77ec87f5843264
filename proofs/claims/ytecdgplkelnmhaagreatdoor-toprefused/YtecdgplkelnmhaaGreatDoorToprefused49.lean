/- Bundled: TopS StoP TRefK. What each says stands ahead of it. -/
import Derived.Test.YtecdgplkelnmhaaGreatDoorBundle39
import Derived.Test.YtecdgplkelnmhaaGreatDoorToprefused48
namespace Go.Proofs.YtecdgplkelnmhaaGreatDoor
open Go.ChangeShapes Go.WideShapes Go.ChangeAt Go.RowKit
set_option maxRecDepth 100000
section
attribute [local go_sem] qd
theorem like_refl:∀ (n:Nat)(ts:List Tr),Deep n ts→likeB n ts ts=true:=by
 intro n
 induction n with
 | zero=>intro ts h;have e:ts=[]:=h;subst e;exact Xm 0
 | succ n ih =>
   intro ts h;rw[Xn rfl];unfold ZZ;rw[List.all_eq_true];intro p hp;have hz:=List.mem_of_mem_take hp;obtain ⟨i,hi⟩:=List.mem_iff_getElem?.1 hz;rw[List.getElem?_zip_eq_some]at hi
   have e:p.1=p.2:=by
    have h1:=hi.1;have h2:=hi.2;rw[h1]at h2
    exact Option.some.inj h2
   rw[←e,ih p.1.kids (h p.1 (List.mem_of_getElem? hi.1)),Bool.and_true];simp[xh]
theorem JM (w:World)(S0:Nat→Prop)(l:List Ac):XK 12 w S0 l:=by
 intro S sb i a vd vs W _ _ hB hsb hSw hSt hN hg hstr;obtain ⟨da,dc,rfl,_,_⟩:=hN.shape;obtain ⟨sa,sc,rfl,_,_⟩:=hstr.shape
 generalize (yq a (zb (l.take i)).1 (zb (l.take i)).2).1=rep
 have hb1:Below W.heap.size W (((W.alloc (.cells #[.slice da (zb (l.take i)).1.length dc] 28)).alloc (.cells #[.int .i64 a.kind,.slice sa a.lines.length sc] 31)).alloc (.cells #[.int .i64 rep.1,.int .i64 rep.2.1,.string rep.2.2] 34)):=((Below.alloc1 W _).alloc (by simp) _).alloc (by simp;omega) _
 clear hSt hN hg hstr hB
 go_enter Tryz.func12,Tryz.ntmps12
 go_wp2_with fail;go_ret;exact ⟨rfl,hb1⟩
theorem qal (S0:Nat→Prop)(vl:Value)(l:List Ac)(w:World)(hL:QL S0 w vl l)(hS0:∀ b,S0 b→b<w.heap.size)(hz:ZK l)(hE:yx w) :
 Calls Tryz.prog 6 #[vl,.func (.func 12) #[] #[]] w fun e w'=>Ku w l e w' :=
 Ji 12 (fun _ _=>rfl) S0 vl l w hL hS0 hz hE (JM w S0 l)
set_option maxHeartbeats 1000000 in
theorem Yk (S S':Nat→Prop)(vd vd':Value)(ns:List Nd)(w:World)(h:QX S w vd ns)(h':QX S' w vd' ns)(hg:goodD ns=true) :
 Calls Tryz.prog 11 #[.agg #[vd],.agg #[vd']] w fun e w'=>e=.returned (.bool true)∧Below w.heap.size w w':=by
 obtain ⟨a,c,rfl,_,_⟩:=h.nodes.shape;obtain ⟨a',c',rfl,_,_⟩:=h'.nodes.shape;have hb1:Below w.heap.size w ((w.alloc (.cells #[.slice a ns.length c] 28)).alloc (.cells #[.slice a' ns.length c'] 28)):=(Below.alloc1 w _).alloc (by simp) _
 have HY1:Hid (((w.alloc (.cells #[.slice a ns.length c] 28)).alloc (.cells #[.slice a' ns.length c'] 28)).heap[w.heap.size+1]?=some (.cells #[.slice a' ns.length c'] 28 (0,0))):=by
  have:=heap_alloc_new (w.alloc (.cells #[.slice a ns.length c] 28)) (.cells #[.slice a' ns.length c'] 28);rw[World.size_alloc]at this
  exact this
 obtain ⟨htd,hgt⟩:=Qk hg;have HT1:Hid _:=Yb S _ ns 0 _ (h.later hb1);have HD':Hid _:=h';rw[htd]at HT1
 have HT2:Hid (∀ W,Below w.heap.size w W→Calls Tryz.prog 22 #[.agg #[.slice a' ns.length c'],.int .i64 0] W fun e w'=>∃ va vk,e=.returned (.tuple #[.agg #[.bool (growF ns.length ns 0).text,.string (growF ns.length ns 0).s,va,vk],.int .i64 0])∧qk (fun b=>W.heap.size≤b) w' va (growF ns.length ns 0).attrs∧qa (fun b=>W.heap.size≤b) w' ns.length vk (growF ns.length ns 0).kids∧Below W.heap.size W w'):=by
  intro W hW;have:=Yb S' _ ns 0 W (HD'.out.later hW);rw[htd]at this
  exact this
 have hcnt:∀ {n:Nat},Deep n (growF ns.length ns 0).kids→cnt (n+1) [growF ns.length ns 0]≤1048576:=by
  intro n hd;have hg2:=hgt;rw[jP hd]at hg2
  simp only[Bool.and_eq_true,decide_eq_true_eq]at hg2
  omega
 have HCN:Hid _:=@hcnt
 generalize growF ns.length ns 0=t at *
 clear h h' htd hgt hcnt hg
 go_enter Tryz.func11,Tryz.ntmps11
 go_wp2_with fail
 generalize (w.alloc (.cells #[.slice a ns.length c] 28)).alloc (.cells #[.slice a' ns.length c'] 28)=W1 at *
 refine Calls.mono HT1.out ?_;rintro e w2 ⟨va,vk,rfl,hA2,hK2,hb2⟩;obtain ⟨aa,ac,rfl⟩:=hA2.shape;obtain ⟨ka,kc,rfl,_,_⟩:=qa.shape ns.length hK2;have hb3:=Below.alloc1 w2 (.cells #[.bool t.text,.string t.s,.slice aa t.attrs.length ac,.slice ka t.kids.length kc] 50);have hb23:=hb2.trans (hb3.mono hb2.size);have hB3:=hb1.trans (hb23.mono hb1.size);have HX3:Hid _:=heap_alloc_new w2 (.cells #[.bool t.text,.string t.s,.slice aa t.attrs.length ac,.slice ka t.kids.length kc] 50);have HY3:Hid _:=(hb23.block _ (qg HY1.out)).trans HY1.out;have HA3:Hid _:=qk.later hA2 hb3;have HK3:Hid _:=qa.later hb3 ns.length hK2;have y3:(w2.alloc (.cells #[.bool t.text,.string t.s,.slice aa t.attrs.length ac,.slice ka t.kids.length kc] 50)).cell? ⟨w.heap.size+1,0,none⟩=some (.slice a' ns.length c'):=by rw[cH9 HY3.out];rfl
 clear hA2 hK2 hb2 hb3 hb23 HT1 HY1;go_wp2_with fail
 generalize w2.alloc (.cells #[.bool t.text,.string t.s,.slice aa t.attrs.length ac,.slice ka t.kids.length kc] 50)=W3 at *
 refine Calls.mono (HT2.out W3 hB3) ?_;rintro e w4 ⟨va4,vk4,rfl,hA4,hK4,hb4⟩;obtain ⟨aa4,ac4,rfl⟩:=hA4.shape;obtain ⟨ka4,kc4,rfl,_,_⟩:=qa.shape ns.length hK4;have hb5:=Below.alloc1 w4 (.cells #[.bool t.text,.string t.s,.slice aa4 t.attrs.length ac4,.slice ka4 t.kids.length kc4] 50);have hb45:=hb4.trans (hb5.mono hb4.size);have hB5:=hB3.trans (hb45.mono hB3.size);have HX5:Hid _:=(hb45.block _ (qg HX3.out)).trans HX3.out;have HZ5:Hid _:=heap_alloc_new w4 (.cells #[.bool t.text,.string t.s,.slice aa4 t.attrs.length ac4,.slice ka4 t.kids.length kc4] 50);have x0:(w4.alloc (.cells #[.bool t.text,.string t.s,.slice aa4 t.attrs.length ac4,.slice ka4 t.kids.length kc4] 50)).cell? ⟨w2.heap.size,0,none⟩=some (.bool t.text):=by rw[cH9 HX5.out];rfl
 have x1:(w4.alloc (.cells #[.bool t.text,.string t.s,.slice aa4 t.attrs.length ac4,.slice ka4 t.kids.length kc4] 50)).cell? ⟨w2.heap.size,1,none⟩=some (.string t.s):=by rw[cH9 HX5.out];rfl
 have x2:(w4.alloc (.cells #[.bool t.text,.string t.s,.slice aa4 t.attrs.length ac4,.slice ka4 t.kids.length kc4] 50)).cell? ⟨w2.heap.size,2,none⟩=some (.slice aa t.attrs.length ac):=by rw[cH9 HX5.out];rfl
 have x3:(w4.alloc (.cells #[.bool t.text,.string t.s,.slice aa4 t.attrs.length ac4,.slice ka4 t.kids.length kc4] 50)).cell? ⟨w2.heap.size,3,none⟩=some (.slice ka t.kids.length kc):=by rw[cH9 HX5.out];rfl
 have HSM:Hid _:=qdx _ _ ns.length _ _ _ _ t t _ (qk.later HA3.out hb45) (qa.later hb45 ns.length HK3.out) (qk.later hA4 hb5) (qa.later hb5 ns.length hK4) (HCN.out (qa.deep ns.length hK4));rw[like_refl _ _ (show Deep (ns.length+1) [t] from fun u hu=>by rw[List.mem_singleton.1 hu];exact qa.deep ns.length hK4)]at HSM
 clear hA4 hK4 hb4 hb5 hb45 HX3 HA3 HK3 HT2 y3 HX5;go_wp2_with fail;refine Calls.mono HSM.out ?_;rintro e w6 ⟨rfl,hb6⟩;go_wp2_with fail;go_ret;exact ⟨rfl,hB5.trans (hb6.mono hB5.size)⟩
end
end Go.Proofs.YtecdgplkelnmhaaGreatDoor
namespace Go.Proofs.YtecdgplkelnmhaaGreatDoor
open Go.RowKit
set_option maxRecDepth 100000
theorem Za {a:Ac}{ns:List Nd}{n:Nat}(h:(yq a ns n).1.1≠0):(yq a ns n).2.1=ns∧(yq a ns n).1.2.1=0∧(yq a ns n).1.2.2=⟨#[]⟩:=by
 unfold yq at h ⊢
 split
 · (refine ⟨?_,?_,?_⟩<;>first|rfl|trivial)
 · rename_i hn
   rw[if_neg hn]at h
   simp only at h ⊢
   unfold yA at h ⊢
   split
   · rename_i h1
     rw[if_pos h1]at h
     unfold xW at h ⊢
     split
     · rename_i s hs
       rw[hs]at h
       simp only at h
       split
       · (refine ⟨?_,?_,?_⟩<;>first|rfl|trivial)
       · rename_i hp
         rw[if_neg hp]at h
         exact absurd rfl h
     · (refine ⟨?_,?_,?_⟩<;>first|rfl|trivial)
   · rename_i h1
     rw[if_neg h1]at h
     split
     · rename_i h2
       rw[if_pos h2]at h
       unfold yJ at h ⊢
       split
       · (refine ⟨?_,?_,?_⟩<;>first|rfl|trivial)
       · rename_i q1
         rw[if_neg q1]at h
         split
         · (refine ⟨?_,?_,?_⟩<;>first|rfl|trivial)
         · rename_i q2
           rw[if_neg q2]at h
           split
           · (refine ⟨?_,?_,?_⟩<;>first|rfl|trivial)
           · rename_i q3
             rw[if_neg q3]at h
             exact absurd rfl h
     · rename_i h2
       rw[if_neg h2]at h
       split
       · rename_i h3
         rw[if_pos h3]at h
         simp only at h ⊢
         unfold Zd at h ⊢
         split
         · (refine ⟨?_,?_,?_⟩<;>first|rfl|trivial)
         · rename_i q1
           rw[if_neg q1]at h
           split
           · (refine ⟨?_,?_,?_⟩<;>first|rfl|trivial)
           · rename_i q2
             rw[if_neg q2]at h
             exact absurd rfl h
       · (refine ⟨?_,?_,?_⟩<;>first|rfl|trivial)
theorem qcI {a:Ac}{ns:List Nd}{n:Nat}(hg:goodD ns=true)(h:a.kind=3∨a.kind=2∧(yq a ns n).1.2.1=0):(yq a ns n).2.1=ns:=by
 by_cases hc:(yq a ns n).1.1≠0
 · exact (Za hc).1
 · unfold yq at h hc ⊢
   split
   · rfl
   · rename_i hn
     rw[if_neg hn]at h hc
     simp only at h hc ⊢
     rcases h with h3|⟨h2,hN⟩
     · unfold yA;rw[if_neg (by omega),if_neg (by omega),if_pos h3]
     · unfold yA at hN hc ⊢
       rw[if_neg (by omega),if_pos h2]at hN hc ⊢
       unfold yJ at hN hc ⊢
       split
       · rfl
       · rename_i q1
         rw[if_neg q1]at hN hc
         split
         · rfl
         · rename_i q2
           rw[if_neg q2]at hN hc
           split
           · rfl
           · rename_i q3
             rw[if_neg q3]at hN
             simp only at hN ⊢
             have e:(qI ns a.lines).1=[]:=List.eq_nil_of_length_eq_zero (by omega)
             rw[e];exact (qbj hg).2
theorem qd7 {a:Ac}{ns:List Nd}{n:Nat}(hc:(yq a ns n).1.1=0)(h3:a.kind≠3)(h2:¬ (a.kind=2∧(yq a ns n).1.2.1=0)):0<(yq a ns n).1.2.1∧(yq a ns n).1.2.2=⟨#[]⟩:=by
 unfold yq at hc h2 ⊢
 split
 · rename_i hn
   rw[if_pos hn]at hc
   exact absurd hc (by show (7:Int)≠0;decide)
 · rename_i hn
   rw[if_neg hn]at hc h2
   simp only at hc h2 ⊢
   unfold yA at hc h2 ⊢
   split
   · rename_i k1
     rw[if_pos k1]at hc
     unfold xW at hc ⊢
     split
     · rename_i s hs
       rw[hs]at hc
       simp only at hc
       rcases Yi s.data.toList with ⟨c,hc1,hc2⟩|⟨hg,hz⟩
       · rw[if_pos (by rw[hc2];rcases hc1 with rfl | rfl <;> decide)]at hc
         exact absurd hc (by show (qx s.data.toList).2≠0;rw[hc2];rcases hc1 with rfl|rfl<;>decide)
       · rw[if_neg (by simpa using hz)]
         refine ⟨?_,rfl⟩
         show (0:Int)<((ye s.data.toList.length (qx s.data.toList).1).length:Int)
         unfold ye;rw[if_pos hg];have hp:∀ (d:Nat) (t:Tr),0<(layF d t (-1) 0).length:=fun d t=>by cases d<;>simp[layF]
         have:=hp s.data.toList.length (qx s.data.toList).1;omega
     · rename_i hs
       exfalso
       split at hc
       · rename_i s' hs'
         exact hs s' hs'
       · exact absurd hc (by show (1:Int)≠0;decide)
   · rename_i k1
     rw[if_neg k1]at hc h2
     split
     · rename_i k2
       rw[if_pos k2]at hc h2
       unfold yJ at hc h2 ⊢
       split
       · rename_i q1
         rw[if_pos q1]at hc
         exact absurd hc (by show (2:Int)≠0;decide)
       · rename_i q1
         rw[if_neg q1]at hc h2
         split
         · rename_i q2
           rw[if_pos q2]at hc
           exact absurd hc q2
         · rename_i q2
           rw[if_neg q2]at hc h2
           split
           · rename_i q3
             rw[if_pos q3]at hc
             exact absurd hc q3
           · rename_i q3
             rw[if_neg q3]at h2
             simp only at h2 ⊢
             refine ⟨?_,by first|rfl|trivial⟩
             have:¬ (((qI ns a.lines).1.length:Int)=0):=fun e=>h2 ⟨k2,e⟩
             omega
     · rename_i k2
       rw[if_neg k2,if_neg h3]at hc
       exact absurd hc (by show (4:Int)≠0;decide)
end Go.Proofs.YtecdgplkelnmhaaGreatDoor
namespace Go.Proofs.YtecdgplkelnmhaaGreatDoor
open Go.ChangeShapes Go.WideShapes Go.ChangeAt Go.RowKit
set_option maxRecDepth 100000
section
attribute [local go_sem] qd
theorem QF {S:Nat→Prop}{w:World}{v:Value}{ns:List Nd}(h:qt S w v ns)(hg:goodD ns=true):QX (fun b=>S b∧b<w.heap.size) w v ns :=
 ⟨h.bounded,fun _ hb=>hb.2,(xx hg).1,(xx hg).2⟩
set_option linter.unusedSimpArgs false in
set_option maxHeartbeats 2000000 in
theorem Ju (S0:Nat→Prop)(vl vs:Value)(l:List Ac)(a:Ac)(w:World)(hL:QL S0 w vl l)(hV:Strs S0 w vs a.lines)(hS0:∀ b,S0 b→b<w.heap.size)(hz:ZK l)(hza:∀ s∈a.lines,s.size≤maxLen)(hE:yx w) :
 Calls Tryz.prog 5 #[vl,.agg #[.int .i64 a.kind,vs]] w fun e w'=>e=.returned (.bool true)∧Below w.heap.size w w':=by
 obtain ⟨sa,sc,rfl,_,_⟩:=hV.shape;obtain ⟨la,lc,rfl,_,_⟩:=hL.shape;have hb0:=Below.alloc1 w (.cells #[.int .i64 a.kind,.slice sa a.lines.length sc] 31);have HA0:Hid _:=heap_alloc_new w (.cells #[.int .i64 a.kind,.slice sa a.lines.length sc] 31);have hL1:QL S0 (w.alloc (.cells #[.int .i64 a.kind,.slice sa a.lines.length sc] 31)) (.slice la l.length lc) l:=hL.carry fun b hb=>⟨hb,hb0.block b (hS0 b hb)⟩
 have HP:Hid _:=qal S0 _ l (w.alloc (.cells #[.int .i64 a.kind,.slice sa a.lines.length sc] 31)) hL1 (fun b hb=>Nat.lt_of_lt_of_le (hS0 b hb) hb0.size) hz (hE.later hb0)
 have HE1:Hid _:=hE.later hb0;have HV1:Hid _:=hV.later hb0;have HS0:Hid _:=hS0;have hsz1:w.heap.size<(w.alloc (.cells #[.int .i64 a.kind,.slice sa a.lines.length sc] 31)).heap.size:=by simp
 clear hL hL1 hE hV hS0 hz
 go_enter Tryz.func5,Tryz.ntmps5
 go_wp2_with fail
 generalize w.alloc (.cells #[.int .i64 a.kind,.slice sa a.lines.length sc] 31)=W1 at *
 refine Calls.mono HP.out ?_;rintro e w2 ⟨sb,S,rfl,hsb,hSw,hSt,hb2⟩
 generalize (zb (l.take 50)).1=ns0 at *
 generalize (zb (l.take 50)).2=n0 at *
 have hg0:=hSt.good;have HG0:Hid _:=hg0;have HDC:Hid _:=QA S sb n0 ns0 w2 hSt;have HST:Hid _:=hSt;clear hSt hg0 HP;go_wp2_with fail;refine Calls.mono HDC.out ?_;rintro e w3 ⟨v3,rfl,hN3,hb3⟩;obtain ⟨a3,c3,rfl,_,_⟩:=hN3.shape;have hb4:=Below.alloc1 w3 (.cells #[.slice a3 ns0.length c3] 28);have hb34:=hb3.trans (hb4.mono hb3.size);have hB4:=hb2.trans (hb34.mono hb2.size);have HW4:Hid _:=heap_alloc_new w3 (.cells #[.slice a3 ns0.length c3] 28);have HN4:Hid _:=qt.later hN3 hb4;have HA4:Hid _:=(hB4.block _ (qg HA0.out)).trans HA0.out;have q0:(w3.alloc (.cells #[.slice a3 ns0.length c3] 28)).cell? ⟨w.heap.size,0,none⟩=some (.int .i64 a.kind):=by rw[cH9 HA4.out];rfl
 have q1:(w3.alloc (.cells #[.slice a3 ns0.length c3] 28)).cell? ⟨w.heap.size,1,none⟩=some (.slice sa a.lines.length sc):=by rw[cH9 HA4.out];rfl
 obtain ⟨_,_,hbx,_,_⟩:=HST.out.box;have hsbl:=qg hbx;have HDO:Hid _:=XV S S0 sb n0 ns0 _ a W1 _ (HST.out.later hb34) (Strs.later (Strs.later HV1.out hb2) hb34) (fun b hb=>by have:=HS0.out b hb;omega) HE1.out hB4 hsb hza
 have hs23:w2.heap.size≤w3.heap.size:=hb3.size;have hdr:=@Za a ns0 n0;have HDR:Hid _:=hdr;obtain ⟨rep,ns1,n1,hrd⟩:∃ rep ns1 n1,yq a ns0 n0=(rep,ns1,n1):=⟨_,_,_,rfl⟩;rw[hrd]at HDO HDR
 simp only at HDO HDR
 clear hdr hN3 hb3 hb4 hb34 hbx HDC hrd hza HST;go_wp2_with fail
 generalize w3.alloc (.cells #[.slice a3 ns0.length c3] 28)=W4 at *
 refine Calls.mono HDO.out ?_;rintro e w5 ⟨rfl,⟨S5,hS5,hSt5⟩,hF5⟩;obtain ⟨rc,rn,rt⟩:=rep;simp only at HDR ⊢
 have hB5:=Qy hB4 hF5 hsb;have hb6:=Below.alloc1 w5 (.cells #[.int .i64 rc,.int .i64 rn,.string rt] 34);have hB6:=hB5.trans (hb6.mono hB5.size);have HW6:Hid _:=(hb6.block _ (Nat.lt_of_lt_of_le (qg HW4.out) hF5.below.size)).trans ((hF5.frame _ (qg HW4.out) (by omega)).trans HW4.out)
 have HR6:Hid _:=heap_alloc_new w5 (.cells #[.int .i64 rc,.int .i64 rn,.string rt] 34);have HN6:Hid (qt (fun b=>w2.heap.size≤b) (w5.alloc (.cells #[.int .i64 rc,.int .i64 rn,.string rt] 34)) (.slice a3 ns0.length c3) ns0):=qt.later ((qt.bounded HN4.out).carry fun b hb=>⟨hb.1,hF5.frame b hb.2 (by omega)⟩) hb6
 have HS6:Hid _:=hSt5.later hb6;have HBW:Hid (Below w.heap.size w (w5.alloc (.cells #[.int .i64 rc,.int .i64 rn,.string rt] 34))):=hb0.trans (hB6.mono hb0.size);clear HDO hSt5 hF5 q0 q1 HN4 HW4 hb6 HA4
 have HC:Hid (∀ W,Below (w5.alloc (.cells #[.int .i64 rc,.int .i64 rn,.string rt] 34)).heap.size (w5.alloc (.cells #[.int .i64 rc,.int .i64 rn,.string rt] 34)) W→Below (w5.alloc (.cells #[.int .i64 rc,.int .i64 rn,.string rt] 34)).heap.size (w5.alloc (.cells #[.int .i64 rc,.int .i64 rn,.string rt] 34)) W∧W.cell? ⟨w3.heap.size,0,none⟩=some (.slice a3 ns0.length c3)∧W.cell? ⟨w5.heap.size,0,none⟩=some (.int .i64 rc)∧W.cell? ⟨w5.heap.size,1,none⟩=some (.int .i64 rn)∧W.cell? ⟨w5.heap.size,2,none⟩=some (.string rt)):=by
  intro W hW;have h1:=(hW.block _ (qg HW6.out)).trans HW6.out;have h2:=(hW.block _ (qg HR6.out)).trans HR6.out;refine ⟨hW,?_,?_,?_,?_⟩
  · rw[cH9 h1];rfl
  · rw[cH9 h2];rfl
  · rw[cH9 h2];rfl
  · rw[cH9 h2];rfl
 by_cases hc:rc=0
 · subst hc;clear HDR;go_wp2_with fail
   generalize w5.alloc (.cells #[.int .i64 0,.int .i64 rn,.string rt] 34)=W6 at *
   refine wp_region_held_drew (S:=fun W:World=>Below W6.heap.size W6 W∧W.cell? ⟨w3.heap.size,0,none⟩=some (.slice a3 ns0.length c3)∧W.cell? ⟨w5.heap.size,0,none⟩=some (.int .i64 0)∧W.cell? ⟨w5.heap.size,1,none⟩=some (.int .i64 rn)∧W.cell? ⟨w5.heap.size,2,none⟩=some (.string rt)) (by kernel_rfl) (HC.out _ (Below.refl _ W6).drew) (fun hHeld=>?_)
   refine wqi [0,1,2,3] ?_
   repeat (refine wqt (v:=?_) rfl (by kernel_rfl) (fun _ _ _ h=>h) (by rfl) (by assumption) ?_ ?_;rotate_left;(· (intro w hSw;(try dsimp only at hSw);go_simp;try with_reducible rfl));try simp only[Act.put,List.getElem_toArray,List.getElem_cons_succ,List.getElem_cons_zero,List.setIfInBounds_toArray,List.set_cons_zero,List.set_cons_succ])
   refine wqn ?_;refine wqi [4,5,6,7,8,9,10,11,12,13,14,15,16,17] ?_
   repeat (refine wqu rfl (by kernel_rfl) (fun _ _ _ h=>h) (by rfl) (by assumption) ?_;try simp only[Act.put,List.getElem_toArray,List.getElem_cons_succ,List.getElem_cons_zero,List.setIfInBounds_toArray,List.set_cons_zero,List.set_cons_succ])
   refine wqn ?_;refine wqi [18,19] ?_
   repeat (refine wqt (v:=?_) rfl (by kernel_rfl) (fun _ _ _ h=>h) (by rfl) (by assumption) ?_ ?_;rotate_left;(· (intro w hSw;(try dsimp only at hSw);go_simp;try with_reducible rfl));try simp only[Act.put,List.getElem_toArray,List.getElem_cons_succ,List.getElem_cons_zero,List.setIfInBounds_toArray,List.set_cons_zero,List.set_cons_succ])
   refine wqn ?_;refine wpAnyH_done (by kernel_rfl) ?_ _
   go_wp2_with fail;go_ret;exact ⟨rfl,HBW.out.drew⟩
 · obtain ⟨e1, e2, e3⟩ := HDR.out hc;subst e1 e2 e3;have hcb:(rc==0)=false:=by simpa using hc
   clear HDR hc
   have HDD:Hid (∀ W,Below (w5.alloc (.cells #[.int .i64 rc,.int .i64 0,.string ⟨#[]⟩] 34)).heap.size (w5.alloc (.cells #[.int .i64 rc,.int .i64 0,.string ⟨#[]⟩] 34)) W→Calls Tryz.prog 9 #[.pointer (some ⟨sb,0,none⟩)] W fun e w'=>∃ aq cq,e=.returned (.agg #[.slice aq ns1.length cq])∧qt (fun b=>W.heap.size≤b) w' (.slice aq ns1.length cq) ns1∧Below W.heap.size W w'):=by
    intro W hW;refine (QA S5 sb n1 ns1 W (HS6.out.later hW)).mono ?_;rintro e w' ⟨v,rfl,h1,h2⟩;obtain ⟨aq,cq,rfl,_,_⟩:=h1.shape;exact ⟨aq,cq,rfl,h1,h2⟩
   have HSD:Hid (∀ W aq cq U,Below (w5.alloc (.cells #[.int .i64 rc,.int .i64 0,.string ⟨#[]⟩] 34)).heap.size (w5.alloc (.cells #[.int .i64 rc,.int .i64 0,.string ⟨#[]⟩] 34)) W→qt U W (.slice aq ns1.length cq) ns1→Calls Tryz.prog 11 #[.agg #[.slice a3 ns1.length c3],.agg #[.slice aq ns1.length cq]] W fun e w'=>e=.returned (.bool true)∧Below W.heap.size W w'):=by
    intro W aq cq U hW hN;exact Yk _ _ _ _ ns1 W (QF (qt.later HN6.out hW) HG0.out) (QF hN HG0.out) HG0.out
   go_wp2_with fail
   generalize w5.alloc (.cells #[.int .i64 rc,.int .i64 0,.string ⟨#[]⟩] 34)=W6 at *
   have hbn:Below W6.heap.size W6 W6.drew:=(Below.refl _ W6).drew
   go_region_held3 (fun W:World=>Below W6.heap.size W6 W∧W.cell? ⟨w3.heap.size,0,none⟩=some (.slice a3 ns1.length c3)∧W.cell? ⟨w5.heap.size,0,none⟩=some (.int .i64 rc)∧W.cell? ⟨w5.heap.size,1,none⟩=some (.int .i64 0)∧W.cell? ⟨w5.heap.size,2,none⟩=some (.string ⟨#[]⟩))
    (with_reducible exact HC.out _ hbn)
    (first
     | (go_at_call 9;refine (Calls.mono (HDD.out _ hbn) ?_);clear HDD;rintro e W7 ⟨aq,cq,rfl,hNq,hb7⟩;have hbn:=hbn.trans (hb7.mono hbn.size))
     | (go_at_call 11;refine (Calls.mono (HSD.out _ _ _ _ hbn hNq) ?_);rintro e W8 ⟨rfl,hb8⟩;have hbn:=hbn.trans (hb8.mono hbn.size)))
   all_goals
    have hBn:=HBW.out.trans (hbn.mono HBW.out.size);go_wp2_with fail;go_ret;exact ⟨rfl,hBn⟩
end
end Go.Proofs.YtecdgplkelnmhaaGreatDoor
