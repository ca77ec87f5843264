/- Bundled: LinR1 LineR SLinK. What each says stands ahead of it. -/
import Derived.Test.YtfplhcicbbhljaaGreatDoorBundle31
import Derived.Test.YtfplhcicbbhljaaGreatDoorBundle36
namespace Go.Proofs.YtfplhcicbbhljaaGreatDoor
open Go.ChangeShapes Go.WideShapes Go.ChangeAt Go.RowKit
set_option maxRecDepth 100000
structure LI (w:World) (lb ob:Nat) (s:List UInt8) (oc:Array Value) (W:World):Prop where
 below:Below w.heap.size w W
 big:w.heap.size<lb∧lb<ob
 res:W.heap[w.heap.size]?=some (.cells #[.int .i64 0,.int .i64 0,.slice none 0 0,.string ⟨#[]⟩,.string ⟨#[]⟩] 24 (0,0))
 parts:∀ i x,(zJ s)[i]?=some x→W.cell? ⟨lb,i,none⟩=some (.string (qa x))
 box:W.heap[ob]?=some (.cells oc 24 (0,0))
theorem LI.later {w:World}{lb ob:Nat}{s:List UInt8}{oc:Array Value}{W W':World}(h:LI w lb ob s oc W)(hb:Below W.heap.size W W'):LI w lb ob s oc W':=by
 have hl:lb<W.heap.size:=Nat.lt_trans h.big.2 (xm h.box);exact ⟨h.below.trans (hb.mono h.below.size),h.big,(hb.block _ (xm h.res)).trans h.res,fun i x hx=>(hb.cell (p:=⟨lb,i,none⟩) hl).trans (h.parts i x hx),(hb.block _ (xm h.box)).trans h.box⟩
theorem LI.put {w:World}{lb ob:Nat}{s:List UInt8}{oc:Array Value}{W:World}(h:LI w lb ob s oc W)(j:Nat)(v:Value):LI w lb ob s (oc.setIfInBounds j v) (W.setCell ⟨ob,j,none⟩ v):=by
 obtain ⟨b1,b2⟩:=h.big;refine ⟨h.below.setCell (p:=⟨ob,j,none⟩) (by show w.heap.size≤ob;omega) _,h.big,?_,fun i x hx=>?_,heap_setCell_same W ob j oc _ v h.box⟩
 · rw[heap_setCell_other W _ _ _ (by show w.heap.size≠ob;omega)];exact h.res
 · rw[World.cell?_of_block (a:=⟨lb,i,none⟩) (heap_setCell_other W ⟨ob,j,none⟩ lb v (by show lb≠ob;omega))];exact h.parts i x hx
theorem qX {W:World}{b:Nat}{T:TypeId}{c0 c1 c2 c3 c4:Value}(h:W.heap[b]?=some (.cells #[c0,c1,c2,c3,c4] T (0,0))) :
 W.cell? ⟨b,0,none⟩=some c0∧W.cell? ⟨b,1,none⟩=some c1∧W.cell? ⟨b,2,none⟩=some c2∧W.cell? ⟨b,3,none⟩=some c3∧W.cell? ⟨b,4,none⟩=some c4:=by
 refine ⟨?_,?_,?_,?_,?_⟩<;>rw[cH9 h]<;>rfl
theorem xh {W:World}{b:Nat}{T:TypeId}{c0 c1 c2 c3 c4:Value}(h:W.heap[b]?=some (.cells #[c0,c1,c2,c3,c4] T (0,0)))(x0 x1 x2 x3 x4:Value) :
 (((((W.setCell ⟨b,0,none⟩ x0).setCell ⟨b,1,none⟩ x1).setCell ⟨b,2,none⟩ x2).setCell ⟨b,3,none⟩ x3).setCell ⟨b,4,none⟩ x4).heap[b]?=some (.cells #[x0,x1,x2,x3,x4] T (0,0))∧(∀ k,k≠b→(((((W.setCell ⟨b,0,none⟩ x0).setCell ⟨b,1,none⟩ x1).setCell ⟨b,2,none⟩ x2).setCell ⟨b,3,none⟩ x3).setCell ⟨b,4,none⟩ x4).heap[k]?=W.heap[k]?) ∧
 ∀ {N:Nat} {w:World},N≤b→Below N w W→Below N w (((((W.setCell ⟨b,0,none⟩ x0).setCell ⟨b,1,none⟩ x1).setCell ⟨b,2,none⟩ x2).setCell ⟨b,3,none⟩ x3).setCell ⟨b,4,none⟩ x4):=by
 refine ⟨?_,fun k hk=>?_,fun hN hw=>?_⟩
 · exact heap_setCell_same _ b 4 _ T x4 (heap_setCell_same _ b 3 _ T x3 (heap_setCell_same _ b 2 _ T x2 (heap_setCell_same _ b 1 _ T x1 (heap_setCell_same W b 0 _ T x0 h))))
 · rw[heap_setCell_other _ _ k _ hk,heap_setCell_other _ _ k _ hk,heap_setCell_other _ _ k _ hk,heap_setCell_other _ _ k _ hk,heap_setCell_other _ _ k _ hk]
 · exact ((((hw.setCell (p:=⟨b,0,none⟩) hN _).setCell (p:=⟨b,1,none⟩) hN _).setCell (p:=⟨b,2,none⟩) hN _).setCell (p:=⟨b,3,none⟩) hN _).setCell (p:=⟨b,4,none⟩) hN _
theorem qbg (W:World)(e:TypeId){i:Nat}{x:List UInt8}(hx:wordsL[i]?=some x) :
 (W.alloc (.cells #[.string ⟨#[102,105,114,115,116]⟩,.string ⟨#[108,97,115,116]⟩,.string ⟨#[98,101,102,111,114,101]⟩,.string ⟨#[97,102,116,101,114]⟩,.string ⟨#[100,101,108,101,116,101]⟩,.string ⟨#[114,101,112,108,97,99,101]⟩,.string ⟨#[118,97,108,117,101]⟩,.string ⟨#[114,101,110,97,109,101]⟩,.string ⟨#[115,101,116]⟩,.string ⟨#[100,114,111,112]⟩] e)).cell? ⟨W.heap.size,i,none⟩=some (.string (qa x)):=by
 rw[cH9 (heap_alloc_new W _)];have hi:i<10:=yx hx;have:i=0∨i=1∨i=2∨i=3∨i=4∨i=5∨i=6∨i=7∨i=8∨i=9:=by omega
 rcases this with rfl|rfl|rfl|rfl|rfl|rfl|rfl|rfl|rfl|rfl<;>(injection hx with hx;subst hx;rfl)
section
attribute [local go_sem] qd
theorem jU (c:Int)(W:World) :
 Calls Tryz.prog 13 #[.int .i64 c] W fun e w'=>e=.returned (.tuple #[.agg #[.int .i64 0,.int .i64 0,.slice none 0 0,.string ⟨#[]⟩,.string ⟨#[]⟩],.slice none 0 0,.int .i64 c])∧Below W.heap.size W w':=by
 go_enter Tryz.func13,Tryz.ntmps13
 go_wp2_with fail;refine bodyPost_ret (v:=.tuple #[.agg #[.int .i64 0,.int .i64 0,.slice none 0 0,.string ⟨#[]⟩,.string ⟨#[]⟩],.slice none 0 0,.int .i64 c]) (by simp[results,Tryz.results13,go_sem]) rfl ?_
 exact ⟨rfl,Below.alloc1 W _⟩
set_option maxHeartbeats 4000000 in
theorem qav (s:List UInt8)(w:World)(hm:xH w)(hs:s.length≤1048576) :
 Calls Tryz.prog 5 #[.string (qa s)] w fun e w'=>zO s w e w':=by
 have hz:=qe s;have hb0:=Below.alloc1 w (.cells #[.int .i64 0,.int .i64 0,.slice none 0 0,.string ⟨#[]⟩,.string ⟨#[]⟩] 24);have hx0:=heap_alloc_new w (.cells #[.int .i64 0,.int .i64 0,.slice none 0 0,.string ⟨#[]⟩,.string ⟨#[]⟩] 24);have HSP:Hid _:=qa3 s _ (hm.later hb0) hs
 go_enter Tryz.func5,Tryz.ntmps5
 go_wp2_with fail;refine Calls.mono HSP.out ?_;rintro e w1 ⟨cap,rfl,hc3,hcl,hparts,hlt1,hb1⟩;clear HSP;go_wp2_with fail;have hsz0:(w.alloc (.cells #[.int .i64 0,.int .i64 0,.slice none 0 0,.string ⟨#[]⟩,.string ⟨#[]⟩] 24)).heap.size=w.heap.size+1:=World.size_alloc _ _;rw[hsz0]at hparts hlt1 hb1
 have hB1:Below w.heap.size w w1:=hb0.trans (hb1.mono (by omega))
 have hLI:LI w (w.heap.size+1) w1.heap.size s #[.int .i64 0,.int .i64 0,.slice none 0 0,.string ⟨#[]⟩,.string ⟨#[]⟩] (w1.alloc (.cells #[.int .i64 0,.int .i64 0,.slice none 0 0,.string ⟨#[]⟩,.string ⟨#[]⟩] 24)):=by
  refine ⟨hB1.alloc hB1.size _,⟨by omega,hlt1⟩,?_,fun i x hx=>?_,heap_alloc_new _ _⟩
  · rw[heap_alloc_old _ _ (by omega)]
    exact (hb1.block _ (by omega)).trans hx0
  · exact (World.cell?_of_block (a:=⟨w.heap.size+1,i,none⟩) (heap_alloc_old w1 _ hlt1)).trans (hparts i x hx)
 have hLI2:=hLI.later (Below.alloc1 _ (.cells #[.string ⟨#[102,105,114,115,116]⟩,.string ⟨#[108,97,115,116]⟩,.string ⟨#[98,101,102,111,114,101]⟩,.string ⟨#[97,102,116,101,114]⟩,.string ⟨#[100,101,108,101,116,101]⟩,.string ⟨#[114,101,112,108,97,99,101]⟩,.string ⟨#[118,97,108,117,101]⟩,.string ⟨#[114,101,110,97,109,101]⟩,.string ⟨#[115,101,116]⟩,.string ⟨#[100,114,111,112]⟩] 9))
 have HWD:Hid (∀ i x,wordsL[i]?=some x→((w1.alloc (.cells #[.int .i64 0,.int .i64 0,.slice none 0 0,.string ⟨#[]⟩,.string ⟨#[]⟩] 24)).alloc (.cells #[.string ⟨#[102,105,114,115,116]⟩,.string ⟨#[108,97,115,116]⟩,.string ⟨#[98,101,102,111,114,101]⟩,.string ⟨#[97,102,116,101,114]⟩,.string ⟨#[100,101,108,101,116,101]⟩,.string ⟨#[114,101,112,108,97,99,101]⟩,.string ⟨#[118,97,108,117,101]⟩,.string ⟨#[114,101,110,97,109,101]⟩,.string ⟨#[115,101,116]⟩,.string ⟨#[100,114,111,112]⟩] 9)).cell? ⟨w1.heap.size+1,i,none⟩=some (.string (qa x))):=fun i x hx=>by
  have:=qbg (w1.alloc (.cells #[.int .i64 0,.int .i64 0,.slice none 0 0,.string ⟨#[]⟩,.string ⟨#[]⟩] 24)) 9 hx;rw[World.size_alloc]at this
  exact this
 have hzb:w1.heap.size+1<((w1.alloc (.cells #[.int .i64 0,.int .i64 0,.slice none 0 0,.string ⟨#[]⟩,.string ⟨#[]⟩] 24)).alloc (.cells #[.string ⟨#[102,105,114,115,116]⟩,.string ⟨#[108,97,115,116]⟩,.string ⟨#[98,101,102,111,114,101]⟩,.string ⟨#[97,102,116,101,114]⟩,.string ⟨#[100,101,108,101,116,101]⟩,.string ⟨#[114,101,112,108,97,99,101]⟩,.string ⟨#[118,97,108,117,101]⟩,.string ⟨#[114,101,110,97,109,101]⟩,.string ⟨#[115,101,116]⟩,.string ⟨#[100,114,111,112]⟩] 9)).heap.size:=by simp
 generalize ((w1.alloc (.cells #[.int .i64 0,.int .i64 0,.slice none 0 0,.string ⟨#[]⟩,.string ⟨#[]⟩] 24)).alloc (.cells #[.string ⟨#[102,105,114,115,116]⟩,.string ⟨#[108,97,115,116]⟩,.string ⟨#[98,101,102,111,114,101]⟩,.string ⟨#[97,102,116,101,114]⟩,.string ⟨#[100,101,108,101,116,101]⟩,.string ⟨#[114,101,112,108,97,99,101]⟩,.string ⟨#[118,97,108,117,101]⟩,.string ⟨#[114,101,110,97,109,101]⟩,.string ⟨#[115,101,116]⟩,.string ⟨#[100,114,111,112]⟩] 9))=w2 at *
 obtain ⟨ob,hob⟩:∃ ob,w1.heap.size=ob:=⟨_,rfl⟩;rw[hob]at hLI2 HWD hzb ⊢
 obtain ⟨lb,hlb⟩:∃ lb,w.heap.size+1=lb:=⟨_,rfl⟩;rw[hlb]at hLI2 ⊢
 have HM:Hid _:=hm;clear hLI hparts hlt1 hb1 hB1 hsz0 hb0 hx0 hob hlb hm
 go_loopg [18] 10 (fun g i wr=>∃ j:Nat,j+g=10∧i=.int .i64 (j:Int)∧LI w lb ob s #[.int .i64 (kdF (qt s) j),.int .i64 0,.slice none 0 0,.string ⟨#[]⟩,.string ⟨#[]⟩] wr∧∀ i x,wordsL[i]?=some x→wr.cell? ⟨ob+1,i,none⟩=some (.string (qa x)))
 case atStart => exact ⟨0,by omega,rfl,hLI2,HWD.out⟩
 case round =>
  obtain ⟨j,hj,rfl,hL,hW⟩:=hrel;clear hLI2 HWD hzb
  by_cases hjl:j<10
  · have hji : (j : Int) < 10 := by omega
    obtain ⟨x,hx⟩:∃ x,wordsL[j]?=some x:=⟨wordsL[j]'hjl,List.getElem?_eq_getElem hjl⟩;have cx:=hW j x hx;have cw:=hL.parts 0 _ (Jc s);have hlen:0<(zJ s).length:=yx (Jc s);obtain ⟨p0,p1,p2,p3,p4⟩:=qX hL.box;have k0:=fH9 hL.box 0;have HL:Hid _:=hL;have HW:Hid _:=hW;clear hL hW
    by_cases he:x=qt s
    · have hb : ((qa (qt s)).toList == (qa x).toList) = true := by rw[he];exact beq_self_eq_true _
      have HK:Hid (kdF (qt s) (j+1)=(j:Int)+1):=by show _=_;rw[kdF,if_pos (by rw[hx,he])]
      go_wp2_with fail;have HL2:Hid _:=HL.out.put 0 (.int .i64 ((j:Int)+1))
      go_roundg (10-(j+1))
      case measure => omega
      case rel => exact ⟨j+1,by omega,by go_num,by rw[HK.out];exact HL2.out,fun i y hy=>(World.cell?_of_block (a:=⟨ob+1,i,none⟩) (heap_setCell_other _ ⟨ob,0,none⟩ (ob+1) _ (by show ob+1≠ob;omega))).trans (HW.out i y hy)⟩
    · have hb:((qa (qt s)).toList==(qa x).toList)=false:=by
       rw[beq_eq_false_iff_ne,qD,qD];exact fun e=>he e.symm
      have HK:Hid (kdF (qt s) (j+1)=kdF (qt s) j):=by show _=_;rw[kdF,if_neg (by rw[hx];exact fun e=>he (Option.some.inj e))]
      go_wp2_with fail
      go_roundg (10-(j+1))
      case measure => omega
      case rel => exact ⟨j+1,by omega,by go_num,by rw[HK.out];exact HL.out,HW.out⟩
  · have hjj : j = 10 := by omega
    subst hjj;rw[qfD]at hL
    obtain ⟨K,hK⟩:∃ K,zq (qt s)=K:=⟨_,rfl⟩;have hKr:=Y3 (qt s);have HLD:Hid _:=qcc s;unfold qdG at HLD
    rw[hK]at hL hKr HLD
    have HL:Hid _:=hL;obtain ⟨p0,p1,p2,p3,p4⟩:=qX hL.box;clear hL hW
    by_cases hk0:K=0
    · have HV : Hid (qL s = (noOp, [], 1)) := by show _ = _;rw[←HLD.out, if_pos (by simp[hk0])]
      subst hk0;clear HLD;have HN:Hid _:=jU 1 wr;go_wp2_with fail;refine Calls.mono HN.out ?_;rintro e wn ⟨rfl,hbn⟩;have hLn:=(HL.out).later hbn;obtain ⟨q0,q1,q2,q3,q4⟩:=qX hLn.res;have kk0:=fH9 hLn.res 0;have kk1:=fH9 hLn.res 1;have kk2:=fH9 hLn.res 2;have kk3:=fH9 hLn.res 3;have kk4:=fH9 hLn.res 4;have HLn:Hid _:=hLn;clear hLn HN hbn;go_wp2_with fail;obtain ⟨r0,r1,r2⟩:=xh HLn.out.res (.int .i64 0) (.int .i64 0) (.slice none 0 0) (.string ⟨#[]⟩) (.string ⟨#[]⟩);obtain ⟨y0,y1,y2,y3,y4⟩:=qX r0;refine bodyPost_ret (v:=.tuple #[.agg #[.int .i64 0,.int .i64 0,.slice none 0 0,.string ⟨#[]⟩,.string ⟨#[]⟩],.slice none 0 0,.int .i64 1]) (by simp[results,Tryz.results5,go_sem,y0,y1,y2,y3,y4]) rfl ?_
      exact qY HV.out (r2 (nR9 _) HLn.out.below)
    by_cases h25:2500<s.length
    · have HV : Hid (qL s = (noOp, [], 1)) := by show _ = _;rw[←HLD.out, if_pos (by simp[h25])]
      clear HLD;have HN:Hid _:=jU 1 wr;go_wp2_with fail;refine Calls.mono HN.out ?_;rintro e wn ⟨rfl,hbn⟩;have hLn:=(HL.out).later hbn;obtain ⟨q0,q1,q2,q3,q4⟩:=qX hLn.res;have kk0:=fH9 hLn.res 0;have kk1:=fH9 hLn.res 1;have kk2:=fH9 hLn.res 2;have kk3:=fH9 hLn.res 3;have kk4:=fH9 hLn.res 4;have HLn:Hid _:=hLn;clear hLn HN hbn;go_wp2_with fail;obtain ⟨r0,r1,r2⟩:=xh HLn.out.res (.int .i64 0) (.int .i64 0) (.slice none 0 0) (.string ⟨#[]⟩) (.string ⟨#[]⟩);obtain ⟨y0,y1,y2,y3,y4⟩:=qX r0;refine bodyPost_ret (v:=.tuple #[.agg #[.int .i64 0,.int .i64 0,.slice none 0 0,.string ⟨#[]⟩,.string ⟨#[]⟩],.slice none 0 0,.int .i64 1]) (by simp[results,Tryz.results5,go_sem,y0,y1,y2,y3,y4]) rfl ?_
      exact qY HV.out (r2 (nR9 _) HLn.out.below)
    have HL2:Hid _:=HLD.out;rw[if_neg (by simp[hk0,h25])]at HL2
    clear HLD;have hKb:(K==0)=false:=by rw[beq_eq_false_iff_ne];exact hk0
    have HPP:Hid (∀ W,Calls Tryz.prog 15 #[.string (qa (qA s))] W fun e w'=>∃ v,e=.returned (.tuple #[v,.int .i64 (zz (qa (qA s)))])∧qC (fun b=>W.heap.size≤b) w' v (yd (qa (qA s)))∧Below W.heap.size W w'):=fun W=>by
     have:=JP (qa (qA s)) W (by have h1:=(jr 32 s).2;have h2:=(jr 32 (qV s)).1;rw[qe];unfold maxLen;unfold qA;unfold qV at h2 ⊢;omega)
     unfold zD zE at this
     rw[←qaK]at this
     exact this
    by_cases hp1:1<(zJ s).length
    · have cp := HL.out.parts 1 _ ((Jd s).1 hp1);have hp1i:(1:Int)<((zJ s).length:Int):=by omega
      go_wp2_with fail;refine Calls.mono (HPP.out _) ?_;rintro e w3 ⟨vs,rfl,hS3,hb3⟩;obtain ⟨sa,sc,rfl,_,_⟩:=hS3.shape;obtain ⟨E,hE⟩:∃ E,zz (qa (qA s))=E:=⟨_,rfl⟩;obtain ⟨V,hV⟩:∃ V,yd (qa (qA s))=V:=⟨_,rfl⟩;rw[hE,hV]at HL2
      rw[hV]at hS3 ⊢
      rw[hE];have HS3:Hid _:=hS3;have HL3:Hid _:=HL.out.later hb3;have HB3:Hid _:=hb3;obtain ⟨u0,u1,u2,u3,u4⟩:=qX HL3.out.box;clear HPP hS3 p0 p1 p2 p3 p4 hb3
      by_cases hE0:E≠0
      · have HV : Hid (qL s = (noOp, [], E)) := by show _ = _;rw[←HL2.out, if_pos hE0]
        have hEb:(E==0)=false:=by rw[beq_eq_false_iff_ne];exact hE0
        clear HL2;have HN:Hid _:=jU E w3;go_wp2_with fail;refine Calls.mono HN.out ?_;rintro e wn ⟨rfl,hbn⟩;have hLn:=(HL3.out).later hbn;obtain ⟨q0,q1,q2,q3,q4⟩:=qX hLn.res;have kk0:=fH9 hLn.res 0;have kk1:=fH9 hLn.res 1;have kk2:=fH9 hLn.res 2;have kk3:=fH9 hLn.res 3;have kk4:=fH9 hLn.res 4;have HLn:Hid _:=hLn;clear hLn HN hbn;go_wp2_with fail;obtain ⟨r0,r1,r2⟩:=xh HLn.out.res (.int .i64 0) (.int .i64 0) (.slice none 0 0) (.string ⟨#[]⟩) (.string ⟨#[]⟩);obtain ⟨y0,y1,y2,y3,y4⟩:=qX r0;refine bodyPost_ret (v:=.tuple #[.agg #[.int .i64 0,.int .i64 0,.slice none 0 0,.string ⟨#[]⟩,.string ⟨#[]⟩],.slice none 0 0,.int .i64 E]) (by simp[results,Tryz.results5,go_sem,y0,y1,y2,y3,y4]) rfl ?_
        exact qY HV.out (r2 (nR9 _) HLn.out.below)
      have hE1:E=0:=Classical.byContradiction hE0;subst hE1;rw[if_neg (fun h=>h rfl)]at HL2
      obtain ⟨hm3,hsd⟩:=qaL s;obtain ⟨M,hM⟩:∃ M,q8 s=M:=⟨_,rfl⟩;rw[hM]at hm3 hsd HL2
      have hm3i:(((zJ s).length:Int)==3)=M:=by
       rw[←hm3]
       by_cases h3:(zJ s).length=3
       · rw[h3];rfl
       · rw[decide_eq_false h3,beq_eq_false_iff_ne];omega
      by_cases hmk:(M==decide (K=5))=true
      · have HV : Hid (qL s = (noOp, [], 1)) := by show _ = _;rw[←HL2.out, if_pos hmk]
        have hK5:(K==5)=M:=by rw[beq_iff_eq.1 hmk];by_cases h5:K=5<;>simp[h5]
        have hMM:(M==M)=true:=beq_self_eq_true M;clear HL2;have HN:Hid _:=jU 1 w3;go_wp2_with fail;refine Calls.mono HN.out ?_;rintro e wn ⟨rfl,hbn⟩;have hLn:=(HL3.out).later hbn;obtain ⟨q0,q1,q2,q3,q4⟩:=qX hLn.res;have kk0:=fH9 hLn.res 0;have kk1:=fH9 hLn.res 1;have kk2:=fH9 hLn.res 2;have kk3:=fH9 hLn.res 3;have kk4:=fH9 hLn.res 4;have HLn:Hid _:=hLn;clear hLn HN hbn;go_wp2_with fail;obtain ⟨r0,r1,r2⟩:=xh HLn.out.res (.int .i64 0) (.int .i64 0) (.slice none 0 0) (.string ⟨#[]⟩) (.string ⟨#[]⟩);obtain ⟨y0,y1,y2,y3,y4⟩:=qX r0;refine bodyPost_ret (v:=.tuple #[.agg #[.int .i64 0,.int .i64 0,.slice none 0 0,.string ⟨#[]⟩,.string ⟨#[]⟩],.slice none 0 0,.int .i64 1]) (by simp[results,Tryz.results5,go_sem,y0,y1,y2,y3,y4]) rfl ?_
        exact qY HV.out (r2 (nR9 _) HLn.out.below)
      have hmk2:(M==decide (K=5))=false:=by simpa using hmk
      rw[if_neg hmk]at HL2
      have hwrb:w.heap.size<wr.heap.size:=by have h1:=HL.out.big;have h2:=xm HL.out.box;omega
      by_cases h5:K=5
      · subst h5
        have hMf:M=false:=by cases M with
         | false=>rfl
         | true=>cases hmk2
        subst hMf;have HV:Hid (qL s=(⟨5,0,[],⟨#[]⟩,⟨#[]⟩⟩,V,0)):=HL2.out.symm;have HSF:Hid (qC (fun b=>wr.heap.size≤b) w3 (.slice sa V.length sc) V):=HS3.out
        clear HL2;have hLf:LI w lb ob s #[.int .i64 5,.int .i64 0,.slice none 0 0,.string ⟨#[]⟩,.string ⟨#[]⟩] w3:=HL3.out;obtain ⟨q0,q1,q2,q3,q4⟩:=qX hLf.res;obtain ⟨o0,o1,o2,o3,o4⟩:=qX hLf.box;have kk0:=fH9 hLf.res 0;have kk1:=fH9 hLf.res 1;have kk2:=fH9 hLf.res 2;have kk3:=fH9 hLf.res 3;have kk4:=fH9 hLf.res 4;have HLf:Hid _:=hLf;clear hLf;go_wp2_with fail;obtain ⟨r0,r1,r2⟩:=xh HLf.out.res (.int .i64 5) (.int .i64 0) (.slice none 0 0) (.string ⟨#[]⟩) (.string ⟨#[]⟩);obtain ⟨y0,y1,y2,y3,y4⟩:=qX r0;refine bodyPost_ret (v:=.tuple #[.agg #[.int .i64 5,.int .i64 0,.slice none 0 0,.string ⟨#[]⟩,.string ⟨#[]⟩],.slice sa V.length sc,.int .i64 0]) (by simp[results,Tryz.results5,go_sem,y0,y1,y2,y3,y4]) rfl ?_
        unfold zO;rw[HV.out];exact ⟨_,_,_,rfl,rfl,qb.nil _ ⟨none,0,rfl,nZ9 _⟩,qC.carry HSF.out (fun b hb=>⟨by omega,r1 b (by omega)⟩),r2 (nR9 _) HLf.out.below⟩
      have hMt:M=true:=by cases M with
       | true=>rfl
       | false=>rw[decide_eq_false h5]at hmk2;cases hmk2
      subst hMt;have hK5b:(K==5)=false:=by rw[beq_eq_false_iff_ne];exact h5
      have cs:=HL3.out.parts 2 _ (hsd rfl);have hl3:(zJ s).length=3:=of_decide_eq_true hm3;obtain ⟨D,hD⟩:∃ D,q9 s=D:=⟨_,rfl⟩
      have hDl:D.length≤2500:=by
       have h1:=(jr 32 s).2;have h2:=(jr 32 (qV s)).2;rw[←hD];unfold q9;unfold qV at h2 ⊢
       omega
      rw[hD]at cs HL2
      have hsd9:Hid ((zJ s)[2]?=some D):=by show _=_;rw[hsd rfl,hD]
      have kb2:=fH9 HL3.out.box 2;have kb3:=fH9 HL3.out.box 3;have kb4:=fH9 HL3.out.box 4;clear hm3 hsd hm3i
      by_cases h8:K=8∨K=10
      · have HV:Hid (qL s=(⟨K,0,[],qa D,⟨#[]⟩⟩,V,0)):=by
         show _=_
         rw[←HL2.out,XN h8];rfl
        have HSF:Hid (qC (fun b=>wr.heap.size≤b) (w3.setCell ⟨ob,3,none⟩ (.string (qa D))) (.slice sa V.length sc) V):=qC.carry (qC.bounded HS3.out) (fun b hb=>⟨hb.1,heap_setCell_other w3 _ b _ (by show b≠ob;have:=xm HL.out.box;omega)⟩)
        clear HL2
        rcases h8 with rfl|rfl
        · skip
          have hLf:LI w lb ob s #[.int .i64 8,.int .i64 0,.slice none 0 0,.string (qa D),.string ⟨#[]⟩] (w3.setCell ⟨ob,3,none⟩ (.string (qa D))):=HL3.out.put 3 (.string (qa D));obtain ⟨q0,q1,q2,q3,q4⟩:=qX hLf.res;obtain ⟨o0,o1,o2,o3,o4⟩:=qX hLf.box;have kk0:=fH9 hLf.res 0;have kk1:=fH9 hLf.res 1;have kk2:=fH9 hLf.res 2;have kk3:=fH9 hLf.res 3;have kk4:=fH9 hLf.res 4;have HLf:Hid _:=hLf;clear hLf;go_wp2_with fail;obtain ⟨r0,r1,r2⟩:=xh HLf.out.res (.int .i64 8) (.int .i64 0) (.slice none 0 0) (.string (qa D)) (.string ⟨#[]⟩);obtain ⟨y0,y1,y2,y3,y4⟩:=qX r0;refine bodyPost_ret (v:=.tuple #[.agg #[.int .i64 8,.int .i64 0,.slice none 0 0,.string (qa D),.string ⟨#[]⟩],.slice sa V.length sc,.int .i64 0]) (by simp[results,Tryz.results5,go_sem,y0,y1,y2,y3,y4]) rfl ?_
          unfold zO;rw[HV.out];exact ⟨_,_,_,rfl,rfl,qb.nil _ ⟨none,0,rfl,nZ9 _⟩,qC.carry HSF.out (fun b hb=>⟨by omega,r1 b (by omega)⟩),r2 (nR9 _) HLf.out.below⟩
        · skip
          have hLf:LI w lb ob s #[.int .i64 10,.int .i64 0,.slice none 0 0,.string (qa D),.string ⟨#[]⟩] (w3.setCell ⟨ob,3,none⟩ (.string (qa D))):=HL3.out.put 3 (.string (qa D));obtain ⟨q0,q1,q2,q3,q4⟩:=qX hLf.res;obtain ⟨o0,o1,o2,o3,o4⟩:=qX hLf.box;have kk0:=fH9 hLf.res 0;have kk1:=fH9 hLf.res 1;have kk2:=fH9 hLf.res 2;have kk3:=fH9 hLf.res 3;have kk4:=fH9 hLf.res 4;have HLf:Hid _:=hLf;clear hLf;go_wp2_with fail;obtain ⟨r0,r1,r2⟩:=xh HLf.out.res (.int .i64 10) (.int .i64 0) (.slice none 0 0) (.string (qa D)) (.string ⟨#[]⟩);obtain ⟨y0,y1,y2,y3,y4⟩:=qX r0;refine bodyPost_ret (v:=.tuple #[.agg #[.int .i64 10,.int .i64 0,.slice none 0 0,.string (qa D),.string ⟨#[]⟩],.slice sa V.length sc,.int .i64 0]) (by simp[results,Tryz.results5,go_sem,y0,y1,y2,y3,y4]) rfl ?_
          unfold zO;rw[HV.out];exact ⟨_,_,_,rfl,rfl,qb.nil _ ⟨none,0,rfl,nZ9 _⟩,qC.carry HSF.out (fun b hb=>⟨by omega,r1 b (by omega)⟩),r2 (nR9 _) HLf.out.below⟩
      have hK8b:(K==8)=false:=by rw[beq_eq_false_iff_ne];exact fun e=>h8 (Or.inl e)
      have hK10b:(K==10)=false:=by rw[beq_eq_false_iff_ne];exact fun e=>h8 (Or.inr e)
      by_cases h7:K=7
      · subst h7;have HTX:Hid _:=QG D w3 (xH.later HM.out HL3.out.below) (by omega)
        obtain ⟨x,c,hxc⟩:∃ x c,jj D=(x,c):=⟨_,_,rfl⟩;rw[XO,hxc]at HL2
        rw[hxc]at HTX
        dsimp only at HL2
        go_wp2_with fail;refine Calls.mono HTX.out ?_;rintro e w4 ⟨rfl,hb4⟩;have HL4:Hid _:=HL3.out.later hb4;have HSL:Hid _:=qC.later HS3.out hb4;obtain ⟨v0,v1,v2,v3,v4⟩:=qX HL4.out.box;have kc4:=fH9 HL4.out.box 4;clear HTX u0 u1 u2 u3 u4 cs kb2 kb3 kb4
        by_cases hc0:c≠0
        · have HV : Hid (qL s = (noOp, [], c)) := by show _ = _;rw[←HL2.out, if_pos hc0]
          have hcb:(c==0)=false:=by rw[beq_eq_false_iff_ne];exact hc0
          clear HL2;have HN:Hid _:=jU c (w4.setCell ⟨ob,4,none⟩ (.string (qa x)));go_wp2_with fail;refine Calls.mono HN.out ?_;rintro e wn ⟨rfl,hbn⟩;have hLn:=(HL4.out.put 4 (.string (qa x))).later hbn;obtain ⟨q0,q1,q2,q3,q4⟩:=qX hLn.res;have kk0:=fH9 hLn.res 0;have kk1:=fH9 hLn.res 1;have kk2:=fH9 hLn.res 2;have kk3:=fH9 hLn.res 3;have kk4:=fH9 hLn.res 4;have HLn:Hid _:=hLn;clear hLn HN hbn;go_wp2_with fail;obtain ⟨r0,r1,r2⟩:=xh HLn.out.res (.int .i64 0) (.int .i64 0) (.slice none 0 0) (.string ⟨#[]⟩) (.string ⟨#[]⟩);obtain ⟨y0,y1,y2,y3,y4⟩:=qX r0;refine bodyPost_ret (v:=.tuple #[.agg #[.int .i64 0,.int .i64 0,.slice none 0 0,.string ⟨#[]⟩,.string ⟨#[]⟩],.slice none 0 0,.int .i64 c]) (by simp[results,Tryz.results5,go_sem,y0,y1,y2,y3,y4]) rfl ?_
          exact qY HV.out (r2 (nR9 _) HLn.out.below)
        · have hc1 : c = 0 := Classical.byContradiction hc0;subst hc1;have HV:Hid (qL s=(⟨7,0,[],⟨#[]⟩,qa x⟩,V,0)):=by show _=_;rw[←HL2.out,if_neg (fun h=>h rfl)]
          have HSF:Hid (qC (fun b=>wr.heap.size≤b) (w4.setCell ⟨ob,4,none⟩ (.string (qa x))) (.slice sa V.length sc) V):=qC.carry (qC.bounded HSL.out) (fun b hb=>⟨hb.1,heap_setCell_other _ _ b _ (by show b≠ob;have:=xm HL.out.box;omega)⟩)
          clear HL2;have hLf:LI w lb ob s #[.int .i64 7,.int .i64 0,.slice none 0 0,.string ⟨#[]⟩,.string (qa x)] (w4.setCell ⟨ob,4,none⟩ (.string (qa x))):=HL4.out.put 4 (.string (qa x));obtain ⟨q0,q1,q2,q3,q4⟩:=qX hLf.res;obtain ⟨o0,o1,o2,o3,o4⟩:=qX hLf.box;have kk0:=fH9 hLf.res 0;have kk1:=fH9 hLf.res 1;have kk2:=fH9 hLf.res 2;have kk3:=fH9 hLf.res 3;have kk4:=fH9 hLf.res 4;have HLf:Hid _:=hLf;clear hLf;go_wp2_with fail;obtain ⟨r0,r1,r2⟩:=xh HLf.out.res (.int .i64 7) (.int .i64 0) (.slice none 0 0) (.string ⟨#[]⟩) (.string (qa x));obtain ⟨y0,y1,y2,y3,y4⟩:=qX r0;refine bodyPost_ret (v:=.tuple #[.agg #[.int .i64 7,.int .i64 0,.slice none 0 0,.string ⟨#[]⟩,.string (qa x)],.slice sa V.length sc,.int .i64 0]) (by simp[results,Tryz.results5,go_sem,y0,y1,y2,y3,y4]) rfl ?_
          unfold zO;rw[HV.out];exact ⟨_,_,_,rfl,rfl,qb.nil _ ⟨none,0,rfl,nZ9 _⟩,qC.carry HSF.out (fun b hb=>⟨by omega,r1 b (by omega)⟩),r2 (nR9 _) HLf.out.below⟩
      have hK7b:(K==7)=false:=by rw[beq_eq_false_iff_ne];exact h7
      by_cases h9:K=9
      · subst h9;have HIX:Hid (Calls Tryz.prog 17 #[.string (qa D),.int .u8 61] w3 fun e w'=>e=.returned (.int .i64 (Lib.indexByte D 61))∧w'=w3):=Tryz.strings_IndexByte (qa D) 61 w3
        rw[KK]at HL2
        go_wp2_with fail;refine Calls.mono HIX.out ?_;rintro e w4 ⟨rfl,rfl⟩;clear HIX
        by_cases hi:Lib.indexByte D 61<0
        · rw[if_pos hi]at HL2
          have HV:Hid (qL s=(noOp,[],1)):=by show _=_;rw[←HL2.out];rfl
          clear HL2;have HN:Hid _:=jU 1 w4;go_wp2_with fail;refine Calls.mono HN.out ?_;rintro e wn ⟨rfl,hbn⟩;have hLn:=(HL3.out).later hbn;obtain ⟨q0,q1,q2,q3,q4⟩:=qX hLn.res;have kk0:=fH9 hLn.res 0;have kk1:=fH9 hLn.res 1;have kk2:=fH9 hLn.res 2;have kk3:=fH9 hLn.res 3;have kk4:=fH9 hLn.res 4;have HLn:Hid _:=hLn;clear hLn HN hbn;go_wp2_with fail;obtain ⟨r0,r1,r2⟩:=xh HLn.out.res (.int .i64 0) (.int .i64 0) (.slice none 0 0) (.string ⟨#[]⟩) (.string ⟨#[]⟩);obtain ⟨y0,y1,y2,y3,y4⟩:=qX r0;refine bodyPost_ret (v:=.tuple #[.agg #[.int .i64 0,.int .i64 0,.slice none 0 0,.string ⟨#[]⟩,.string ⟨#[]⟩],.slice none 0 0,.int .i64 1]) (by simp[results,Tryz.results5,go_sem,y0,y1,y2,y3,y4]) rfl ?_
          exact qY HV.out (r2 (nR9 _) HLn.out.below)
        · obtain ⟨kk, hix⟩ : ∃ kk : Nat, Lib.indexByte D 61 = (kk : Int) := ⟨(Lib.indexByte D 61).toNat, by omega⟩
          have hkl:kk<D.length:=yx (Lib.indexByte_some hix).1;rw[if_neg hi,hix,Int.toNat_natCast]at HL2
          rw[hix];have hzD:=qe D;have hE1:(qa D).extract 0 kk=qa (D.take kk):=by rw[qU,List.drop_zero,Nat.sub_zero]
          have hE2:(qa D).extract (kk+1) D.length=qa (D.drop (kk+1)):=by rw[qU,List.take_of_length_le (by rw[List.length_drop];omega)]
          have HL5:Hid _:=HL3.out.put 3 (.string (qa (D.take kk)));have cs5:=HL5.out.parts 2 _ (hsd9.out);have HTX:Hid _:=QG (D.drop (kk+1)) (w4.setCell ⟨ob,3,none⟩ (.string (qa (D.take kk)))) (xH.later HM.out HL5.out.below) (by rw[List.length_drop];omega)
          obtain ⟨x,c,hxc⟩:∃ x c,jj (D.drop (kk+1))=(x,c):=⟨_,_,rfl⟩;rw[hxc]at HTX HL2
          dsimp only at HL2
          clear hi hix;go_wp2_with fail;refine Calls.mono HTX.out ?_;rintro e w6 ⟨rfl,hb6⟩;have HL6:Hid (LI w lb ob s #[.int .i64 9,.int .i64 0,.slice none 0 0,.string (qa (D.take kk)),.string ⟨#[]⟩] w6):=HL5.out.later hb6;have HSL:Hid (qC (fun b=>wr.heap.size≤b) w6 (.slice sa V.length sc) V):=qC.later (qC.carry (qC.bounded HS3.out) (fun b hb=>⟨hb.1,heap_setCell_other _ _ b _ (by show b≠ob;have:=xm HL.out.box;omega)⟩)) hb6
          obtain ⟨v0,v1,v2,v3,v4⟩:=qX HL6.out.box;have kc4:=fH9 HL6.out.box 4;clear HTX u0 u1 u2 u3 u4 cs cs5 kb2 kb3 kb4 hE1 hE2 HL5
          by_cases hc0:c≠0
          · have HV : Hid (qL s = (noOp, [], c)) := by show _ = _;rw[←HL2.out, if_pos hc0]
            have hcb:(c==0)=false:=by rw[beq_eq_false_iff_ne];exact hc0
            clear HL2;have HN:Hid _:=jU c (w6.setCell ⟨ob,4,none⟩ (.string (qa x)));go_wp2_with fail;refine Calls.mono HN.out ?_;rintro e wn ⟨rfl,hbn⟩;have hLn:=(HL6.out.put 4 (.string (qa x))).later hbn;obtain ⟨q0,q1,q2,q3,q4⟩:=qX hLn.res;have kk0:=fH9 hLn.res 0;have kk1:=fH9 hLn.res 1;have kk2:=fH9 hLn.res 2;have kk3:=fH9 hLn.res 3;have kk4:=fH9 hLn.res 4;have HLn:Hid _:=hLn;clear hLn HN hbn;go_wp2_with fail;obtain ⟨r0,r1,r2⟩:=xh HLn.out.res (.int .i64 0) (.int .i64 0) (.slice none 0 0) (.string ⟨#[]⟩) (.string ⟨#[]⟩);obtain ⟨y0,y1,y2,y3,y4⟩:=qX r0;refine bodyPost_ret (v:=.tuple #[.agg #[.int .i64 0,.int .i64 0,.slice none 0 0,.string ⟨#[]⟩,.string ⟨#[]⟩],.slice none 0 0,.int .i64 c]) (by simp[results,Tryz.results5,go_sem,y0,y1,y2,y3,y4]) rfl ?_
            exact qY HV.out (r2 (nR9 _) HLn.out.below)
          · have hc1 : c = 0 := Classical.byContradiction hc0;subst hc1;have HV:Hid (qL s=(⟨9,0,[],qa (D.take kk),qa x⟩,V,0)):=by show _=_;rw[←HL2.out,if_neg (fun h=>h rfl)]
            have HSF:Hid (qC (fun b=>wr.heap.size≤b) (w6.setCell ⟨ob,4,none⟩ (.string (qa x))) (.slice sa V.length sc) V):=qC.carry (qC.bounded HSL.out) (fun b hb=>⟨hb.1,heap_setCell_other _ _ b _ (by show b≠ob;have:=xm HL.out.box;omega)⟩)
            clear HL2;have hLf:LI w lb ob s #[.int .i64 9,.int .i64 0,.slice none 0 0,.string (qa (D.take kk)),.string (qa x)] (w6.setCell ⟨ob,4,none⟩ (.string (qa x))):=HL6.out.put 4 (.string (qa x));obtain ⟨q0,q1,q2,q3,q4⟩:=qX hLf.res;obtain ⟨o0,o1,o2,o3,o4⟩:=qX hLf.box;have kk0:=fH9 hLf.res 0;have kk1:=fH9 hLf.res 1;have kk2:=fH9 hLf.res 2;have kk3:=fH9 hLf.res 3;have kk4:=fH9 hLf.res 4;have HLf:Hid _:=hLf;clear hLf;go_wp2_with fail;obtain ⟨r0,r1,r2⟩:=xh HLf.out.res (.int .i64 9) (.int .i64 0) (.slice none 0 0) (.string (qa (D.take kk))) (.string (qa x));obtain ⟨y0,y1,y2,y3,y4⟩:=qX r0;refine bodyPost_ret (v:=.tuple #[.agg #[.int .i64 9,.int .i64 0,.slice none 0 0,.string (qa (D.take kk)),.string (qa x)],.slice sa V.length sc,.int .i64 0]) (by simp[results,Tryz.results5,go_sem,y0,y1,y2,y3,y4]) rfl ?_
            unfold zO;rw[HV.out];exact ⟨_,_,_,rfl,rfl,qb.nil _ ⟨none,0,rfl,nZ9 _⟩,qC.carry HSF.out (fun b hb=>⟨by omega,r1 b (by omega)⟩),r2 (nR9 _) HLf.out.below⟩
      have hK9b:(K==9)=false:=by rw[beq_eq_false_iff_ne];exact h9
      have hKd:K=1∨K=2∨K=3∨K=4∨K=6:=by omega
      have HCX:Hid _:=Jb D w3 (xH.later HM.out HL3.out.below) (by omega)
      obtain ⟨x,c,hxc⟩:∃ x c,jP D=(x,c):=⟨_,_,rfl⟩;rw[XM hKd,hxc]at HL2
      rw[hxc]at HCX
      dsimp only at HL2
      go_wp2_with fail;refine Calls.mono HCX.out ?_;rintro e w4 ⟨vx,rfl,hTX,hb4⟩;obtain ⟨xa,xc,rfl,_,_⟩:=qb.shape 9 hTX;have HTR:Hid (qb (fun b=>w3.heap.size≤b) w4 9 (.slice xa x.length xc) x):=hTX
      have HL4:Hid _:=HL3.out.later hb4;have HSL:Hid _:=qC.later HS3.out hb4;obtain ⟨v0,v1,v2,v3,v4⟩:=qX HL4.out.box;have kc2:=fH9 HL4.out.box 2;clear HCX hTX u0 u1 u2 u3 u4 cs kb2 kb3 kb4
      by_cases hc0:c≠0
      · have HV : Hid (qL s = (noOp, [], c)) := by show _ = _;rw[←HL2.out, if_pos hc0]
        have hcb:(c==0)=false:=by rw[beq_eq_false_iff_ne];exact hc0
        clear HL2;have HN:Hid _:=jU c (w4.setCell ⟨ob,2,none⟩ (.slice xa x.length xc));go_wp2_with fail;refine Calls.mono HN.out ?_;rintro e wn ⟨rfl,hbn⟩;have hLn:=(HL4.out.put 2 (.slice xa x.length xc)).later hbn;obtain ⟨q0,q1,q2,q3,q4⟩:=qX hLn.res;have kk0:=fH9 hLn.res 0;have kk1:=fH9 hLn.res 1;have kk2:=fH9 hLn.res 2;have kk3:=fH9 hLn.res 3;have kk4:=fH9 hLn.res 4;have HLn:Hid _:=hLn;clear hLn HN hbn;go_wp2_with fail;obtain ⟨r0,r1,r2⟩:=xh HLn.out.res (.int .i64 0) (.int .i64 0) (.slice none 0 0) (.string ⟨#[]⟩) (.string ⟨#[]⟩);obtain ⟨y0,y1,y2,y3,y4⟩:=qX r0;refine bodyPost_ret (v:=.tuple #[.agg #[.int .i64 0,.int .i64 0,.slice none 0 0,.string ⟨#[]⟩,.string ⟨#[]⟩],.slice none 0 0,.int .i64 c]) (by simp[results,Tryz.results5,go_sem,y0,y1,y2,y3,y4]) rfl ?_
        exact qY HV.out (r2 (nR9 _) HLn.out.below)
      · have hc1 : c = 0 := Classical.byContradiction hc0;subst hc1;have HV:Hid (qL s=(⟨K,0,x,⟨#[]⟩,⟨#[]⟩⟩,V,0)):=by show _=_;rw[←HL2.out,if_neg (fun h=>h rfl)]
        have HSF:Hid (qC (fun b=>wr.heap.size≤b) (w4.setCell ⟨ob,2,none⟩ (.slice xa x.length xc)) (.slice sa V.length sc) V):=qC.carry (qC.bounded HSL.out) (fun b hb=>⟨hb.1,heap_setCell_other _ _ b _ (by show b≠ob;have:=xm HL.out.box;omega)⟩)
        have hw3b:wr.heap.size≤w3.heap.size:=HB3.out.size;have hobw:=xm HL.out.box;clear HL2;have hLf:LI w lb ob s #[.int .i64 K,.int .i64 0,.slice xa x.length xc,.string ⟨#[]⟩,.string ⟨#[]⟩] (w4.setCell ⟨ob,2,none⟩ (.slice xa x.length xc)):=HL4.out.put 2 (.slice xa x.length xc);obtain ⟨q0,q1,q2,q3,q4⟩:=qX hLf.res;obtain ⟨o0,o1,o2,o3,o4⟩:=qX hLf.box;have kk0:=fH9 hLf.res 0;have kk1:=fH9 hLf.res 1;have kk2:=fH9 hLf.res 2;have kk3:=fH9 hLf.res 3;have kk4:=fH9 hLf.res 4;have HLf:Hid _:=hLf;clear hLf;go_wp2_with fail;obtain ⟨r0,r1,r2⟩:=xh HLf.out.res (.int .i64 K) (.int .i64 0) (.slice xa x.length xc) (.string ⟨#[]⟩) (.string ⟨#[]⟩);obtain ⟨y0,y1,y2,y3,y4⟩:=qX r0;refine bodyPost_ret (v:=.tuple #[.agg #[.int .i64 K,.int .i64 0,.slice xa x.length xc,.string ⟨#[]⟩,.string ⟨#[]⟩],.slice sa V.length sc,.int .i64 0]) (by simp[results,Tryz.results5,go_sem,y0,y1,y2,y3,y4]) rfl ?_
        unfold zO;rw[HV.out];exact ⟨_,_,_,rfl,rfl,qb.wide' (qb.carry (S:=fun b=>w3.heap.size≤b) (fun b hb=>⟨by omega,(r1 b (by omega)).trans (heap_setCell_other _ _ b _ (by show b≠ob;omega))⟩) 9 HTR.out) 2492,qC.carry HSF.out (fun b hb=>⟨by omega,r1 b (by omega)⟩),r2 (nR9 _) HLf.out.below⟩
    · have hpe := (Jd s).2 (by omega)
      have hp1i:¬ ((1:Int)<((zJ s).length:Int)):=by omega
      have hE1:zz (qa (qA s))=1:=by rw[hpe];decide
      have HV:Hid (qL s=(noOp,[],1)):=by show _=_;rw[←HL2.out,if_pos (by rw[hE1];decide),hE1]
      rw[hE1,hpe]at HPP
      have hem:(⟨#[]⟩:ByteArray)=qa []:=rfl;clear HL2;go_wp2_with fail;refine Calls.mono (HPP.out _) ?_;rintro e w3 ⟨vs,rfl,hS3,hb3⟩;obtain ⟨sa,sc,rfl,_,_⟩:=hS3.shape;clear hS3 HPP hem;have HN:Hid _:=jU 1 w3;go_wp2_with fail;refine Calls.mono HN.out ?_;rintro e wn ⟨rfl,hbn⟩;have hLn:=(HL.out.later hb3).later hbn;obtain ⟨q0,q1,q2,q3,q4⟩:=qX hLn.res;have kk0:=fH9 hLn.res 0;have kk1:=fH9 hLn.res 1;have kk2:=fH9 hLn.res 2;have kk3:=fH9 hLn.res 3;have kk4:=fH9 hLn.res 4;have HLn:Hid _:=hLn;clear hLn HN hbn;go_wp2_with fail;obtain ⟨r0,r1,r2⟩:=xh HLn.out.res (.int .i64 0) (.int .i64 0) (.slice none 0 0) (.string ⟨#[]⟩) (.string ⟨#[]⟩);obtain ⟨y0,y1,y2,y3,y4⟩:=qX r0;refine bodyPost_ret (v:=.tuple #[.agg #[.int .i64 0,.int .i64 0,.slice none 0 0,.string ⟨#[]⟩,.string ⟨#[]⟩],.slice none 0 0,.int .i64 1]) (by simp[results,Tryz.results5,go_sem,y0,y1,y2,y3,y4]) rfl ?_
      exact qY HV.out (r2 (nR9 _) HLn.out.below)
end
section
attribute [local go_sem] qd
theorem VI (S S':Nat→Prop)(n:Nat)(ca ca':Option Addr)(cc cc':Nat)(o:Opn)(w:World)(h:qb S w n (.slice ca o.content.length cc) o.content)(h':qb S' w n (.slice ca' o.content.length cc') o.content) :
 Calls Tryz.prog 6 #[.agg #[.int .i64 o.kind,.int .i64 o.target,.slice ca o.content.length cc,.string o.name,.string o.s],.agg #[.int .i64 o.kind,.int .i64 o.target,.slice ca' o.content.length cc',.string o.name,.string o.s]] w fun e w'=>e=.returned (.bool true)∧Below w.heap.size w w':=by
 have hb1:Below w.heap.size w ((w.alloc (.cells #[.int .i64 o.kind,.int .i64 o.target,.slice ca o.content.length cc,.string o.name,.string o.s] 24)).alloc (.cells #[.int .i64 o.kind,.int .i64 o.target,.slice ca' o.content.length cc',.string o.name,.string o.s] 24)):=(Below.alloc1 w _).alloc (by simp) _
 have HS:Hid _:=JY n S S' _ _ o.content _ (qb.later hb1 n h) (qb.later hb1 n h');clear h h'
 go_enter Tryz.func6,Tryz.ntmps6
 go_wp2_with fail;refine Calls.mono HS.out ?_;rintro e w2 ⟨rfl,hb2⟩;go_wp2_with fail;go_ret;exact ⟨rfl,hb1.trans (hb2.mono hb1.size)⟩
set_option maxHeartbeats 2000000 in
theorem J1 (hst:∀ W,jp W→Calls Tryz.prog 8 #[] W fun e w'=>e=.returned (.bool true)∧Below W.heap.size W w')(s:List UInt8)(w:World)(hE:jp w)(hm:xH w)(hs:s.length≤1048576) :
 Calls Tryz.prog 3 #[.string (qa s)] w fun e w'=>e=.returned (.bool true)∧Below w.heap.size w w':=by
 have HP:Hid _:=Vf s w hE (by omega)
 have HR:Hid (∀ W,Below w.heap.size w W→Calls Tryz.prog 5 #[.string (qa s)] W fun e w'=>zO s W e w'):=fun W hW=>qav s W (hm.later hW) hs
 have HST:Hid (∀ W,Below w.heap.size w W→Calls Tryz.prog 8 #[] W fun e w'=>e=.returned (.bool true)∧Below W.heap.size W w'):=fun W hW=>hst W (hE.later hW)
 unfold zO at HP HR
 obtain ⟨o,V,c,hoc⟩:∃ o V c,qL s=(o,V,c):=⟨_,_,_,rfl⟩;rw[hoc]at HP HR
 dsimp only at HP HR
 clear hE hm hoc hst
 go_enter Tryz.func3,Tryz.ntmps3
 go_wp2_with fail;refine Calls.mono HP.out ?_;rintro e w1 ⟨a1,c1,vl1,rfl,ht0,hT1,hS1,hb1⟩;obtain ⟨sa1,sc1,rfl,_,_⟩:=hS1.shape;have hbx:=Below.alloc1 w1 (.cells #[.int .i64 o.kind,.int .i64 0,.slice a1 o.content.length c1,.string o.name,.string o.s] 24);have HB1:Hid _:=hb1.trans (hbx.mono hb1.size);have hx1:=heap_alloc_new w1 (.cells #[.int .i64 o.kind,.int .i64 0,.slice a1 o.content.length c1,.string o.name,.string o.s] 24);have HT1:Hid (qb (fun b=>w.heap.size≤b) (w1.alloc (.cells #[.int .i64 o.kind,.int .i64 0,.slice a1 o.content.length c1,.string o.name,.string o.s] 24)) 2501 (.slice a1 o.content.length c1) o.content):=qb.later hbx 2501 hT1
 have HS1:Hid _:=qC.later hS1 hbx;clear HP hT1 hS1;go_wp2_with fail;refine Calls.mono (HR.out _ HB1.out) ?_;rintro e w2 ⟨a2,c2,vl2,rfl,_,hT2,hS2,hb2⟩;obtain ⟨sa2,sc2,rfl,_,_⟩:=hS2.shape;have hby:=Below.alloc1 w2 (.cells #[.int .i64 o.kind,.int .i64 0,.slice a2 o.content.length c2,.string o.name,.string o.s] 24);have hb3:=hb2.trans (hby.mono hb2.size);have HB3:Hid _:=HB1.out.trans (hb3.mono HB1.out.size);have hy3:=heap_alloc_new w2 (.cells #[.int .i64 o.kind,.int .i64 0,.slice a2 o.content.length c2,.string o.name,.string o.s] 24);have hx3:=(hb3.block _ (xm hx1)).trans hx1;have HS:Hid _:=VI _ _ 2501 a1 a2 c1 c2 o _ (qb.later hb3 2501 HT1.out) (qb.later hby 2501 hT2);rw[ht0]at HS
 have HSA:Hid _:=qC.later HS1.out hb3;have HSB:Hid _:=qC.later hS2 hby;obtain ⟨p0,p1,p2,p3,p4⟩:=qX hx3;obtain ⟨q0,q1,q2,q3,q4⟩:=qX hy3;clear HT1 HS1 hT2 hS2 HR hx1 hx3 hy3 hb2 hby hb3;go_wp2_with fail;refine Calls.mono HS.out ?_;rintro e w4 ⟨rfl,hb4⟩;have HB4:Hid _:=HB3.out.trans (hb4.mono HB3.out.size);have HSS:Hid _:=JX _ _ _ _ V w4 (qC.later HSA.out hb4) (qC.later HSB.out hb4);clear HS HSA HSB;go_wp2_with fail;refine Calls.mono HSS.out ?_;rintro e w5 ⟨rfl,hb5⟩;have HB5:Hid _:=HB4.out.trans (hb5.mono HB4.out.size);clear HSS;go_wp2_with fail;refine Calls.mono (HST.out _ HB5.out) ?_;rintro e w6 ⟨rfl,hb6⟩;go_wp2_with fail;go_ret;exact ⟨rfl,HB5.out.trans (hb6.mono HB5.out.size)⟩
end
end Go.Proofs.YtfplhcicbbhljaaGreatDoor
