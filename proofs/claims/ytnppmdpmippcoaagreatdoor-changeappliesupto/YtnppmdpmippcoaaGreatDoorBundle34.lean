/- Bundled: RefOp RefChk. What each says stands ahead of it. -/
import Derived.Test.YtnppmdpmippcoaaGreatDoorBundle32
import Derived.Test.YtnppmdpmippcoaaGreatDoorBundle33
import Derived.Test.YtnppmdpmippcoaaGreatDoorBundle28
namespace Go.Proofs.YtnppmdpmippcoaaGreatDoor
open Go.ChangeShapes Go.WideShapes Go.ChangeAt Go.RowKit Go.Maps
set_option maxRecDepth 100000
section
attribute [local go_sem] qD
def yv (k:Int):ByteArray:=⟨(qbp k).toArray⟩
theorem V6 (k:Int)(h1:1≤k)(h2:k≤10):decide (0≤Lib.indexByte (yv k).data.toList 99)=Jt k∧decide (0≤Lib.indexByte (yv k).data.toList 110)=Ju k∧decide (0≤Lib.indexByte (yv k).data.toList 116)=Jv k:=by
 have:k=1∨k=2∨k=3∨k=4∨k=5∨k=6∨k=7∨k=8∨k=9∨k=10:=by omega
 rcases this with rfl|rfl|rfl|rfl|rfl|rfl|rfl|rfl|rfl|rfl<;>exact ⟨rfl,rfl,rfl⟩
theorem YC (p:Nat)(m:ByteArray)(c:UInt8)(w:World)(x0:w.cell? ⟨p,0,none⟩=some (.string m)) :
 Calls Tryz.prog 22 #[.string ⟨#[c]⟩,.pointer (some ⟨p,0,none⟩)] w fun e w'=>e=.returned (.bool (decide (0≤Lib.indexByte m.data.toList c)))∧w'=w:=by
 have HC:Hid _:=Tryz.strings_Contains_one m c w
 go_enter Tryz.func22,Tryz.ntmps22
 go_wp2_with fail;refine Calls.mono HC.out ?_;rintro e w' ⟨rfl,hw'⟩;rw[hw'];clear hw' w';go_wp2_with fail;go_ret;exact ⟨rfl,rfl⟩
theorem yF {w:World}{b n:Nat}{D:DataW Unit}(h:w.ownsMap Tryz.prog 3 (plainElem Tryz.prog 9) b n D)(hn:n<20)(k:Int)(hk:(Lit.int .i64 k).wf=true)(l:List UInt8)(hl:l.length≤2) :
 ∃ w',(Instr.mapUpdate 47 (.map (some b)) (.int .i64 k) (.string ⟨l.toArray⟩)).run Tryz.prog w=.ok () w'∧w'.ownsMap Tryz.prog 3 (plainElem Tryz.prog 9) b (n+1) (Zz D k l)∧w.grownBy w' (some b) :=
 h.update (int_keyed Tryz.underlying3) Tryz.underlying47 (by unfold maxLen;omega) (keyOf_int_mk Tryz.underlying3 hk) (plainElem_string Tryz.underlying9 (by unfold maxLen;show l.length≤_;omega))
theorem qcc (w:World):(zeroValue 9).run Tryz.prog w=.ok (.string ⟨#[]⟩) w:=by kernel_rfl
theorem XG (w:World)(k:Int)(h1:1≤k)(h2:k≤10):∃ w1 w2 w3 w4 w5 w6 w7 w8 w9 w10:World,
 (Instr.mapUpdate 47 (.map (some w.heap.size)) (.int .i64 1) (.string ⟨#[99]⟩)).run Tryz.prog (w.alloc (.map #[] 0))=.ok () w1 ∧
 (Instr.mapUpdate 47 (.map (some w.heap.size)) (.int .i64 2) (.string ⟨#[99]⟩)).run Tryz.prog w1=.ok () w2 ∧
 (Instr.mapUpdate 47 (.map (some w.heap.size)) (.int .i64 3) (.string ⟨#[99]⟩)).run Tryz.prog w2=.ok () w3 ∧
 (Instr.mapUpdate 47 (.map (some w.heap.size)) (.int .i64 4) (.string ⟨#[99]⟩)).run Tryz.prog w3=.ok () w4 ∧
 (Instr.mapUpdate 47 (.map (some w.heap.size)) (.int .i64 5) (.string ⟨#[]⟩)).run Tryz.prog w4=.ok () w5 ∧
 (Instr.mapUpdate 47 (.map (some w.heap.size)) (.int .i64 6) (.string ⟨#[99]⟩)).run Tryz.prog w5=.ok () w6 ∧
 (Instr.mapUpdate 47 (.map (some w.heap.size)) (.int .i64 7) (.string ⟨#[116]⟩)).run Tryz.prog w6=.ok () w7 ∧
 (Instr.mapUpdate 47 (.map (some w.heap.size)) (.int .i64 8) (.string ⟨#[110]⟩)).run Tryz.prog w7=.ok () w8 ∧
 (Instr.mapUpdate 47 (.map (some w.heap.size)) (.int .i64 9) (.string ⟨#[110,116]⟩)).run Tryz.prog w8=.ok () w9 ∧
 (Instr.mapUpdate 47 (.map (some w.heap.size)) (.int .i64 10) (.string ⟨#[110]⟩)).run Tryz.prog w9=.ok () w10 ∧
 (Instr.lookup 47 (.map (some w.heap.size)) (.int .i64 k) false).run Tryz.prog w10=.ok (.string (yv k)) w10∧Below w.heap.size w w10:=by
 have m0:(w.alloc (.map #[] 0)).ownsMap Tryz.prog 3 (plainElem Tryz.prog 9) w.heap.size 0 (.map []:DataW Unit):=World.ownsMap_made _ _ _ _;have b0:Below w.heap.size w (w.alloc (.map #[] 0)):=(Below.refl _ _).alloc (nR9 _) _;obtain ⟨w1,r1,m1,g1⟩:=yF m0 (by omega) 1 (by rfl) [99] (by decide)
 have b1:=b0.grown g1 b0.size (fun j hj=>by cases hj;exact nR9 _)
 obtain ⟨w2,r2,m2,g2⟩:=yF m1 (by omega) 2 (by rfl) [99] (by decide)
 have b2:=b1.grown g2 b1.size (fun j hj=>by cases hj;exact nR9 _)
 obtain ⟨w3,r3,m3,g3⟩:=yF m2 (by omega) 3 (by rfl) [99] (by decide)
 have b3:=b2.grown g3 b2.size (fun j hj=>by cases hj;exact nR9 _)
 obtain ⟨w4,r4,m4,g4⟩:=yF m3 (by omega) 4 (by rfl) [99] (by decide)
 have b4:=b3.grown g4 b3.size (fun j hj=>by cases hj;exact nR9 _)
 obtain ⟨w5,r5,m5,g5⟩:=yF m4 (by omega) 5 (by rfl) [] (by decide)
 have b5:=b4.grown g5 b4.size (fun j hj=>by cases hj;exact nR9 _)
 obtain ⟨w6,r6,m6,g6⟩:=yF m5 (by omega) 6 (by rfl) [99] (by decide)
 have b6:=b5.grown g6 b5.size (fun j hj=>by cases hj;exact nR9 _)
 obtain ⟨w7,r7,m7,g7⟩:=yF m6 (by omega) 7 (by rfl) [116] (by decide)
 have b7:=b6.grown g7 b6.size (fun j hj=>by cases hj;exact nR9 _)
 obtain ⟨w8,r8,m8,g8⟩:=yF m7 (by omega) 8 (by rfl) [110] (by decide)
 have b8:=b7.grown g8 b7.size (fun j hj=>by cases hj;exact nR9 _)
 obtain ⟨w9,r9,m9,g9⟩:=yF m8 (by omega) 9 (by rfl) [110,116] (by decide)
 have b9:=b8.grown g9 b8.size (fun j hj=>by cases hj;exact nR9 _)
 obtain ⟨w10,r10,m10,g10⟩:=yF m9 (by omega) 10 (by rfl) [110] (by decide)
 have b10:=b9.grown g10 b9.size (fun j hj=>by cases hj;exact nR9 _)
 have hD:=qa5 k h1 h2 (.lit (.string []))
 obtain ⟨v,ps,hrun,hv⟩:=m10.lookup (int_keyed Tryz.underlying3) Tryz.underlying47 (qcc w10) (plainElem_string Tryz.underlying9 (s:=⟨#[]⟩) (by unfold maxLen;show 0≤_;omega)) (keyOf_int_mk Tryz.underlying3 (a:=k) (by
  have:k=1∨k=2∨k=3∨k=4∨k=5∨k=6∨k=7∨k=8∨k=9∨k=10:=by omega
  rcases this with rfl|rfl|rfl|rfl|rfl|rfl|rfl|rfl|rfl|rfl<;>rfl))
 obtain ⟨s,rfl,hc,_⟩:=plainElem_string_inv Tryz.underlying9 hv
 have e:s=yv k:=by
  have h3:mustD.atKey (.int .i64 k) (.lit (.string []))=.lit (.string s.data.toList):=congrArg Prod.fst hc;rw[hD]at h3
  injection h3 with h3
  injection h3 with h3
  apply ByteArray.ext
  unfold yv;rw[h3]
 subst e;exact ⟨w1,w2,w3,w4,w5,w6,w7,w8,w9,w10,r1,r2,r3,r4,r5,r6,r7,r8,r9,r10,hrun,b10⟩
set_option linter.unusedSimpArgs false in
set_option maxHeartbeats 8000000 in
theorem VS (hI:IsDocOk)(S T:Nat→Prop)(n:Nat)(v:Value)(ca:Option Addr)(cc:Nat)(ns:List Nd)(o:Opn)(w:World)(hD:QF S w v ns)(hC:qw T w (n+1) (.slice ca o.content.length cc) o.content)(hcn:cnt (n+1) o.content≤1048576)(hx:TexN (n+1) o.content)(hn:o.name.size≤maxLen)(hs:o.s.size≤maxLen) :
 Calls Tryz.prog 8 #[.agg #[v],.agg #[.int .i64 o.kind,.int .i64 o.target,.slice ca o.content.length cc,.string o.name,.string o.s]] w fun e w'=>e=.returned (.int .i64 (if qM ns then ze ns o else 1))∧Below w.heap.size w w':=by
 have HW:Hid (ze ns o=if decide (o.kind<1)||decide (10<o.kind) then 4
  else if decide (o.target<0)||decide ((ns.length:Int)≤o.target) then 3
  else if !(zH o)||!(yj o)||!(yp o) then 1
  else if decide (o.target=0)&&zj o.kind then 6
  else if je ns o.target&&!(zj o.kind)&&!(decide (o.kind=7)) then 4
  else 0):=rfl
 have HX:Hid (∀ i:Nat,je ns (i:Int)=match ns[i]? with
  | some x=>x.text
  | none=>false):=fun i=>rfl
 obtain ⟨na,nc,rfl,hnl,hnc⟩:=hD.nodes.shape
 have HCO:Hid (Jt o.kind=true→∀ W,Below w.heap.size w W→Calls Tryz.prog 24 #[.slice ca o.content.length cc] W fun e w'=>e=.returned (.bool (zH o))∧Below W.heap.size W w'):=fun h W hW=>by
  have:=ZO T n _ _ W (hC.later hW) hcn hx;rw[show zH o=q9 o.content by unfold zH;rw[if_pos h]]
  exact this
 have HCF:Hid (Jt o.kind=false→((o.content.length:Int)==0)=zH o):=fun h=>by
  rw[Kp];unfold zH;rw[h];rfl
 have HNO:Hid (Ju o.kind=true→∀ W,Calls Tryz.prog 25 #[.string o.name] W fun e w'=>e=.returned (.bool (yj o))∧Below W.heap.size W w'):=fun h W=>by
  have:=Qb o.name W hn;rw[show yj o=zI o.name by unfold yj;rw[if_pos h]]
  exact this
 have HNF:Hid (Ju o.kind=false→o.name.toList.isEmpty=yj o):=fun h=>by
  rw[Q2];unfold yj;rw[h];rfl
 have HSO:Hid (Jv o.kind=true→∀ W,Calls Tryz.prog 26 #[.string o.s] W fun e w'=>e=.returned (.bool (yp o))∧Below W.heap.size W w'):=fun h W=>by
  have:=xw o.s W hs;rw[show yp o=zx o.s by unfold yp;rw[if_pos h]]
  exact this
 have HSF:Hid (Jv o.kind=false→o.s.toList.isEmpty=yp o):=fun h=>by
  rw[Q2];unfold yp;rw[h];rfl
 generalize zH o=X1 at *
 generalize yj o=X2 at *
 generalize yp o=X3 at *
 generalize ze ns o=R at *
 obtain ⟨k,tg,ct,nm,s⟩:=o;dsimp only at *
 have hb1:Below w.heap.size w ((w.alloc (.cells #[.slice na ns.length nc] 24)).alloc (.cells #[.int .i64 k,.int .i64 tg,.slice ca ct.length cc,.string nm,.string s] 30)):=(Below.alloc1 w _).alloc (by simp) _
 have HBD:Hid (((w.alloc (.cells #[.slice na ns.length nc] 24)).alloc (.cells #[.int .i64 k,.int .i64 tg,.slice ca ct.length cc,.string nm,.string s] 30)).heap[w.heap.size]?=some (.cells #[.slice na ns.length nc] 24 (0,0))):=by
  show _=_
  rw[heap_alloc_old _ _ (by simp)];exact heap_alloc_new _ _
 have HBO:Hid (((w.alloc (.cells #[.slice na ns.length nc] 24)).alloc (.cells #[.int .i64 k,.int .i64 tg,.slice ca ct.length cc,.string nm,.string s] 30)).heap[w.heap.size+1]?=some (.cells #[.int .i64 k,.int .i64 tg,.slice ca ct.length cc,.string nm,.string s] 30 (0,0))):=by
  have:=heap_alloc_new (w.alloc (.cells #[.slice na ns.length nc] 24)) (.cells #[.int .i64 k,.int .i64 tg,.slice ca ct.length cc,.string nm,.string s] 30);rw[World.size_alloc]at this
  exact this
 have HBX:Hid (∀ W,Below ((w.alloc (.cells #[.slice na ns.length nc] 24)).alloc (.cells #[.int .i64 k,.int .i64 tg,.slice ca ct.length cc,.string nm,.string s] 30)).heap.size ((w.alloc (.cells #[.slice na ns.length nc] 24)).alloc (.cells #[.int .i64 k,.int .i64 tg,.slice ca ct.length cc,.string nm,.string s] 30)) W→W.cell? ⟨w.heap.size,0,none⟩=some (.slice na ns.length nc)∧W.cell? ⟨w.heap.size+1,0,none⟩=some (.int .i64 k)∧W.cell? ⟨w.heap.size+1,1,none⟩=some (.int .i64 tg)∧W.cell? ⟨w.heap.size+1,2,none⟩=some (.slice ca ct.length cc)∧W.cell? ⟨w.heap.size+1,3,none⟩=some (.string nm)∧W.cell? ⟨w.heap.size+1,4,none⟩=some (.string s)):=by
  intro W hW;have e1:=(hW.block _ (qA HBD.out)).trans HBD.out;obtain ⟨y0,y1,y2,y3,y4⟩:=yk ((hW.block _ (qA HBO.out)).trans HBO.out);exact ⟨by rw[cH9 e1];rfl,y0,y1,y2,y3,y4⟩
 have HID:Hid _:=hI S _ ns ((w.alloc (.cells #[.slice na ns.length nc] 24)).alloc (.cells #[.int .i64 k,.int .i64 tg,.slice ca ct.length cc,.string nm,.string s] 30)) (hD.later hb1);have HN:Hid (qK S w (.slice na ns.length nc) ns):=hD.nodes;have HBS:Hid (Below w.heap.size w ((w.alloc (.cells #[.slice na ns.length nc] 24)).alloc (.cells #[.int .i64 k,.int .i64 tg,.slice ca ct.length cc,.string nm,.string s] 30))):=hb1;unfold maxLen at hnc
 clear hD hC hcn hx hn hs hI hb1 HBD HBO
 generalize qM ns=gd at *
 go_enter Tryz.func8,Tryz.ntmps8
 go_wp2_with fail
 generalize ((w.alloc (.cells #[.slice na ns.length nc] 24)).alloc (.cells #[.int .i64 k,.int .i64 tg,.slice ca ct.length cc,.string nm,.string s] 30))=W1 at *
 refine Calls.mono HID.out ?_;rintro e w2 ⟨rfl,hb2⟩;have HB2:Hid (Below w.heap.size w w2):=HBS.out.trans (hb2.mono HBS.out.size);obtain ⟨d0,x0,x1,x2,x3,x4⟩:=HBX.out w2 hb2;clear HID;cases gd with
 | false =>
   go_wp2_with fail;go_ret;exact ⟨rfl,HB2.out⟩
 | true =>
 by_cases hk1:k<1
 · have HR : Hid (R = 4) := by show _ = _;rw[HW.out];simp[hk1]
   clear HW;go_wp2_with fail;go_ret;exact ⟨by rw[HR.out];rfl,HB2.out⟩
 by_cases hk2:10<k
 · have HR : Hid (R = 4) := by show _ = _;rw[HW.out];simp[hk2]
   clear HW;go_wp2_with fail;go_ret;exact ⟨by rw[HR.out];rfl,HB2.out⟩
 by_cases ht1:tg<0
 · have HR : Hid (R = 3) := by show _ = _;rw[HW.out];simp[hk1, hk2, ht1]
   clear HW;go_wp2_with fail;go_ret;exact ⟨by rw[HR.out];rfl,HB2.out⟩
 by_cases ht2:(ns.length:Int)≤tg
 · have HR : Hid (R = 3) := by show _ = _;rw[HW.out];simp[hk1, hk2, ht2]
   clear HW;go_wp2_with fail;go_ret;exact ⟨by rw[HR.out];rfl,HB2.out⟩
 have HR:Hid (R=if !X1||!X2||!X3 then 1 else if decide (tg=0)&&zj k then 6 else if je ns tg&&!(zj k)&&!(decide (k=7)) then 4 else 0):=by show _=_;rw[HW.out];simp[hk1,hk2,ht1,ht2]
 clear HW;obtain ⟨e1,e2,e3⟩:=V6 k (by omega) (by omega)
 have HH1:Hid _:=e1;have HH2:Hid _:=e2;have HH3:Hid _:=e3;clear e1 e2 e3;have hmm:=@run_makeMap Tryz.prog;obtain ⟨u1,u2,u3,u4,u5,u6,u7,u8,u9,u10,r1,r2,r3,r4,r5,r6,r7,r8,r9,r10,rl,hb10⟩:=XG w2 k (by omega) (by omega)
 obtain ⟨d0',x0',x1',x2',x3',x4'⟩:=HBX.out u10 (hb2.trans (hb10.mono hb2.size))
 go_upto_region 9 with fail
 have hb11:=Below.alloc1 u10 (.cells #[.string (yv k)] 9);have HMB:Hid _:=heap_alloc_new u10 (.cells #[.string (yv k)] 9);have hb211:Below w2.heap.size w2 (u10.alloc (.cells #[.string (yv k)] 9)):=hb10.trans (hb11.mono hb10.size);have HBY:Hid (∀ W,Below (u10.alloc (.cells #[.string (yv k)] 9)).heap.size (u10.alloc (.cells #[.string (yv k)] 9)) W→W.cell? ⟨w.heap.size,0,none⟩=some (.slice na ns.length nc)∧W.cell? ⟨w.heap.size+1,0,none⟩=some (.int .i64 k)∧W.cell? ⟨w.heap.size+1,1,none⟩=some (.int .i64 tg)∧W.cell? ⟨w.heap.size+1,2,none⟩=some (.slice ca ct.length cc)∧W.cell? ⟨w.heap.size+1,3,none⟩=some (.string nm)∧W.cell? ⟨w.heap.size+1,4,none⟩=some (.string s)):=fun W hW=>HBX.out W ((hb2.trans (hb211.mono hb2.size)).trans (hW.mono (Nat.le_trans hb2.size hb211.size)))
 have HBW:Hid (∀ W,Below (u10.alloc (.cells #[.string (yv k)] 9)).heap.size (u10.alloc (.cells #[.string (yv k)] 9)) W→Below w.heap.size w W):=fun W hW=>(HB2.out.trans (hb211.mono HB2.out.size)).trans (hW.mono (Nat.le_trans HB2.out.size hb211.size))
 have HC1:Hid (∀ W,Below (u10.alloc (.cells #[.string (yv k)] 9)).heap.size (u10.alloc (.cells #[.string (yv k)] 9)) W→Calls Tryz.prog 22 #[.string ⟨#[99]⟩,.pointer (some ⟨u10.heap.size,0,none⟩)] W fun e w'=>e=.returned (.bool (Jt k))∧w'=W):=by
  intro W hW;have e1:=(hW.block _ (qA HMB.out)).trans HMB.out;have h:=YC u10.heap.size (yv k) 99 W (by rw[cH9 e1];rfl)
  rw[HH1.out]at h
  exact h
 have HN1:Hid (∀ W,Below (u10.alloc (.cells #[.string (yv k)] 9)).heap.size (u10.alloc (.cells #[.string (yv k)] 9)) W→Calls Tryz.prog 22 #[.string ⟨#[110]⟩,.pointer (some ⟨u10.heap.size,0,none⟩)] W fun e w'=>e=.returned (.bool (Ju k))∧w'=W):=by
  intro W hW;have e1:=(hW.block _ (qA HMB.out)).trans HMB.out;have h:=YC u10.heap.size (yv k) 110 W (by rw[cH9 e1];rfl)
  rw[HH2.out]at h
  exact h
 have HT1:Hid (∀ W,Below (u10.alloc (.cells #[.string (yv k)] 9)).heap.size (u10.alloc (.cells #[.string (yv k)] 9)) W→Calls Tryz.prog 22 #[.string ⟨#[116]⟩,.pointer (some ⟨u10.heap.size,0,none⟩)] W fun e w'=>e=.returned (.bool (Jv k))∧w'=W):=by
  intro W hW;have e1:=(hW.block _ (qA HMB.out)).trans HMB.out;have h:=YC u10.heap.size (yv k) 116 W (by rw[cH9 e1];rfl)
  rw[HH3.out]at h
  exact h
 generalize Jt k=bc at *
 generalize Ju k=bn at *
 generalize Jv k=bt at *
 clear hb2 hb10 hb11 hb211 hmm r1 r2 r3 r4 r5 r6 r7 r8 r9 r10 rl HMB HH1 HH2 HH3 HBX d0 x0 x1 x2 x3 x4 d0' x0' x1' x2' x3' x4'
 generalize u10.alloc (.cells #[.string (yv k)] 9)=W9 at *
 generalize u10.heap.size=mb at *
 go_cut [93] from 35 to 92 (fun c wz=>c=.bool (!(X1&&X2&&X3))∧Below W9.heap.size W9 wz)
 case first =>
  have hb:Below W9.heap.size W9 W9:=Below.refl _ _;obtain ⟨d0,x0,x1,x2,x3,x4⟩:=HBY.out W9 hb;go_wp2_with fail;refine Calls.mono (HC1.out _ hb) ?_;rintro e w' ⟨rfl,hw'⟩;rw[hw'];clear hw' w';cases bc with
  | true =>
    go_wp2_with fail;refine Calls.mono (HCO.out (by trivial) _ (HBW.out _ hb)) ?_
    rintro e v1 ⟨rfl,hb9⟩
    replace hb:=hb.trans (hb9.mono hb.size)
    clear hb9 d0 x0 x1 x2 x3 x4;obtain ⟨d0,x0,x1,x2,x3,x4⟩:=HBY.out v1 hb;cases X1 with
    | false =>
      go_wp2_with fail
      go_meet
      case rel => exact ⟨rfl,hb⟩
    | true =>
      go_wp2_with fail;refine Calls.mono (HC1.out _ hb) ?_;rintro e w' ⟨rfl,hw'⟩;rw[hw'];clear hw' w';go_wp2_with fail;refine Calls.mono (HN1.out _ hb) ?_;rintro e w' ⟨rfl,hw'⟩;rw[hw'];clear hw' w';cases bn with
      | true =>
        go_wp2_with fail;refine Calls.mono (HNO.out (by trivial) _) ?_
        rintro e v2 ⟨rfl,hb9⟩
        replace hb:=hb.trans (hb9.mono hb.size)
        clear hb9 d0 x0 x1 x2 x3 x4;obtain ⟨d0,x0,x1,x2,x3,x4⟩:=HBY.out v2 hb;cases X2 with
        | false =>
          go_wp2_with fail
          go_meet
          case rel => exact ⟨rfl,hb⟩
        | true =>
          go_wp2_with fail;refine Calls.mono (HN1.out _ hb) ?_;rintro e w' ⟨rfl,hw'⟩;rw[hw'];clear hw' w';go_wp2_with fail;refine Calls.mono (HT1.out _ hb) ?_;rintro e w' ⟨rfl,hw'⟩;rw[hw'];clear hw' w';cases bt with
          | true =>
            go_wp2_with fail;refine Calls.mono (HSO.out (by trivial) _) ?_
            rintro e v3 ⟨rfl,hb9⟩
            replace hb:=hb.trans (hb9.mono hb.size)
            clear hb9 d0 x0 x1 x2 x3 x4;obtain ⟨d0,x0,x1,x2,x3,x4⟩:=HBY.out v3 hb;cases X3 with
            | false =>
              go_wp2_with fail
              go_meet
              case rel => exact ⟨rfl,hb⟩
            | true =>
              go_wp2_with fail;refine Calls.mono (HT1.out _ hb) ?_;rintro e w' ⟨rfl,hw'⟩;rw[hw'];clear hw' w';go_wp2_with fail
              go_meet
              case rel => exact ⟨rfl,hb⟩
          | false =>
            have hf2:=HSF.out (by trivial)
            go_wp2_with fail;refine Calls.mono (HT1.out _ hb) ?_;rintro e w' ⟨rfl,hw'⟩;rw[hw'];clear hw' w';cases X3 with
            | false =>
              go_wp2_with fail
              go_meet
              case rel => exact ⟨rfl,hb⟩
            | true =>
              go_wp2_with fail
              go_meet
              case rel => exact ⟨rfl,hb⟩
      | false =>
        have hf1:=HNF.out (by trivial)
        go_wp2_with fail;refine Calls.mono (HN1.out _ hb) ?_;rintro e w' ⟨rfl,hw'⟩;rw[hw'];clear hw' w';cases X2 with
        | false =>
          go_wp2_with fail
          go_meet
          case rel => exact ⟨rfl,hb⟩
        | true =>
          go_wp2_with fail;refine Calls.mono (HT1.out _ hb) ?_;rintro e w' ⟨rfl,hw'⟩;rw[hw'];clear hw' w';cases bt with
          | true =>
            go_wp2_with fail;refine Calls.mono (HSO.out (by trivial) _) ?_
            rintro e v4 ⟨rfl,hb9⟩
            replace hb:=hb.trans (hb9.mono hb.size)
            clear hb9 d0 x0 x1 x2 x3 x4;obtain ⟨d0,x0,x1,x2,x3,x4⟩:=HBY.out v4 hb;cases X3 with
            | false =>
              go_wp2_with fail
              go_meet
              case rel => exact ⟨rfl,hb⟩
            | true =>
              go_wp2_with fail;refine Calls.mono (HT1.out _ hb) ?_;rintro e w' ⟨rfl,hw'⟩;rw[hw'];clear hw' w';go_wp2_with fail
              go_meet
              case rel => exact ⟨rfl,hb⟩
          | false =>
            have hf2:=HSF.out (by trivial)
            go_wp2_with fail;refine Calls.mono (HT1.out _ hb) ?_;rintro e w' ⟨rfl,hw'⟩;rw[hw'];clear hw' w';cases X3 with
            | false =>
              go_wp2_with fail
              go_meet
              case rel => exact ⟨rfl,hb⟩
            | true =>
              go_wp2_with fail
              go_meet
              case rel => exact ⟨rfl,hb⟩
  | false =>
    have hf0:=HCF.out (by trivial)
    go_wp2_with fail;refine Calls.mono (HC1.out _ hb) ?_;rintro e w' ⟨rfl,hw'⟩;rw[hw'];clear hw' w'
    generalize ct.length=L at *
    cases L with
    | succ L =>
      obtain rfl:X1=false:=by rw[←hf0];simp;omega
      clear hf0;go_wp2_with fail
      go_meet
      case rel => exact ⟨rfl,hb⟩
    | zero =>
      obtain rfl:X1=true:=by rw[←hf0];rfl
      clear hf0;go_wp2_with fail;refine Calls.mono (HN1.out _ hb) ?_;rintro e w' ⟨rfl,hw'⟩;rw[hw'];clear hw' w';cases bn with
      | true =>
        go_wp2_with fail;refine Calls.mono (HNO.out (by trivial) _) ?_
        rintro e v5 ⟨rfl,hb9⟩
        replace hb:=hb.trans (hb9.mono hb.size)
        clear hb9 d0 x0 x1 x2 x3 x4;obtain ⟨d0,x0,x1,x2,x3,x4⟩:=HBY.out v5 hb;cases X2 with
        | false =>
          go_wp2_with fail
          go_meet
          case rel => exact ⟨rfl,hb⟩
        | true =>
          go_wp2_with fail;refine Calls.mono (HN1.out _ hb) ?_;rintro e w' ⟨rfl,hw'⟩;rw[hw'];clear hw' w';go_wp2_with fail;refine Calls.mono (HT1.out _ hb) ?_;rintro e w' ⟨rfl,hw'⟩;rw[hw'];clear hw' w';cases bt with
          | true =>
            go_wp2_with fail;refine Calls.mono (HSO.out (by trivial) _) ?_
            rintro e v6 ⟨rfl,hb9⟩
            replace hb:=hb.trans (hb9.mono hb.size)
            clear hb9 d0 x0 x1 x2 x3 x4;obtain ⟨d0,x0,x1,x2,x3,x4⟩:=HBY.out v6 hb;cases X3 with
            | false =>
              go_wp2_with fail
              go_meet
              case rel => exact ⟨rfl,hb⟩
            | true =>
              go_wp2_with fail;refine Calls.mono (HT1.out _ hb) ?_;rintro e w' ⟨rfl,hw'⟩;rw[hw'];clear hw' w';go_wp2_with fail
              go_meet
              case rel => exact ⟨rfl,hb⟩
          | false =>
            have hf2:=HSF.out (by trivial)
            go_wp2_with fail;refine Calls.mono (HT1.out _ hb) ?_;rintro e w' ⟨rfl,hw'⟩;rw[hw'];clear hw' w';cases X3 with
            | false =>
              go_wp2_with fail
              go_meet
              case rel => exact ⟨rfl,hb⟩
            | true =>
              go_wp2_with fail
              go_meet
              case rel => exact ⟨rfl,hb⟩
      | false =>
        have hf1:=HNF.out (by trivial)
        go_wp2_with fail;refine Calls.mono (HN1.out _ hb) ?_;rintro e w' ⟨rfl,hw'⟩;rw[hw'];clear hw' w';cases X2 with
        | false =>
          go_wp2_with fail
          go_meet
          case rel => exact ⟨rfl,hb⟩
        | true =>
          go_wp2_with fail;refine Calls.mono (HT1.out _ hb) ?_;rintro e w' ⟨rfl,hw'⟩;rw[hw'];clear hw' w';cases bt with
          | true =>
            go_wp2_with fail;refine Calls.mono (HSO.out (by trivial) _) ?_
            rintro e v7 ⟨rfl,hb9⟩
            replace hb:=hb.trans (hb9.mono hb.size)
            clear hb9 d0 x0 x1 x2 x3 x4;obtain ⟨d0,x0,x1,x2,x3,x4⟩:=HBY.out v7 hb;cases X3 with
            | false =>
              go_wp2_with fail
              go_meet
              case rel => exact ⟨rfl,hb⟩
            | true =>
              go_wp2_with fail;refine Calls.mono (HT1.out _ hb) ?_;rintro e w' ⟨rfl,hw'⟩;rw[hw'];clear hw' w';go_wp2_with fail
              go_meet
              case rel => exact ⟨rfl,hb⟩
          | false =>
            have hf2:=HSF.out (by trivial)
            go_wp2_with fail;refine Calls.mono (HT1.out _ hb) ?_;rintro e w' ⟨rfl,hw'⟩;rw[hw'];clear hw' w';cases X3 with
            | false =>
              go_wp2_with fail
              go_meet
              case rel => exact ⟨rfl,hb⟩
            | true =>
              go_wp2_with fail
              go_meet
              case rel => exact ⟨rfl,hb⟩
 case rest =>
  obtain ⟨rfl,hbc⟩:=hcut;obtain ⟨d0,x0,x1,x2,x3,x4⟩:=HBY.out wc hbc;have HBC:Hid (Below w.heap.size w wc):=HBW.out _ hbc;clear HC1 HN1 HT1 HCO HCF HNO HNF HSO HSF;cases hX:(X1&&X2&&X3) with
  | false =>
    have HR1:Hid (R=1):=by
     show _=_
     rw[HR.out,if_pos]
     revert hX
     cases X1<;>cases X2<;>cases X3<;>simp
    clear HR;go_wp2_with fail;go_ret;exact ⟨by rw[HR1.out];rfl,HBC.out⟩
  | true =>
  have HR2:Hid (R=if decide (tg=0)&&zj k then 6 else if je ns tg&&!(zj k)&&!(decide (k=7)) then 4 else 0):=by
   show _=_
   rw[HR.out,if_neg]
   revert hX
   cases X1<;>cases X2<;>cases X3<;>simp
  clear HR hX;obtain ⟨t,rfl⟩:∃ t:Nat,tg=(t:Int):=⟨tg.toNat,by omega⟩
  obtain ⟨x,hxi⟩:∃ x,ns[t]?=some x:=⟨ns[t]'(by omega),by simp⟩
  have HTX:Hid (je ns (t:Int)=x.text):=by show _=_;rw[HX.out t,hxi]
  obtain ⟨b,of,cap,va,vk,hv,_,_,hSb,hbw,c0,c1,c2,c3,c4,hAt,hKi⟩:=HN.out.at hxi
  have HC0:Hid _:=(World.cell?_of_block (a:=⟨b,of+t*5,none⟩) (HBC.out.block b hbw)).trans c0
  injection hv with hv1 hv2 hv3
  subst hv1 hv3;have c0':=HC0.out
  have HPL:Hid (zj k=(decide (3≤k)&&decide (k≤6))):=by
   show _=_
   have:k=1∨k=2∨k=3∨k=4∨k=5∨k=6∨k=7∨k=8∨k=9∨k=10:=by omega
   rcases this with rfl|rfl|rfl|rfl|rfl|rfl|rfl|rfl|rfl|rfl<;>rfl
  rw[HTX.out,HPL.out]at HR2
  clear HX HN c0 c1 c2 c3 c4 hAt hKi hSb hxi hv2 HTX HPL HC0
  generalize x.text=tx at *
  by_cases h0:t=0
  · subst h0;simp only[Nat.zero_mul,Nat.add_zero]at c0'
    by_cases h3:3≤k
    · have h3b : decide (3 ≤ k) = true := by simpa using h3
      have k3b:decide (k<3)=false:=by simp;omega
      by_cases h6:k≤6
      · have h6b : decide (k ≤ 6) = true := by simpa using h6
        have HR3:Hid (R=6):=by show _=_;rw[HR2.out];simp[h3,h6]
        clear HR2;go_wp2_with fail;go_ret;exact ⟨by rw[HR3.out];rfl,HBC.out⟩
      · have h6b : decide (k ≤ 6) = false := by simpa using h6
        cases tx with
        | false =>
          have HR3:Hid (R=0):=by show _=_;rw[HR2.out];simp[h3,h6]
          clear HR2;go_wp2_with fail;go_ret;exact ⟨by rw[HR3.out];rfl,HBC.out⟩
        | true =>
          by_cases k7:7<k
          · have k7b : decide (7 < k) = true := by simpa using k7
            have k7n:¬ k=7:=by omega
            have k6n:¬ k≤6:=by omega
            have HR3:Hid (R=4):=by show _=_;rw[HR2.out];simp[h3,h6,k7n,k6n]
            clear HR2;go_wp2_with fail;go_ret;exact ⟨by rw[HR3.out];rfl,HBC.out⟩
          have k7b:decide (7<k)=false:=by simpa using k7
          have k7e:k=7:=by omega
          have HR3:Hid (R=0):=by show _=_;rw[HR2.out];simp[h3,h6,k7e]
          clear HR2;go_wp2_with fail;go_ret;exact ⟨by rw[HR3.out];rfl,HBC.out⟩
    · have h3b : decide (3 ≤ k) = false := by simpa using h3
      have k3b:decide (k<3)=true:=by simp;omega
      have k7n:¬ k=7:=by omega
      cases tx with
      | false =>
        have HR3:Hid (R=0):=by show _=_;rw[HR2.out];simp[h3]
        clear HR2;go_wp2_with fail;go_ret;exact ⟨by rw[HR3.out];rfl,HBC.out⟩
      | true =>
        have HR3:Hid (R=4):=by show _=_;rw[HR2.out];simp[h3,k7n]
        clear HR2;go_wp2_with fail;go_ret;exact ⟨by rw[HR3.out];rfl,HBC.out⟩
  · have h0b : ((t : Int) == 0) = false := by simp;omega
    have h0i:¬ ((t:Int)=0):=by omega
    cases tx with
    | false =>
      have HR3:Hid (R=0):=by show _=_;rw[HR2.out];simp[h0]
      clear HR2;go_wp2_with fail;go_ret;exact ⟨by rw[HR3.out];rfl,HBC.out⟩
    | true =>
      by_cases k3:k<3
      · have k3b : decide (k < 3) = true := by simpa using k3
        have h3n:¬ 3≤k:=by omega
        have k7n:¬ k=7:=by omega
        have HR3:Hid (R=4):=by show _=_;rw[HR2.out];simp[h0,h3n,k7n]
        clear HR2;go_wp2_with fail;go_ret;exact ⟨by rw[HR3.out];rfl,HBC.out⟩
      have k3b:decide (k<3)=false:=by simpa using k3
      have h3p:3≤k:=by omega
      by_cases k7:7<k
      · have k7b : decide (7 < k) = true := by simpa using k7
        have k7n:¬ k=7:=by omega
        have k6n:¬ k≤6:=by omega
        have HR3:Hid (R=4):=by show _=_;rw[HR2.out];simp[h0,h3p,k7n,k6n]
        clear HR2;go_wp2_with fail;go_ret;exact ⟨by rw[HR3.out];rfl,HBC.out⟩
      have k7b:decide (7<k)=false:=by simpa using k7
      have hor:k≤6∨k=7:=by omega
      have HR3:Hid (R=0):=by show _=_;rw[HR2.out];rcases hor with h|h<;>simp[h0,h3p,h]
      clear HR2;go_wp2_with fail;go_ret;exact ⟨by rw[HR3.out];rfl,HBC.out⟩
end
end Go.Proofs.YtnppmdpmippcoaaGreatDoor
namespace Go.Proofs.YtnppmdpmippcoaaGreatDoor
open Go.ChangeShapes Go.WideShapes Go.ChangeAt Go.RowKit
set_option maxRecDepth 100000
section
attribute [local go_sem] qD
def Xa (n:Nat)(l:List Opn):Prop:=∀ x∈l,cnt (n+1) x.content≤1048576∧TexN (n+1) x.content∧x.name.size≤maxLen∧x.s.size≤maxLen
theorem VD {l:List Opn}{k:Nat}{y x:Opn}(h:l[k]?=some y):(l.take (k+1)).any (fun e=>agB e x)=((l.take k).any (fun e=>agB e x)||agB y x):=by
 have hk:=qy h;have e:l[k]=y:=by simpa[hk] using h
 rw[List.take_succ_eq_append_getElem hk,e,List.any_append];simp
set_option linter.unusedSimpArgs false in
set_option maxHeartbeats 4000000 in
theorem Yy (hI:IsDocOk)(S T:Nat→Prop)(n:Nat)(vd v:Value)(ns:List Nd)(l:List Opn)(w:World)(hD:QF S w vd ns)(hO:Ops T w (n+1) v l)(hf:Xa n l) :
 Calls Tryz.prog 12 #[.agg #[vd],v] w fun e w'=>e=.returned (.int .i64 (qW ns l))∧Below w.heap.size w w':=by
 obtain ⟨na,nc,rfl,hnl,hnc⟩:=hD.nodes.shape;obtain ⟨la,lc,rfl,hll,hlc⟩:=hO.shape;have HCK:Hid (qW ns l=if !qM ns then 1 else if 20<l.length then 2 else if zm ns l≠0 then zm ns l else if twiceB l then 5 else 0):=rfl
 have hb1:=Below.alloc1 w (.cells #[.slice na ns.length nc] 24)
 have HBX:Hid (∀ W,Below (w.alloc (.cells #[.slice na ns.length nc] 24)).heap.size (w.alloc (.cells #[.slice na ns.length nc] 24)) W→W.cell? ⟨w.heap.size,0,none⟩=some (.slice na ns.length nc)):=by
  intro W hW;have h0:=heap_alloc_new w (.cells #[.slice na ns.length nc] 24);have e1:=(hW.block _ (qA h0)).trans h0;rw[cH9 e1];rfl
 have HID:Hid _:=hI S _ ns (w.alloc (.cells #[.slice na ns.length nc] 24)) (hD.later hb1);have HD:Hid (QF S w (.slice na ns.length nc) ns):=hD;have HO:Hid (Ops T w (n+1) (.slice la l.length lc) l):=hO;have HF:Hid (Xa n l):=hf;have HBS:Hid _:=hb1;have HIO:Hid IsDocOk:=hI;unfold maxLen at hnc hlc
 clear hD hO hf hb1 hI;cases hg:qM ns with
 | false =>
   rw[hg]at HCK HID
   have HR:Hid (qW ns l=1):=by show _=_;rw[HCK.out];rfl
   clear HCK hg
   go_enter Tryz.func12,Tryz.ntmps12
   go_wp2_with fail;refine Calls.mono HID.out ?_;rintro e w2 ⟨rfl,hb2⟩;go_wp2_with fail;go_ret;exact ⟨by rw[HR.out];rfl,HBS.out.trans (hb2.mono HBS.out.size)⟩
 | true =>
 rw[hg]at HCK HID
 have HG:Hid (qM ns=true):=hg;clear hg
 go_enter Tryz.func12,Tryz.ntmps12
 go_wp2_with fail
 generalize w.alloc (.cells #[.slice na ns.length nc] 24)=W1 at *
 refine Calls.mono HID.out ?_;rintro e w2 ⟨rfl,hb2⟩;have HW:Hid (∀ W,Below W1.heap.size W1 W→Below w.heap.size w W):=fun W hW=>HBS.out.trans (hW.mono HBS.out.size)
 clear HID
 by_cases h20:20<l.length
 · have HR : Hid (qW ns l = 2) := by show _ = _;rw[HCK.out];simp[h20]
   have h20i:(20:Int)<(l.length:Int):=by omega
   clear HCK;go_wp2_with fail;go_ret;exact ⟨by rw[HR.out];rfl,HW.out _ hb2⟩
 have HCK2:Hid (qW ns l=if zm ns l≠0 then zm ns l else if twiceB l then 5 else 0):=by show _=_;rw[HCK.out];simp[h20]
 have h20i:¬ ((20:Int)<(l.length:Int)):=by omega
 clear HCK;go_wp2_with fail
 go_loopg [18] l.length (fun g i wr=>∃ k:Nat,k+g=l.length∧i=.int .i64 (k:Int)∧zm ns (l.take k)=0∧Below W1.heap.size W1 wr)
 case atStart => exact ⟨0,by omega,rfl,rfl,hb2⟩
 case round =>
  obtain ⟨k,hk,rfl,hfk,hB⟩:=hrel;have HFK:Hid _:=hfk;have HB:Hid (Below W1.heap.size W1 wr):=hB;clear hfk hB
  by_cases hlt:k<l.length
  · have hlti : (k : Int) < (l.length : Int) := by omega
    obtain ⟨x,hx⟩:∃ x,l[k]?=some x:=⟨l[k],by simp[hlt]⟩
    obtain ⟨b,o,cap',ca,cc,hv,_,_,c0,c1,c2,c3,c4,hT⟩:=(HO.out.later (HW.out _ HB.out)).at hx
    injection hv with hv1 hv2 hv3
    subst hv1 hv3;obtain ⟨f1,f2,f3,f4⟩:=HF.out x (List.mem_of_getElem? hx);obtain ⟨g1,g2⟩:=Jo HFK.out hx;have HG1:Hid _:=g1;have HG2:Hid _:=g2;have hb3:=Below.alloc1 wr (.cells #[.int .i64 x.kind,.int .i64 x.target,.slice ca x.content.length cc,.string x.name,.string x.s] 30);have hB3:=HB.out.trans (hb3.mono HB.out.size);have HIS:Hid _:=VS HIO.out S T n _ ca cc ns x _ (HD.out.later (HW.out _ hB3)) (qw.later hb3 (n+1) hT) f1 f2 f3 f4;rw[HG.out,if_pos rfl]at HIS
    have HB3:Hid _:=hB3;have d0:=HBX.out _ hB3;clear hT hx hv2 g1 g2 hb3 hB3 f1 f2 f3 f4
    generalize ze ns x=R at *
    go_wp2_with fail;refine Calls.mono HIS.out ?_;rintro e w4 ⟨rfl,hb4⟩;have HB4:Hid (Below W1.heap.size W1 w4):=HB3.out.trans (hb4.mono HB3.out.size)
    by_cases hR:R=0
    · subst hR;clear HG2;go_wp2_with fail
      go_roundg (l.length-(k+1))
      case measure => omega
      case rel => exact ⟨k+1,by omega,by go_num,HG1.out,HB4.out⟩
    · have hRb : (R == 0) = false := by simpa using hR
      have HR:Hid (qW ns l=R):=by
       show _=_
       rw[HCK2.out,HG2.out hR,if_pos hR]
      clear HG1 HG2 HCK2 hR;go_wp2_with fail;go_ret;exact ⟨by rw[HR.out];rfl,HW.out _ HB4.out⟩
  · have hlti : ¬ ((k : Int) < (l.length : Int)) := by omega
    have hkk:k=l.length:=by omega
    subst hkk;rw[List.take_length]at HFK
    have HCK3:Hid (qW ns l=if twiceB l then 5 else 0):=by show _=_;rw[HCK2.out,HFK.out];rfl
    have hb2':=HB.out;clear HCK2 HFK HIO HG HD;go_wp2_with fail
    go_loopg [31] l.length (fun g i wr=>∃ k:Nat,k+g=l.length∧i=.int .i64 (k:Int)∧twiceB (l.take k)=false∧Below W1.heap.size W1 wr)
    case atStart => exact ⟨0,by omega,rfl,rfl,HB.out⟩
    case round =>
     clear HB hb2' hlti;obtain ⟨i,hi,rfl,hti,hB⟩:=hrel;have HTI:Hid _:=hti;have HB:Hid (Below W1.heap.size W1 wr):=hB;clear hti hB
     by_cases hlt:i<l.length
     · have hlti : (i : Int) < (l.length : Int) := by omega
       obtain ⟨x,hx⟩:∃ x,l[i]?=some x:=⟨l[i],by simp[hlt]⟩
       have HX:Hid (l[i]?=some x):=hx;have HTK:Hid _:=twice_take l i x hx;clear hx;go_wp2_with fail
       go_loopg [35] i (fun g j wr=>∃ k:Nat,k+g=i∧j=.int .i64 (k:Int)∧(l.take k).any (fun e=>agB e x)=false∧Below W1.heap.size W1 wr)
       case atStart => exact ⟨0,by omega,rfl,rfl,HB.out⟩
       case round =>
        clear HB;obtain ⟨k,hk,rfl,hak,hB⟩:=hrel;have HAK:Hid _:=hak;have HB:Hid (Below W1.heap.size W1 wr):=hB;clear hak hB
        by_cases hki:k<i
        · have hkii : (k : Int) < (i : Int) := by omega
          have hkl:(k:Int)<(l.length:Int):=by omega
          obtain ⟨y,hy⟩:∃ y,l[k]?=some y:=⟨l[k]'(by omega),by simp⟩
          have HOW:Hid (Ops T wr (n+1) (.slice la l.length lc) l):=HO.out.later (HW.out _ HB.out);obtain ⟨b,o,cap',ca,cc,hv,_,hbl,c0,c1,c2,c3,c4,_⟩:=HOW.out.at HX.out
          injection hv with hv1 hv2 hv3
          subst hv1 hv3;obtain ⟨b',o',cap'',ca',cc',hv',_,_,e0,e1,e2,e3,e4,_⟩:=HOW.out.at hy
          injection hv' with hv1' hv2' hv3'
          injection hv1' with hv1'
          injection hv1' with hq1 hq2 _
          subst hq1 hq2;have HAT:Hid _:=VD (x:=x) hy;have HSY:Hid _:=Vy x y;have HAG:Hid (∀ W,Calls Tryz.prog 10 #[.agg #[.int .i64 x.kind,.int .i64 x.target,.slice ca x.content.length cc,.string x.name,.string x.s],.agg #[.int .i64 y.kind,.int .i64 y.target,.slice ca' y.content.length cc',.string y.name,.string y.s]] W fun e w'=>e=.returned (.bool (agB x y))∧Below W.heap.size W w'):=fun W=>ZN x y _ _ W
          have HCC:Hid (∀ W,Below wr.heap.size wr W→(W.cell? ⟨b,o+i*5,none⟩=some (.int .i64 x.kind)∧W.cell? ⟨b,o+i*5+1,none⟩=some (.int .i64 x.target)∧W.cell? ⟨b,o+i*5+2,none⟩=some (.slice ca x.content.length cc)∧W.cell? ⟨b,o+i*5+3,none⟩=some (.string x.name)∧W.cell? ⟨b,o+i*5+4,none⟩=some (.string x.s))∧W.cell? ⟨b,o+k*5,none⟩=some (.int .i64 y.kind)∧W.cell? ⟨b,o+k*5+1,none⟩=some (.int .i64 y.target)∧W.cell? ⟨b,o+k*5+2,none⟩=some (.slice ca' y.content.length cc')∧W.cell? ⟨b,o+k*5+3,none⟩=some (.string y.name)∧W.cell? ⟨b,o+k*5+4,none⟩=some (.string y.s)):=by
           intro W hW;have q:∀ z,W.cell? ⟨b,z,none⟩=wr.cell? ⟨b,z,none⟩:=fun z=>World.cell?_of_block (a:=⟨b,z,none⟩) (hW.block b hbl)
           exact ⟨⟨(q _).trans c0,(q _).trans c1,(q _).trans c2,(q _).trans c3,(q _).trans c4⟩,(q _).trans e0,(q _).trans e1,(q _).trans e2,(q _).trans e3,(q _).trans e4⟩
          have hbn:Below wr.heap.size wr wr.drew:=(Below.refl _ wr).drew;clear hv2 hv2' hv3' hy c0 c1 c2 c3 c4 e0 e1 e2 e3 e4 HOW;go_wp2_with fail
          go_region_held3 (fun W:World=>(W.cell? ⟨b,o+i*5,none⟩=some (.int .i64 x.kind)∧W.cell? ⟨b,o+i*5+1,none⟩=some (.int .i64 x.target)∧W.cell? ⟨b,o+i*5+2,none⟩=some (.slice ca x.content.length cc)∧W.cell? ⟨b,o+i*5+3,none⟩=some (.string x.name)∧W.cell? ⟨b,o+i*5+4,none⟩=some (.string x.s))∧W.cell? ⟨b,o+k*5,none⟩=some (.int .i64 y.kind)∧W.cell? ⟨b,o+k*5+1,none⟩=some (.int .i64 y.target)∧W.cell? ⟨b,o+k*5+2,none⟩=some (.slice ca' y.content.length cc')∧W.cell? ⟨b,o+k*5+3,none⟩=some (.string y.name)∧W.cell? ⟨b,o+k*5+4,none⟩=some (.string y.s))
           (with_reducible exact HCC.out _ hbn)
           ((go_at_call 10;refine (Calls.mono (HAG.out _) ?_);rintro e w5 ⟨rfl,hb5⟩;have hbn:=hbn.trans (hb5.mono hbn.size)))
          have HB5:Hid (Below W1.heap.size W1 w5):=HB.out.trans (hbn.mono HB.out.size);cases hq:agB x y with
          | true =>
            have HR:Hid (qW ns l=5):=by
             show _=_
             rw[HCK3.out,if_pos];refine twice_mono l (i+1) ?_;rw[HTK.out];have h1:(l.take (k+1)).any (fun e=>agB e x)=true:=by rw[HAT.out,←HSY.out,hq];simp
             have h2:(l.take i).any (fun e=>agB e x)=true:=by
              rw[List.any_eq_true]at h1 ⊢
              obtain ⟨z,hz,hz2⟩:=h1;exact ⟨z,(List.take_sublist_take_left (by omega)).subset hz,hz2⟩
             rw[h2];simp
            clear HCC HAG HAT HSY HTK HCK3 HAK HTI;go_wp2_with fail;go_ret;exact ⟨by rw[HR.out];rfl,HW.out _ HB5.out⟩
          | false =>
            have HA2:Hid ((l.take (k+1)).any (fun e=>agB e x)=false):=by
             show _=_
             rw[HAT.out,←HSY.out,hq,HAK.out];rfl
            clear HCC HAG HAT HSY;go_wp2_with fail
            go_roundg (i-(k+1))
            case measure => omega
            case rel => exact ⟨k+1,by omega,by go_num,HA2.out,HB5.out⟩
        · have hkii : ¬ ((k : Int) < (i : Int)) := by omega
          have hkk:k=i:=by omega
          subst hkk;have HT2:Hid (twiceB (l.take (k+1))=false):=by show _=_;rw[HTK.out,HTI.out,HAK.out];rfl
          clear HTK HAK HTI;go_wp2_with fail
          go_roundg (l.length-(k+1))
          case measure => omega
          case rel => exact ⟨k+1,by omega,by go_num,HT2.out,HB.out⟩
     · have hlti : ¬ ((i : Int) < (l.length : Int)) := by omega
       have hii:i=l.length:=by omega
       subst hii;rw[List.take_length]at HTI
       have HR:Hid (qW ns l=0):=by show _=_;rw[HCK3.out,HTI.out];rfl
       clear HTI HCK3;go_wp2_with fail;go_ret;exact ⟨by rw[HR.out];rfl,HW.out _ HB.out⟩
end
end Go.Proofs.YtnppmdpmippcoaaGreatDoor
