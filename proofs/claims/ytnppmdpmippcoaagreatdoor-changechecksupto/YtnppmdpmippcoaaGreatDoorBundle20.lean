/- Bundled: RefOp RefAg OpsL RefChk ApplyM ZipM KeepM NGrow BenchW TreeO CopyD SameN SameDR TreeC. What each says stands ahead of it. -/
import Derived.Test.YtnppmdpmippcoaaGreatDoorBundle01
import Derived.Test.YtnppmdpmippcoaaGreatDoorBundle02
import Derived.Test.YtnppmdpmippcoaaGreatDoorBundle17
import Derived.Test.YtnppmdpmippcoaaGreatDoorBundle19
import Derived.Deep.CutRange
namespace Go.Proofs.YtnppmdpmippcoaaGreatDoor
open Go.ChangeShapes Go.WideShapes Go.ChangeAt Go.RowKit Go.Maps
set_option maxRecDepth 100000
section
attribute [local go_sem] qk
def zQ (k:Int):ByteArray:=⟨(VO k).toArray⟩
theorem KE (k:Int)(h1:1≤k)(h2:k≤10):decide (0≤Lib.indexByte (zQ k).data.toList 99)=Yx k∧decide (0≤Lib.indexByte (zQ k).data.toList 110)=Yy k∧decide (0≤Lib.indexByte (zQ k).data.toList 116)=Yz k:=by
 have:k=1∨k=2∨k=3∨k=4∨k=5∨k=6∨k=7∨k=8∨k=9∨k=10:=by omega
 rcases this with rfl|rfl|rfl|rfl|rfl|rfl|rfl|rfl|rfl|rfl<;>exact ⟨rfl,rfl,rfl⟩
theorem ZK (p:Nat)(m:ByteArray)(c:UInt8)(w:World)(x0:w.cell? ⟨p,0,none⟩=some (.string m)) :
 Calls Tryz.prog 22 #[.string ⟨#[c]⟩,.pointer (some ⟨p,0,none⟩)] w fun e w'=>e=.returned (.bool (decide (0≤Lib.indexByte m.data.toList c)))∧w'=w:=by
 have HC:Hid _:=Tryz.strings_Contains_one m c w
 go_enter Tryz.func22,Tryz.ntmps22
 go_wp2_with fail;refine Calls.mono HC.out ?_;rintro e w' ⟨rfl,hw'⟩;rw[hw'];clear hw' w';go_wp2_with fail;go_ret;exact ⟨rfl,rfl⟩
theorem zY {w:World}{b n:Nat}{D:DataW Unit}(h:w.ownsMap Tryz.prog 3 (plainElem Tryz.prog 9) b n D)(hn:n<20)(k:Int)(hk:(Lit.int .i64 k).wf=true)(l:List UInt8)(hl:l.length≤2) :
 ∃ w',(Instr.mapUpdate 47 (.map (some b)) (.int .i64 k) (.string ⟨l.toArray⟩)).run Tryz.prog w=.ok () w'∧w'.ownsMap Tryz.prog 3 (plainElem Tryz.prog 9) b (n+1) (QQ D k l)∧w.grownBy w' (some b) :=
 h.update (int_keyed Tryz.underlying3) Tryz.underlying47 (by unfold maxLen;omega) (keyOf_int_mk Tryz.underlying3 hk) (plainElem_string Tryz.underlying9 (by unfold maxLen;show l.length≤_;omega))
theorem qat (w:World):(zeroValue 9).run Tryz.prog w=.ok (.string ⟨#[]⟩) w:=by kernel_rfl
theorem Jw (w:World)(k:Int)(h1:1≤k)(h2:k≤10):∃ w1 w2 w3 w4 w5 w6 w7 w8 w9 w10:World,
 (Instr.mapUpdate 47 (.map (some w.heap.size)) (.int .i64 1) (.string ⟨#[99]⟩)).run Tryz.prog (w.alloc (.map #[] 0))=.ok () w1 ∧
 (Instr.mapUpdate 47 (.map (some w.heap.size)) (.int .i64 2) (.string ⟨#[99]⟩)).run Tryz.prog w1=.ok () w2 ∧
 (Instr.mapUpdate 47 (.map (some w.heap.size)) (.int .i64 3) (.string ⟨#[99]⟩)).run Tryz.prog w2=.ok () w3 ∧
 (Instr.mapUpdate 47 (.map (some w.heap.size)) (.int .i64 4) (.string ⟨#[99]⟩)).run Tryz.prog w3=.ok () w4 ∧
 (Instr.mapUpdate 47 (.map (some w.heap.size)) (.int .i64 5) (.string ⟨#[]⟩)).run Tryz.prog w4=.ok () w5 ∧
 (Instr.mapUpdate 47 (.map (some w.heap.size)) (.int .i64 6) (.string ⟨#[99]⟩)).run Tryz.prog w5=.ok () w6 ∧
 (Instr.mapUpdate 47 (.map (some w.heap.size)) (.int .i64 7) (.string ⟨#[116]⟩)).run Tryz.prog w6=.ok () w7 ∧
 (Instr.mapUpdate 47 (.map (some w.heap.size)) (.int .i64 8) (.string ⟨#[110]⟩)).run Tryz.prog w7=.ok () w8 ∧
 (Instr.mapUpdate 47 (.map (some w.heap.size)) (.int .i64 9) (.string ⟨#[110,116]⟩)).run Tryz.prog w8=.ok () w9 ∧
 (Instr.mapUpdate 47 (.map (some w.heap.size)) (.int .i64 10) (.string ⟨#[110]⟩)).run Tryz.prog w9=.ok () w10 ∧
 (Instr.lookup 47 (.map (some w.heap.size)) (.int .i64 k) false).run Tryz.prog w10=.ok (.string (zQ k)) w10∧Below w.heap.size w w10:=by
 have m0:(w.alloc (.map #[] 0)).ownsMap Tryz.prog 3 (plainElem Tryz.prog 9) w.heap.size 0 (.map []:DataW Unit):=World.ownsMap_made _ _ _ _;have b0:Below w.heap.size w (w.alloc (.map #[] 0)):=(Below.refl _ _).alloc (nR9 _) _;obtain ⟨w1,r1,m1,g1⟩:=zY m0 (by omega) 1 (by rfl) [99] (by decide)
 have b1:=b0.grown g1 b0.size (fun j hj=>by cases hj;exact nR9 _)
 obtain ⟨w2,r2,m2,g2⟩:=zY m1 (by omega) 2 (by rfl) [99] (by decide)
 have b2:=b1.grown g2 b1.size (fun j hj=>by cases hj;exact nR9 _)
 obtain ⟨w3,r3,m3,g3⟩:=zY m2 (by omega) 3 (by rfl) [99] (by decide)
 have b3:=b2.grown g3 b2.size (fun j hj=>by cases hj;exact nR9 _)
 obtain ⟨w4,r4,m4,g4⟩:=zY m3 (by omega) 4 (by rfl) [99] (by decide)
 have b4:=b3.grown g4 b3.size (fun j hj=>by cases hj;exact nR9 _)
 obtain ⟨w5,r5,m5,g5⟩:=zY m4 (by omega) 5 (by rfl) [] (by decide)
 have b5:=b4.grown g5 b4.size (fun j hj=>by cases hj;exact nR9 _)
 obtain ⟨w6,r6,m6,g6⟩:=zY m5 (by omega) 6 (by rfl) [99] (by decide)
 have b6:=b5.grown g6 b5.size (fun j hj=>by cases hj;exact nR9 _)
 obtain ⟨w7,r7,m7,g7⟩:=zY m6 (by omega) 7 (by rfl) [116] (by decide)
 have b7:=b6.grown g7 b6.size (fun j hj=>by cases hj;exact nR9 _)
 obtain ⟨w8,r8,m8,g8⟩:=zY m7 (by omega) 8 (by rfl) [110] (by decide)
 have b8:=b7.grown g8 b7.size (fun j hj=>by cases hj;exact nR9 _)
 obtain ⟨w9,r9,m9,g9⟩:=zY m8 (by omega) 9 (by rfl) [110,116] (by decide)
 have b9:=b8.grown g9 b8.size (fun j hj=>by cases hj;exact nR9 _)
 obtain ⟨w10,r10,m10,g10⟩:=zY m9 (by omega) 10 (by rfl) [110] (by decide)
 have b10:=b9.grown g10 b9.size (fun j hj=>by cases hj;exact nR9 _)
 have hD:=Vv k h1 h2 (.lit (.string []))
 obtain ⟨v,ps,hrun,hv⟩:=m10.lookup (int_keyed Tryz.underlying3) Tryz.underlying47 (qat w10) (plainElem_string Tryz.underlying9 (s:=⟨#[]⟩) (by unfold maxLen;show 0≤_;omega)) (keyOf_int_mk Tryz.underlying3 (a:=k) (by
  have:k=1∨k=2∨k=3∨k=4∨k=5∨k=6∨k=7∨k=8∨k=9∨k=10:=by omega
  rcases this with rfl|rfl|rfl|rfl|rfl|rfl|rfl|rfl|rfl|rfl<;>rfl))
 obtain ⟨s,rfl,hc,_⟩:=plainElem_string_inv Tryz.underlying9 hv
 have e:s=zQ k:=by
  have h3:mustD.atKey (.int .i64 k) (.lit (.string []))=.lit (.string s.data.toList):=congrArg Prod.fst hc;rw[hD]at h3
  injection h3 with h3
  injection h3 with h3
  apply ByteArray.ext
  unfold zQ;rw[h3]
 subst e;exact ⟨w1,w2,w3,w4,w5,w6,w7,w8,w9,w10,r1,r2,r3,r4,r5,r6,r7,r8,r9,r10,hrun,b10⟩
set_option linter.unusedSimpArgs false in
set_option maxHeartbeats 8000000 in
theorem YG (hI:IsDocOk)(S T:Nat→Prop)(n:Nat)(v:Value)(ca:Option Addr)(cc:Nat)(ns:List Nd)(o:Opn)(w:World)(hD:Qn S w v ns)(hC:qd T w (n+1) (.slice ca o.content.length cc) o.content)(hcn:cnt (n+1) o.content≤1048576)(hx:TexN (n+1) o.content)(hn:o.name.size≤maxLen)(hs:o.s.size≤maxLen) :
 Calls Tryz.prog 8 #[.agg #[v],.agg #[.int .i64 o.kind,.int .i64 o.target,.slice ca o.content.length cc,.string o.name,.string o.s]] w fun e w'=>e=.returned (.int .i64 (if qu ns then qE ns o else 1))∧Below w.heap.size w w':=by
 have HW:Hid (qE ns o=if decide (o.kind<1)||decide (10<o.kind) then 4
  else if decide (o.target<0)||decide ((ns.length:Int)≤o.target) then 3
  else if !(zi o)||!(zK o)||!(zT o) then 1
  else if decide (o.target=0)&&qL o.kind then 6
  else if yx ns o.target&&!(qL o.kind)&&!(decide (o.kind=7)) then 4
  else 0):=rfl
 have HX:Hid (∀ i:Nat,yx ns (i:Int)=match ns[i]? with
  | some x=>x.text
  | none=>false):=fun i=>rfl
 obtain ⟨na,nc,rfl,hnl,hnc⟩:=hD.nodes.shape
 have HCO:Hid (Yx o.kind=true→∀ W,Below w.heap.size w W→Calls Tryz.prog 24 #[.slice ca o.content.length cc] W fun e w'=>e=.returned (.bool (zi o))∧Below W.heap.size W w'):=fun h W hW=>by
  have:=Q3 T n _ _ W (hC.later hW) hcn hx;rw[show zi o=qI o.content by unfold zi;rw[if_pos h]]
  exact this
 have HCF:Hid (Yx o.kind=false→((o.content.length:Int)==0)=zi o):=fun h=>by
  rw[Xa];unfold zi;rw[h];rfl
 have HNO:Hid (Yy o.kind=true→∀ W,Calls Tryz.prog 25 #[.string o.name] W fun e w'=>e=.returned (.bool (zK o))∧Below W.heap.size W w'):=fun h W=>by
  have:=xr o.name W hn;rw[show zK o=zo o.name by unfold zK;rw[if_pos h]]
  exact this
 have HNF:Hid (Yy o.kind=false→o.name.toList.isEmpty=zK o):=fun h=>by
  rw[Qq];unfold zK;rw[h];rfl
 have HSO:Hid (Yz o.kind=true→∀ W,Calls Tryz.prog 26 #[.string o.s] W fun e w'=>e=.returned (.bool (zT o))∧Below W.heap.size W w'):=fun h W=>by
  have:=jI o.s W hs;rw[show zT o=zf o.s by unfold zT;rw[if_pos h]]
  exact this
 have HSF:Hid (Yz o.kind=false→o.s.toList.isEmpty=zT o):=fun h=>by
  rw[Qq];unfold zT;rw[h];rfl
 generalize zi o=X1 at *
 generalize zK o=X2 at *
 generalize zT o=X3 at *
 generalize qE ns o=R at *
 obtain ⟨k,tg,ct,nm,s⟩:=o;dsimp only at *
 have hb1:Below w.heap.size w ((w.alloc (.cells #[.slice na ns.length nc] 24)).alloc (.cells #[.int .i64 k,.int .i64 tg,.slice ca ct.length cc,.string nm,.string s] 30)):=(Below.alloc1 w _).alloc (by simp) _
 have HBD:Hid (((w.alloc (.cells #[.slice na ns.length nc] 24)).alloc (.cells #[.int .i64 k,.int .i64 tg,.slice ca ct.length cc,.string nm,.string s] 30)).heap[w.heap.size]?=some (.cells #[.slice na ns.length nc] 24 (0,0))):=by
  show _=_
  rw[heap_alloc_old _ _ (by simp)];exact heap_alloc_new _ _
 have HBO:Hid (((w.alloc (.cells #[.slice na ns.length nc] 24)).alloc (.cells #[.int .i64 k,.int .i64 tg,.slice ca ct.length cc,.string nm,.string s] 30)).heap[w.heap.size+1]?=some (.cells #[.int .i64 k,.int .i64 tg,.slice ca ct.length cc,.string nm,.string s] 30 (0,0))):=by
  have:=heap_alloc_new (w.alloc (.cells #[.slice na ns.length nc] 24)) (.cells #[.int .i64 k,.int .i64 tg,.slice ca ct.length cc,.string nm,.string s] 30);rw[World.size_alloc]at this
  exact this
 have HBX:Hid (∀ W,Below ((w.alloc (.cells #[.slice na ns.length nc] 24)).alloc (.cells #[.int .i64 k,.int .i64 tg,.slice ca ct.length cc,.string nm,.string s] 30)).heap.size ((w.alloc (.cells #[.slice na ns.length nc] 24)).alloc (.cells #[.int .i64 k,.int .i64 tg,.slice ca ct.length cc,.string nm,.string s] 30)) W→W.cell? ⟨w.heap.size,0,none⟩=some (.slice na ns.length nc)∧W.cell? ⟨w.heap.size+1,0,none⟩=some (.int .i64 k)∧W.cell? ⟨w.heap.size+1,1,none⟩=some (.int .i64 tg)∧W.cell? ⟨w.heap.size+1,2,none⟩=some (.slice ca ct.length cc)∧W.cell? ⟨w.heap.size+1,3,none⟩=some (.string nm)∧W.cell? ⟨w.heap.size+1,4,none⟩=some (.string s)):=by
  intro W hW;have e1:=(hW.block _ (qh HBD.out)).trans HBD.out;obtain ⟨y0,y1,y2,y3,y4⟩:=zN ((hW.block _ (qh HBO.out)).trans HBO.out);exact ⟨by rw[cH9 e1];rfl,y0,y1,y2,y3,y4⟩
 have HID:Hid _:=hI S _ ns ((w.alloc (.cells #[.slice na ns.length nc] 24)).alloc (.cells #[.int .i64 k,.int .i64 tg,.slice ca ct.length cc,.string nm,.string s] 30)) (hD.later hb1);have HN:Hid (qv S w (.slice na ns.length nc) ns):=hD.nodes;have HBS:Hid (Below w.heap.size w ((w.alloc (.cells #[.slice na ns.length nc] 24)).alloc (.cells #[.int .i64 k,.int .i64 tg,.slice ca ct.length cc,.string nm,.string s] 30))):=hb1;unfold maxLen at hnc
 clear hD hC hcn hx hn hs hI hb1 HBD HBO
 generalize qu ns=gd at *
 go_enter Tryz.func8,Tryz.ntmps8
 go_wp2_with fail
 generalize ((w.alloc (.cells #[.slice na ns.length nc] 24)).alloc (.cells #[.int .i64 k,.int .i64 tg,.slice ca ct.length cc,.string nm,.string s] 30))=W1 at *
 refine Calls.mono HID.out ?_;rintro e w2 ⟨rfl,hb2⟩;have HB2:Hid (Below w.heap.size w w2):=HBS.out.trans (hb2.mono HBS.out.size);obtain ⟨d0,x0,x1,x2,x3,x4⟩:=HBX.out w2 hb2;clear HID;cases gd with
 | false =>
   go_wp2_with fail;go_ret;exact ⟨rfl,HB2.out⟩
 | true =>
 by_cases hk1:k<1
 · have HR : Hid (R = 4) := by show _ = _;rw[HW.out];simp[hk1]
   clear HW;go_wp2_with fail;go_ret;exact ⟨by rw[HR.out];rfl,HB2.out⟩
 by_cases hk2:10<k
 · have HR : Hid (R = 4) := by show _ = _;rw[HW.out];simp[hk2]
   clear HW;go_wp2_with fail;go_ret;exact ⟨by rw[HR.out];rfl,HB2.out⟩
 by_cases ht1:tg<0
 · have HR : Hid (R = 3) := by show _ = _;rw[HW.out];simp[hk1, hk2, ht1]
   clear HW;go_wp2_with fail;go_ret;exact ⟨by rw[HR.out];rfl,HB2.out⟩
 by_cases ht2:(ns.length:Int)≤tg
 · have HR : Hid (R = 3) := by show _ = _;rw[HW.out];simp[hk1, hk2, ht2]
   clear HW;go_wp2_with fail;go_ret;exact ⟨by rw[HR.out];rfl,HB2.out⟩
 have HR:Hid (R=if !X1||!X2||!X3 then 1 else if decide (tg=0)&&qL k then 6 else if yx ns tg&&!(qL k)&&!(decide (k=7)) then 4 else 0):=by show _=_;rw[HW.out];simp[hk1,hk2,ht1,ht2]
 clear HW;obtain ⟨e1,e2,e3⟩:=KE k (by omega) (by omega)
 have HH1:Hid _:=e1;have HH2:Hid _:=e2;have HH3:Hid _:=e3;clear e1 e2 e3;have hmm:=@run_makeMap Tryz.prog;obtain ⟨u1,u2,u3,u4,u5,u6,u7,u8,u9,u10,r1,r2,r3,r4,r5,r6,r7,r8,r9,r10,rl,hb10⟩:=Jw w2 k (by omega) (by omega)
 obtain ⟨d0',x0',x1',x2',x3',x4'⟩:=HBX.out u10 (hb2.trans (hb10.mono hb2.size))
 go_upto_region 9 with fail
 have hb11:=Below.alloc1 u10 (.cells #[.string (zQ k)] 9);have HMB:Hid _:=heap_alloc_new u10 (.cells #[.string (zQ k)] 9);have hb211:Below w2.heap.size w2 (u10.alloc (.cells #[.string (zQ k)] 9)):=hb10.trans (hb11.mono hb10.size);have HBY:Hid (∀ W,Below (u10.alloc (.cells #[.string (zQ k)] 9)).heap.size (u10.alloc (.cells #[.string (zQ k)] 9)) W→W.cell? ⟨w.heap.size,0,none⟩=some (.slice na ns.length nc)∧W.cell? ⟨w.heap.size+1,0,none⟩=some (.int .i64 k)∧W.cell? ⟨w.heap.size+1,1,none⟩=some (.int .i64 tg)∧W.cell? ⟨w.heap.size+1,2,none⟩=some (.slice ca ct.length cc)∧W.cell? ⟨w.heap.size+1,3,none⟩=some (.string nm)∧W.cell? ⟨w.heap.size+1,4,none⟩=some (.string s)):=fun W hW=>HBX.out W ((hb2.trans (hb211.mono hb2.size)).trans (hW.mono (Nat.le_trans hb2.size hb211.size)))
 have HBW:Hid (∀ W,Below (u10.alloc (.cells #[.string (zQ k)] 9)).heap.size (u10.alloc (.cells #[.string (zQ k)] 9)) W→Below w.heap.size w W):=fun W hW=>(HB2.out.trans (hb211.mono HB2.out.size)).trans (hW.mono (Nat.le_trans HB2.out.size hb211.size))
 have HC1:Hid (∀ W,Below (u10.alloc (.cells #[.string (zQ k)] 9)).heap.size (u10.alloc (.cells #[.string (zQ k)] 9)) W→Calls Tryz.prog 22 #[.string ⟨#[99]⟩,.pointer (some ⟨u10.heap.size,0,none⟩)] W fun e w'=>e=.returned (.bool (Yx k))∧w'=W):=by
  intro W hW;have e1:=(hW.block _ (qh HMB.out)).trans HMB.out;have h:=ZK u10.heap.size (zQ k) 99 W (by rw[cH9 e1];rfl)
  rw[HH1.out]at h
  exact h
 have HN1:Hid (∀ W,Below (u10.alloc (.cells #[.string (zQ k)] 9)).heap.size (u10.alloc (.cells #[.string (zQ k)] 9)) W→Calls Tryz.prog 22 #[.string ⟨#[110]⟩,.pointer (some ⟨u10.heap.size,0,none⟩)] W fun e w'=>e=.returned (.bool (Yy k))∧w'=W):=by
  intro W hW;have e1:=(hW.block _ (qh HMB.out)).trans HMB.out;have h:=ZK u10.heap.size (zQ k) 110 W (by rw[cH9 e1];rfl)
  rw[HH2.out]at h
  exact h
 have HT1:Hid (∀ W,Below (u10.alloc (.cells #[.string (zQ k)] 9)).heap.size (u10.alloc (.cells #[.string (zQ k)] 9)) W→Calls Tryz.prog 22 #[.string ⟨#[116]⟩,.pointer (some ⟨u10.heap.size,0,none⟩)] W fun e w'=>e=.returned (.bool (Yz k))∧w'=W):=by
  intro W hW;have e1:=(hW.block _ (qh HMB.out)).trans HMB.out;have h:=ZK u10.heap.size (zQ k) 116 W (by rw[cH9 e1];rfl)
  rw[HH3.out]at h
  exact h
 generalize Yx k=bc at *
 generalize Yy k=bn at *
 generalize Yz k=bt at *
 clear hb2 hb10 hb11 hb211 hmm r1 r2 r3 r4 r5 r6 r7 r8 r9 r10 rl HMB HH1 HH2 HH3 HBX d0 x0 x1 x2 x3 x4 d0' x0' x1' x2' x3' x4'
 generalize u10.alloc (.cells #[.string (zQ k)] 9)=W9 at *
 generalize u10.heap.size=mb at *
 go_cut [93] from 35 to 92 (fun c wz=>c=.bool (!(X1&&X2&&X3))∧Below W9.heap.size W9 wz)
 case first =>
  have hb:Below W9.heap.size W9 W9:=Below.refl _ _;obtain ⟨d0,x0,x1,x2,x3,x4⟩:=HBY.out W9 hb;go_wp2_with fail;refine Calls.mono (HC1.out _ hb) ?_;rintro e w' ⟨rfl,hw'⟩;rw[hw'];clear hw' w';cases bc with
  | true =>
    go_wp2_with fail;refine Calls.mono (HCO.out (by trivial) _ (HBW.out _ hb)) ?_
    rintro e v1 ⟨rfl,hb9⟩
    replace hb:=hb.trans (hb9.mono hb.size)
    clear hb9 d0 x0 x1 x2 x3 x4;obtain ⟨d0,x0,x1,x2,x3,x4⟩:=HBY.out v1 hb;cases X1 with
    | false =>
      go_wp2_with fail
      go_meet
      case rel => exact ⟨rfl,hb⟩
    | true =>
      go_wp2_with fail;refine Calls.mono (HC1.out _ hb) ?_;rintro e w' ⟨rfl,hw'⟩;rw[hw'];clear hw' w';go_wp2_with fail;refine Calls.mono (HN1.out _ hb) ?_;rintro e w' ⟨rfl,hw'⟩;rw[hw'];clear hw' w';cases bn with
      | true =>
        go_wp2_with fail;refine Calls.mono (HNO.out (by trivial) _) ?_
        rintro e v2 ⟨rfl,hb9⟩
        replace hb:=hb.trans (hb9.mono hb.size)
        clear hb9 d0 x0 x1 x2 x3 x4;obtain ⟨d0,x0,x1,x2,x3,x4⟩:=HBY.out v2 hb;cases X2 with
        | false =>
          go_wp2_with fail
          go_meet
          case rel => exact ⟨rfl,hb⟩
        | true =>
          go_wp2_with fail;refine Calls.mono (HN1.out _ hb) ?_;rintro e w' ⟨rfl,hw'⟩;rw[hw'];clear hw' w';go_wp2_with fail;refine Calls.mono (HT1.out _ hb) ?_;rintro e w' ⟨rfl,hw'⟩;rw[hw'];clear hw' w';cases bt with
          | true =>
            go_wp2_with fail;refine Calls.mono (HSO.out (by trivial) _) ?_
            rintro e v3 ⟨rfl,hb9⟩
            replace hb:=hb.trans (hb9.mono hb.size)
            clear hb9 d0 x0 x1 x2 x3 x4;obtain ⟨d0,x0,x1,x2,x3,x4⟩:=HBY.out v3 hb;cases X3 with
            | false =>
              go_wp2_with fail
              go_meet
              case rel => exact ⟨rfl,hb⟩
            | true =>
              go_wp2_with fail;refine Calls.mono (HT1.out _ hb) ?_;rintro e w' ⟨rfl,hw'⟩;rw[hw'];clear hw' w';go_wp2_with fail
              go_meet
              case rel => exact ⟨rfl,hb⟩
          | false =>
            have hf2:=HSF.out (by trivial)
            go_wp2_with fail;refine Calls.mono (HT1.out _ hb) ?_;rintro e w' ⟨rfl,hw'⟩;rw[hw'];clear hw' w';cases X3 with
            | false =>
              go_wp2_with fail
              go_meet
              case rel => exact ⟨rfl,hb⟩
            | true =>
              go_wp2_with fail
              go_meet
              case rel => exact ⟨rfl,hb⟩
      | false =>
        have hf1:=HNF.out (by trivial)
        go_wp2_with fail;refine Calls.mono (HN1.out _ hb) ?_;rintro e w' ⟨rfl,hw'⟩;rw[hw'];clear hw' w';cases X2 with
        | false =>
          go_wp2_with fail
          go_meet
          case rel => exact ⟨rfl,hb⟩
        | true =>
          go_wp2_with fail;refine Calls.mono (HT1.out _ hb) ?_;rintro e w' ⟨rfl,hw'⟩;rw[hw'];clear hw' w';cases bt with
          | true =>
            go_wp2_with fail;refine Calls.mono (HSO.out (by trivial) _) ?_
            rintro e v4 ⟨rfl,hb9⟩
            replace hb:=hb.trans (hb9.mono hb.size)
            clear hb9 d0 x0 x1 x2 x3 x4;obtain ⟨d0,x0,x1,x2,x3,x4⟩:=HBY.out v4 hb;cases X3 with
            | false =>
              go_wp2_with fail
              go_meet
              case rel => exact ⟨rfl,hb⟩
            | true =>
              go_wp2_with fail;refine Calls.mono (HT1.out _ hb) ?_;rintro e w' ⟨rfl,hw'⟩;rw[hw'];clear hw' w';go_wp2_with fail
              go_meet
              case rel => exact ⟨rfl,hb⟩
          | false =>
            have hf2:=HSF.out (by trivial)
            go_wp2_with fail;refine Calls.mono (HT1.out _ hb) ?_;rintro e w' ⟨rfl,hw'⟩;rw[hw'];clear hw' w';cases X3 with
            | false =>
              go_wp2_with fail
              go_meet
              case rel => exact ⟨rfl,hb⟩
            | true =>
              go_wp2_with fail
              go_meet
              case rel => exact ⟨rfl,hb⟩
  | false =>
    have hf0:=HCF.out (by trivial)
    go_wp2_with fail;refine Calls.mono (HC1.out _ hb) ?_;rintro e w' ⟨rfl,hw'⟩;rw[hw'];clear hw' w'
    generalize ct.length=L at *
    cases L with
    | succ L =>
      obtain rfl:X1=false:=by rw[←hf0];simp;omega
      clear hf0;go_wp2_with fail
      go_meet
      case rel => exact ⟨rfl,hb⟩
    | zero =>
      obtain rfl:X1=true:=by rw[←hf0];rfl
      clear hf0;go_wp2_with fail;refine Calls.mono (HN1.out _ hb) ?_;rintro e w' ⟨rfl,hw'⟩;rw[hw'];clear hw' w';cases bn with
      | true =>
        go_wp2_with fail;refine Calls.mono (HNO.out (by trivial) _) ?_
        rintro e v5 ⟨rfl,hb9⟩
        replace hb:=hb.trans (hb9.mono hb.size)
        clear hb9 d0 x0 x1 x2 x3 x4;obtain ⟨d0,x0,x1,x2,x3,x4⟩:=HBY.out v5 hb;cases X2 with
        | false =>
          go_wp2_with fail
          go_meet
          case rel => exact ⟨rfl,hb⟩
        | true =>
          go_wp2_with fail;refine Calls.mono (HN1.out _ hb) ?_;rintro e w' ⟨rfl,hw'⟩;rw[hw'];clear hw' w';go_wp2_with fail;refine Calls.mono (HT1.out _ hb) ?_;rintro e w' ⟨rfl,hw'⟩;rw[hw'];clear hw' w';cases bt with
          | true =>
            go_wp2_with fail;refine Calls.mono (HSO.out (by trivial) _) ?_
            rintro e v6 ⟨rfl,hb9⟩
            replace hb:=hb.trans (hb9.mono hb.size)
            clear hb9 d0 x0 x1 x2 x3 x4;obtain ⟨d0,x0,x1,x2,x3,x4⟩:=HBY.out v6 hb;cases X3 with
            | false =>
              go_wp2_with fail
              go_meet
              case rel => exact ⟨rfl,hb⟩
            | true =>
              go_wp2_with fail;refine Calls.mono (HT1.out _ hb) ?_;rintro e w' ⟨rfl,hw'⟩;rw[hw'];clear hw' w';go_wp2_with fail
              go_meet
              case rel => exact ⟨rfl,hb⟩
          | false =>
            have hf2:=HSF.out (by trivial)
            go_wp2_with fail;refine Calls.mono (HT1.out _ hb) ?_;rintro e w' ⟨rfl,hw'⟩;rw[hw'];clear hw' w';cases X3 with
            | false =>
              go_wp2_with fail
              go_meet
              case rel => exact ⟨rfl,hb⟩
            | true =>
              go_wp2_with fail
              go_meet
              case rel => exact ⟨rfl,hb⟩
      | false =>
        have hf1:=HNF.out (by trivial)
        go_wp2_with fail;refine Calls.mono (HN1.out _ hb) ?_;rintro e w' ⟨rfl,hw'⟩;rw[hw'];clear hw' w';cases X2 with
        | false =>
          go_wp2_with fail
          go_meet
          case rel => exact ⟨rfl,hb⟩
        | true =>
          go_wp2_with fail;refine Calls.mono (HT1.out _ hb) ?_;rintro e w' ⟨rfl,hw'⟩;rw[hw'];clear hw' w';cases bt with
          | true =>
            go_wp2_with fail;refine Calls.mono (HSO.out (by trivial) _) ?_
            rintro e v7 ⟨rfl,hb9⟩
            replace hb:=hb.trans (hb9.mono hb.size)
            clear hb9 d0 x0 x1 x2 x3 x4;obtain ⟨d0,x0,x1,x2,x3,x4⟩:=HBY.out v7 hb;cases X3 with
            | false =>
              go_wp2_with fail
              go_meet
              case rel => exact ⟨rfl,hb⟩
            | true =>
              go_wp2_with fail;refine Calls.mono (HT1.out _ hb) ?_;rintro e w' ⟨rfl,hw'⟩;rw[hw'];clear hw' w';go_wp2_with fail
              go_meet
              case rel => exact ⟨rfl,hb⟩
          | false =>
            have hf2:=HSF.out (by trivial)
            go_wp2_with fail;refine Calls.mono (HT1.out _ hb) ?_;rintro e w' ⟨rfl,hw'⟩;rw[hw'];clear hw' w';cases X3 with
            | false =>
              go_wp2_with fail
              go_meet
              case rel => exact ⟨rfl,hb⟩
            | true =>
              go_wp2_with fail
              go_meet
              case rel => exact ⟨rfl,hb⟩
 case rest =>
  obtain ⟨rfl,hbc⟩:=hcut;obtain ⟨d0,x0,x1,x2,x3,x4⟩:=HBY.out wc hbc;have HBC:Hid (Below w.heap.size w wc):=HBW.out _ hbc;clear HC1 HN1 HT1 HCO HCF HNO HNF HSO HSF;cases hX:(X1&&X2&&X3) with
  | false =>
    have HR1:Hid (R=1):=by
     show _=_
     rw[HR.out,if_pos]
     revert hX
     cases X1<;>cases X2<;>cases X3<;>simp
    clear HR;go_wp2_with fail;go_ret;exact ⟨by rw[HR1.out];rfl,HBC.out⟩
  | true =>
  have HR2:Hid (R=if decide (tg=0)&&qL k then 6 else if yx ns tg&&!(qL k)&&!(decide (k=7)) then 4 else 0):=by
   show _=_
   rw[HR.out,if_neg]
   revert hX
   cases X1<;>cases X2<;>cases X3<;>simp
  clear HR hX;obtain ⟨t,rfl⟩:∃ t:Nat,tg=(t:Int):=⟨tg.toNat,by omega⟩
  obtain ⟨x,hxi⟩:∃ x,ns[t]?=some x:=⟨ns[t]'(by omega),by simp⟩
  have HTX:Hid (yx ns (t:Int)=x.text):=by show _=_;rw[HX.out t,hxi]
  obtain ⟨b,of,cap,va,vk,hv,_,_,hSb,hbw,c0,c1,c2,c3,c4,hAt,hKi⟩:=HN.out.at hxi
  have HC0:Hid _:=(World.cell?_of_block (a:=⟨b,of+t*5,none⟩) (HBC.out.block b hbw)).trans c0
  injection hv with hv1 hv2 hv3
  subst hv1 hv3;have c0':=HC0.out
  have HPL:Hid (qL k=(decide (3≤k)&&decide (k≤6))):=by
   show _=_
   have:k=1∨k=2∨k=3∨k=4∨k=5∨k=6∨k=7∨k=8∨k=9∨k=10:=by omega
   rcases this with rfl|rfl|rfl|rfl|rfl|rfl|rfl|rfl|rfl|rfl<;>rfl
  rw[HTX.out,HPL.out]at HR2
  clear HX HN c0 c1 c2 c3 c4 hAt hKi hSb hxi hv2 HTX HPL HC0
  generalize x.text=tx at *
  by_cases h0:t=0
  · subst h0;simp only[Nat.zero_mul,Nat.add_zero]at c0'
    by_cases h3:3≤k
    · have h3b : decide (3 ≤ k) = true := by simpa using h3
      have k3b:decide (k<3)=false:=by simp;omega
      by_cases h6:k≤6
      · have h6b : decide (k ≤ 6) = true := by simpa using h6
        have HR3:Hid (R=6):=by show _=_;rw[HR2.out];simp[h3,h6]
        clear HR2;go_wp2_with fail;go_ret;exact ⟨by rw[HR3.out];rfl,HBC.out⟩
      · have h6b : decide (k ≤ 6) = false := by simpa using h6
        cases tx with
        | false =>
          have HR3:Hid (R=0):=by show _=_;rw[HR2.out];simp[h3,h6]
          clear HR2;go_wp2_with fail;go_ret;exact ⟨by rw[HR3.out];rfl,HBC.out⟩
        | true =>
          by_cases k7:7<k
          · have k7b : decide (7 < k) = true := by simpa using k7
            have k7n:¬ k=7:=by omega
            have k6n:¬ k≤6:=by omega
            have HR3:Hid (R=4):=by show _=_;rw[HR2.out];simp[h3,h6,k7n,k6n]
            clear HR2;go_wp2_with fail;go_ret;exact ⟨by rw[HR3.out];rfl,HBC.out⟩
          have k7b:decide (7<k)=false:=by simpa using k7
          have k7e:k=7:=by omega
          have HR3:Hid (R=0):=by show _=_;rw[HR2.out];simp[h3,h6,k7e]
          clear HR2;go_wp2_with fail;go_ret;exact ⟨by rw[HR3.out];rfl,HBC.out⟩
    · have h3b : decide (3 ≤ k) = false := by simpa using h3
      have k3b:decide (k<3)=true:=by simp;omega
      have k7n:¬ k=7:=by omega
      cases tx with
      | false =>
        have HR3:Hid (R=0):=by show _=_;rw[HR2.out];simp[h3]
        clear HR2;go_wp2_with fail;go_ret;exact ⟨by rw[HR3.out];rfl,HBC.out⟩
      | true =>
        have HR3:Hid (R=4):=by show _=_;rw[HR2.out];simp[h3,k7n]
        clear HR2;go_wp2_with fail;go_ret;exact ⟨by rw[HR3.out];rfl,HBC.out⟩
  · have h0b : ((t : Int) == 0) = false := by simp;omega
    have h0i:¬ ((t:Int)=0):=by omega
    cases tx with
    | false =>
      have HR3:Hid (R=0):=by show _=_;rw[HR2.out];simp[h0]
      clear HR2;go_wp2_with fail;go_ret;exact ⟨by rw[HR3.out];rfl,HBC.out⟩
    | true =>
      by_cases k3:k<3
      · have k3b : decide (k < 3) = true := by simpa using k3
        have h3n:¬ 3≤k:=by omega
        have k7n:¬ k=7:=by omega
        have HR3:Hid (R=4):=by show _=_;rw[HR2.out];simp[h0,h3n,k7n]
        clear HR2;go_wp2_with fail;go_ret;exact ⟨by rw[HR3.out];rfl,HBC.out⟩
      have k3b:decide (k<3)=false:=by simpa using k3
      have h3p:3≤k:=by omega
      by_cases k7:7<k
      · have k7b : decide (7 < k) = true := by simpa using k7
        have k7n:¬ k=7:=by omega
        have k6n:¬ k≤6:=by omega
        have HR3:Hid (R=4):=by show _=_;rw[HR2.out];simp[h0,h3p,k7n,k6n]
        clear HR2;go_wp2_with fail;go_ret;exact ⟨by rw[HR3.out];rfl,HBC.out⟩
      have k7b:decide (7<k)=false:=by simpa using k7
      have hor:k≤6∨k=7:=by omega
      have HR3:Hid (R=0):=by show _=_;rw[HR2.out];rcases hor with h|h<;>simp[h0,h3p,h]
      clear HR2;go_wp2_with fail;go_ret;exact ⟨by rw[HR3.out];rfl,HBC.out⟩
end
end Go.Proofs.YtnppmdpmippcoaaGreatDoor
namespace Go.Proofs.YtnppmdpmippcoaaGreatDoor
open Go.ChangeShapes Go.WideShapes Go.ChangeAt Go.RowKit
set_option maxRecDepth 100000
section
attribute [local go_sem] qk
set_option linter.unusedSimpArgs false in
set_option maxHeartbeats 4000000 in
theorem xd (a b:Opn)(va vb:Value)(w:World) :
 Calls Tryz.prog 10 #[.agg #[.int .i64 a.kind,.int .i64 a.target,va,.string a.name,.string a.s],.agg #[.int .i64 b.kind,.int .i64 b.target,vb,.string b.name,.string b.s]] w fun e w'=>e=.returned (.bool (agB a b))∧Below w.heap.size w w':=by
 have HA:Hid (agB a b=((a.target==b.target)&&(((a.kind==6)&&(b.kind==6))||((a.kind==7)&&(b.kind==7))||((a.kind==8)&&(b.kind==8)) ||
  (((a.kind==9)||(a.kind==10))&&((b.kind==9)||(b.kind==10))&&decide (a.name=b.name))))):=rfl
 have hb:=(Below.alloc1 w (.cells #[.int .i64 a.kind,.int .i64 a.target,va,.string a.name,.string a.s] 30)).alloc (by simp) (.cells #[.int .i64 b.kind,.int .i64 b.target,vb,.string b.name,.string b.s] 30)
 have HX:Hid (((w.alloc (.cells #[.int .i64 a.kind,.int .i64 a.target,va,.string a.name,.string a.s] 30)).alloc (.cells #[.int .i64 b.kind,.int .i64 b.target,vb,.string b.name,.string b.s] 30)).heap[w.heap.size]?=some (.cells #[.int .i64 a.kind,.int .i64 a.target,va,.string a.name,.string a.s] 30 (0,0))):=by
  show _=_
  rw[heap_alloc_old _ _ (by simp)];exact heap_alloc_new _ _
 have HY:Hid (((w.alloc (.cells #[.int .i64 a.kind,.int .i64 a.target,va,.string a.name,.string a.s] 30)).alloc (.cells #[.int .i64 b.kind,.int .i64 b.target,vb,.string b.name,.string b.s] 30)).heap[w.heap.size+1]?=some (.cells #[.int .i64 b.kind,.int .i64 b.target,vb,.string b.name,.string b.s] 30 (0,0))):=by
  have:=heap_alloc_new (w.alloc (.cells #[.int .i64 a.kind,.int .i64 a.target,va,.string a.name,.string a.s] 30)) (.cells #[.int .i64 b.kind,.int .i64 b.target,vb,.string b.name,.string b.s] 30);rw[World.size_alloc]at this
  exact this
 have HB:Hid _:=hb
 generalize agB a b=R at *
 obtain ⟨k,tg,ct,nm,s⟩:=a;obtain ⟨k',tg',ct',nm',s'⟩:=b;dsimp only at *
 by_cases ht:tg=tg'
 · subst ht;clear hb
   go_enter Tryz.func10,Tryz.ntmps10
   go_wp2_with fail;have hb3:=Below.alloc1 ((w.alloc (.cells #[.int .i64 k,.int .i64 tg,va,.string nm,.string s] 30)).alloc (.cells #[.int .i64 k',.int .i64 tg,vb,.string nm',.string s'] 30)) (.cells #[.int .i64 6,.int .i64 7,.int .i64 8] 3);have hl:=heap_alloc_new ((w.alloc (.cells #[.int .i64 k,.int .i64 tg,va,.string nm,.string s] 30)).alloc (.cells #[.int .i64 k',.int .i64 tg,vb,.string nm',.string s'] 30)) (.cells #[.int .i64 6,.int .i64 7,.int .i64 8] 3);rw[World.size_alloc,World.size_alloc]at hl
   have HL:Hid _:=hl;clear hl
   generalize (w.alloc (.cells #[.int .i64 k,.int .i64 tg,va,.string nm,.string s] 30)).alloc (.cells #[.int .i64 k',.int .i64 tg,vb,.string nm',.string s'] 30)=W2 at *
   obtain ⟨x0,x1,x2,x3,x4⟩:=zN ((hb3.block _ (qh HX.out)).trans HX.out);obtain ⟨y0,y1,y2,y3,y4⟩:=zN ((hb3.block _ (qh HY.out)).trans HY.out);have HB3:Hid (Below w.heap.size w (W2.alloc (.cells #[.int .i64 6,.int .i64 7,.int .i64 8] 3))):=HB.out.trans (hb3.mono HB.out.size)
   generalize W2.alloc (.cells #[.int .i64 6,.int .i64 7,.int .i64 8] 3)=W3 at *
   have l0:W3.cell? ⟨w.heap.size+1+1,0,none⟩=some (.int .i64 6):=by rw[cH9 HL.out];rfl
   have l1:W3.cell? ⟨w.heap.size+1+1,1,none⟩=some (.int .i64 7):=by rw[cH9 HL.out];rfl
   have l2:W3.cell? ⟨w.heap.size+1+1,2,none⟩=some (.int .i64 8):=by rw[cH9 HL.out];rfl
   clear hb3 HL HX HY HB
   go_loopg [14] 3 (fun g i wr=>∃ j:Nat,j+g=3∧i=.int .i64 (j:Int)∧wr=W3∧(1≤j→((k==6)&&(k'==6))=false)∧(2≤j→((k==7)&&(k'==7))=false)∧(3≤j→((k==8)&&(k'==8))=false))
   case atStart => exact ⟨0,by omega,rfl,rfl,fun h=>by omega,fun h=>by omega,fun h=>by omega⟩
   case round =>
    obtain ⟨j,hj,rfl,hwr,q6,q7,q8⟩:=hrel;have Q6:Hid _:=q6;have Q7:Hid _:=q7;have Q8:Hid _:=q8;rw[hwr];clear hwr wr q6 q7 q8;have hj3:j=0∨j=1∨j=2∨j=3:=by omega
    rcases hj3 with rfl|rfl|rfl|rfl
    · cases ha : (k == 6) with
      | false =>
        have HN:Hid (((k==6)&&(k'==6))=false):=by show _=_;rw[ha];rfl
        go_wp2_with fail
        go_roundg 2
        case measure => omega
        case rel => exact ⟨1,by omega,by go_num,rfl,fun _=>HN.out,fun h=>by omega,fun h=>by omega⟩
      | true =>
        cases hb:(k'==6) with
        | false =>
          have HN:Hid (((k==6)&&(k'==6))=false):=by show _=_;rw[ha,hb];rfl
          go_wp2_with fail
          go_roundg 2
          case measure => omega
          case rel => exact ⟨1,by omega,by go_num,rfl,fun _=>HN.out,fun h=>by omega,fun h=>by omega⟩
        | true =>
          have HR:Hid (R=true):=by show _=_;rw[HA.out,ha,hb];simp
          go_wp2_with fail;go_ret;exact ⟨by rw[HR.out];rfl,HB3.out⟩
    · cases ha : (k == 7) with
      | false =>
        have HN:Hid (((k==7)&&(k'==7))=false):=by show _=_;rw[ha];rfl
        go_wp2_with fail
        go_roundg 1
        case measure => omega
        case rel => exact ⟨2,by omega,by go_num,rfl,fun _=>Q6.out (by omega),fun _=>HN.out,fun h=>by omega⟩
      | true =>
        cases hb:(k'==7) with
        | false =>
          have HN:Hid (((k==7)&&(k'==7))=false):=by show _=_;rw[ha,hb];rfl
          go_wp2_with fail
          go_roundg 1
          case measure => omega
          case rel => exact ⟨2,by omega,by go_num,rfl,fun _=>Q6.out (by omega),fun _=>HN.out,fun h=>by omega⟩
        | true =>
          have HR:Hid (R=true):=by show _=_;rw[HA.out,ha,hb];simp
          go_wp2_with fail;go_ret;exact ⟨by rw[HR.out];rfl,HB3.out⟩
    · cases ha : (k == 8) with
      | false =>
        have HN:Hid (((k==8)&&(k'==8))=false):=by show _=_;rw[ha];rfl
        go_wp2_with fail
        go_roundg 0
        case measure => omega
        case rel => exact ⟨3,by omega,by go_num,rfl,fun _=>Q6.out (by omega),fun _=>Q7.out (by omega),fun _=>HN.out⟩
      | true =>
        cases hb:(k'==8) with
        | false =>
          have HN:Hid (((k==8)&&(k'==8))=false):=by show _=_;rw[ha,hb];rfl
          go_wp2_with fail
          go_roundg 0
          case measure => omega
          case rel => exact ⟨3,by omega,by go_num,rfl,fun _=>Q6.out (by omega),fun _=>Q7.out (by omega),fun _=>HN.out⟩
        | true =>
          have HR:Hid (R=true):=by show _=_;rw[HA.out,ha,hb];simp
          go_wp2_with fail;go_ret;exact ⟨by rw[HR.out];rfl,HB3.out⟩
    · have HA2:Hid (R=(((k==9)||(k==10))&&((k'==9)||(k'==10))&&decide (nm=nm'))):=by
       show _=_
       rw[HA.out,Q6.out (by omega),Q7.out (by omega),Q8.out (by omega)];simp
      clear HA Q6 Q7 Q8 l0 l1 l2;cases a9:(k==9) with
      | true =>
        cases b9:(k'==9) with
        | true =>
          have HR:Hid (R=decide (nm=nm')):=by show _=_;rw[HA2.out,a9,b9];simp
          clear HA2;go_wp2_with fail;go_ret;exact ⟨by rw[HR.out,yg];rfl,HB3.out⟩
        | false =>
          cases b10:(k'==10) with
          | true =>
            have HR:Hid (R=decide (nm=nm')):=by show _=_;rw[HA2.out,a9,b9,b10];simp
            clear HA2;go_wp2_with fail;go_ret;exact ⟨by rw[HR.out,yg];rfl,HB3.out⟩
          | false =>
            have HR:Hid (R=false):=by show _=_;rw[HA2.out,a9,b9,b10];simp
            clear HA2;go_wp2_with fail;go_ret;exact ⟨by rw[HR.out];rfl,HB3.out⟩
      | false =>
        cases a10:(k==10) with
        | true =>
          cases b9:(k'==9) with
          | true =>
            have HR:Hid (R=decide (nm=nm')):=by show _=_;rw[HA2.out,a9,a10,b9];simp
            clear HA2;go_wp2_with fail;go_ret;exact ⟨by rw[HR.out,yg];rfl,HB3.out⟩
          | false =>
            cases b10:(k'==10) with
            | true =>
              have HR:Hid (R=decide (nm=nm')):=by show _=_;rw[HA2.out,a9,a10,b9,b10];simp
              clear HA2;go_wp2_with fail;go_ret;exact ⟨by rw[HR.out,yg];rfl,HB3.out⟩
            | false =>
              have HR:Hid (R=false):=by show _=_;rw[HA2.out,a9,a10,b9,b10];simp
              clear HA2;go_wp2_with fail;go_ret;exact ⟨by rw[HR.out];rfl,HB3.out⟩
        | false =>
          have HR:Hid (R=false):=by show _=_;rw[HA2.out,a9,a10];simp
          clear HA2;go_wp2_with fail;go_ret;exact ⟨by rw[HR.out];rfl,HB3.out⟩
 · have HR:Hid (R=false):=by
    show _=_
    have h0:(tg==tg')=false:=by simpa using ht
    rw[HA.out,h0];rfl
   have b1:(tg==tg')=false:=by simpa using ht
   clear HA ht HX HY
   go_enter Tryz.func10,Tryz.ntmps10
   go_wp2_with fail;go_ret;exact ⟨by rw[HR.out];rfl,hb⟩
end
def Ops (S:Nat→Prop)(w:World)(n:Nat)(v:Value)(l:List Opn):Prop :=
  ∃ a cap, v = .slice a l.length cap ∧ l.length ≤ cap ∧ cap ≤ maxLen ∧
    (l≠[]→∃ b o,a=some ⟨b,o,none⟩∧S b∧∀ (i:Nat) (x:Opn),l[i]?=some x→∃ ca cc,
      w.cell? ⟨b,o+i*5,none⟩=some (.int .i64 x.kind)∧w.cell? ⟨b,o+i*5+1,none⟩=some (.int .i64 x.target)∧w.cell? ⟨b,o+i*5+2,none⟩=some (.slice ca x.content.length cc) ∧
      w.cell? ⟨b,o+i*5+3,none⟩=some (.string x.name)∧w.cell? ⟨b,o+i*5+4,none⟩=some (.string x.s)∧qd S w n (.slice ca x.content.length cc) x.content)
def xm (n:Nat)(l:List Opn):Prop:=∀ x∈l,TextsN n x.content∧x.name.size≤maxLen∧x.s.size≤maxLen
theorem Ops.carry {S S':Nat→Prop}{w w':World}{n:Nat}{v:Value}{l:List Opn}(h:Ops S w n v l)(hw:∀ b,S b→S' b∧w'.heap[b]?=w.heap[b]?):Ops S' w' n v l:=by
 obtain ⟨a,cap,h1,h2,h3,h4⟩:=h;refine ⟨a,cap,h1,h2,h3,fun hne=>?_⟩
 obtain ⟨b,o,ha,hs,hc⟩:=h4 hne;refine ⟨b,o,ha,(hw b hs).1,fun i x hx=>?_⟩
 obtain ⟨ca,cc,c0,c1,c2,c3,c4,hT⟩:=hc i x hx;refine ⟨ca,cc,?_,?_,?_,?_,?_,qd.carry hw n hT⟩
 · rw[World.cell?_of_block (a:=⟨b,o+i*5,none⟩) (hw b hs).2];exact c0
 · rw[World.cell?_of_block (a:=⟨b,o+i*5+1,none⟩) (hw b hs).2];exact c1
 · rw[World.cell?_of_block (a:=⟨b,o+i*5+2,none⟩) (hw b hs).2];exact c2
 · rw[World.cell?_of_block (a:=⟨b,o+i*5+3,none⟩) (hw b hs).2];exact c3
 · rw[World.cell?_of_block (a:=⟨b,o+i*5+4,none⟩) (hw b hs).2];exact c4
theorem Ops.bounded {S:Nat→Prop}{w:World}{n:Nat}{v:Value}{l:List Opn}(h:Ops S w n v l):Ops (fun b=>S b∧b<w.heap.size) w n v l:=by
 obtain ⟨a,cap,h1,h2,h3,h4⟩:=h;refine ⟨a,cap,h1,h2,h3,fun hne=>?_⟩
 obtain ⟨b,o,ha,hs,hc⟩:=h4 hne;refine ⟨b,o,ha,⟨hs,?_⟩,fun i x hx=>?_⟩
 · cases l with
   | nil=>exact absurd rfl hne
   | cons x r =>
     obtain ⟨_,_,c0,_⟩:=hc 0 x rfl;exact World.block_lt_of_cell? w _ c0
 · obtain ⟨ca, cc, c0, c1, c2, c3, c4, hT⟩ := hc i x hx;exact ⟨ca,cc,c0,c1,c2,c3,c4,qd.bounded n hT⟩
theorem Ops.later {S:Nat→Prop}{w w':World}{n:Nat}{v:Value}{l:List Opn}(h:Ops S w n v l)(hb:Below w.heap.size w w'):Ops S w' n v l :=
 h.bounded.carry fun b hb'=>⟨hb'.1,hb.block b hb'.2⟩
theorem Ops.shape {S:Nat→Prop}{w:World}{n:Nat}{v:Value}{l:List Opn}(h:Ops S w n v l):∃ a c,v=.slice a l.length c∧l.length≤c∧c≤maxLen:=by
 obtain ⟨a,cap,h1,h2,h3,_⟩:=h;exact ⟨a,cap,h1,h2,h3⟩
theorem Ops.at {S:Nat→Prop}{w:World}{n:Nat}{v:Value}{l:List Opn}(h:Ops S w n v l){i:Nat}{x:Opn}(hx:l[i]?=some x):∃ b o cap ca cc,v=.slice (some ⟨b,o,none⟩) l.length cap∧S b∧b<w.heap.size ∧
 w.cell? ⟨b,o+i*5,none⟩=some (.int .i64 x.kind)∧w.cell? ⟨b,o+i*5+1,none⟩=some (.int .i64 x.target)∧w.cell? ⟨b,o+i*5+2,none⟩=some (.slice ca x.content.length cc) ∧
 w.cell? ⟨b,o+i*5+3,none⟩=some (.string x.name)∧w.cell? ⟨b,o+i*5+4,none⟩=some (.string x.s)∧qd S w n (.slice ca x.content.length cc) x.content:=by
 obtain ⟨a,cap,h1,h2,h3,h4⟩:=h;have hne:l≠[]:=by intro e;subst e;simp at hx
 obtain ⟨b,o,rfl,hs,hc⟩:=h4 hne;obtain ⟨ca,cc,c0,c1,c2,c3,c4,hT⟩:=hc i x hx;exact ⟨b,o,cap,ca,cc,h1,hs,World.block_lt_of_cell? w _ c0,c0,c1,c2,c3,c4,hT⟩
theorem Ops.pairs {S:Nat→Prop}{w:World}{n:Nat}{b o cap m:Nat}{l:List Opn}(h:Ops S w n (.slice (some ⟨b,o,none⟩) m cap) l):∃ zs:List (Opn × Value),zs.map (·.1)=l ∧
    ∀ (j : Nat) (z : Opn × Value), zs[j]? = some z → w.cell? ⟨b, o + j * 5, none⟩ = some (.int .i64 z.1.kind) ∧ w.cell? ⟨b, o + j * 5 + 1, none⟩ = some (.int .i64 z.1.target) ∧ w.cell? ⟨b, o + j * 5 + 2, none⟩ = some z.2 ∧
      w.cell? ⟨b,o+j*5+3,none⟩=some (.string z.1.name)∧w.cell? ⟨b,o+j*5+4,none⟩=some (.string z.1.s):=by
  refine ⟨l.mapIdx (fun i x=>(x,(w.cell? ⟨b,o+i*5+2,none⟩).getD undef)),?_,?_⟩
  · apply List.ext_getElem?
    intro i;rw[List.getElem?_map,List.getElem?_mapIdx];cases l[i]?<;>rfl
  · intro j z hz;rw[List.getElem?_mapIdx]at hz
    cases hx:l[j]? with
    | none=>rw[hx]at hz;simp at hz
    | some x =>
      rw[hx]at hz
      obtain ⟨b',o',cap',ca,cc,hv,_,_,c0,c1,c2,c3,c4,_⟩:=h.at hx
      injection hv with hv1 _ _
      injection hv1 with hv1
      injection hv1 with hb ho _
      subst hb ho;have:z=(x,(w.cell? ⟨b,o+j*5+2,none⟩).getD undef):=by simpa using hz.symm
      subst this;refine ⟨c0,c1,?_,c3,c4⟩;rw[c2];rfl
theorem Ys {ns:List Nd}:∀ {l:List Opn}{i:Nat}{x:Opn},qP ns (l.take i)=0→l[i]?=some x→qP ns (l.take (i+1))=qE ns x∧(qE ns x≠0→qP ns l=qE ns x):=by
 intro l
 induction l with
 | nil=>intro i x _ h;simp at h
 | cons y r ih =>
   intro i x h hx;cases i with
   | zero =>
     have:y=x:=by simpa using hx
     subst this
     constructor
     · simp only[List.take, qP]
       by_cases h0:qE ns y=0
       · rw[if_pos h0,h0]
       · rw[if_neg h0]
     · intro h0;rw[qP,if_neg h0]
   | succ i =>
     simp only[List.take_succ_cons,qP]at h
     by_cases h0:qE ns y=0
     · rw[if_pos h0]at h
       have:=ih h (by simpa using hx)
       constructor
       · rw[List.take_succ_cons,qP,if_pos h0];exact this.1
       · intro hn;rw[qP,if_pos h0];exact this.2 hn
     · rw[if_neg h0]at h;exact absurd h h0
theorem twice_take:∀ (l:List Opn)(i:Nat)(x:Opn),l[i]?=some x→twiceB (l.take (i+1))=(twiceB (l.take i)||(l.take i).any (fun e=>agB e x)):=by
 intro l
 induction l with
 | nil=>intro i x h;simp at h
 | cons y r ih =>
   intro i x hx;cases i with
   | zero=>simp[twiceB]
   | succ i =>
     have h:=ih i x (by simpa using hx)
     have ht:r.take (i+1)=r.take i++[x]:=by rw[List.take_add_one];simp at hx;simp[hx]
     rw[List.take_succ_cons,twiceB,h,List.take_succ_cons,twiceB,List.any_cons,ht,List.any_append];simp only[List.any_cons,List.any_nil,Bool.or_false];cases (r.take i).any (agB y)<;>cases agB y x<;>cases twiceB (r.take i)<;>simp
theorem twice_mono:∀ (l:List Opn)(i:Nat),twiceB (l.take i)=true→twiceB l=true:=by
 intro l i h;cases hn:twiceB l with
 | true=>rfl
 | false =>
   rw[twiceB_false]at hn
   have:twiceB (l.take i)=false:=(twiceB_false _).2 (hn.sublist (List.take_sublist _ _));rw[h]at this;exact absurd this (by decide)
section
attribute [local go_sem] qk
def Xi (n:Nat)(l:List Opn):Prop:=∀ x∈l,cnt (n+1) x.content≤1048576∧TexN (n+1) x.content∧x.name.size≤maxLen∧x.s.size≤maxLen
theorem Kc {l:List Opn}{k:Nat}{y x:Opn}(h:l[k]?=some y):(l.take (k+1)).any (fun e=>agB e x)=((l.take k).any (fun e=>agB e x)||agB y x):=by
 have hk:=qg h;have e:l[k]=y:=by simpa[hk] using h
 rw[List.take_succ_eq_append_getElem hk,e,List.any_append];simp
set_option linter.unusedSimpArgs false in
set_option maxHeartbeats 4000000 in
theorem ZG (hI:IsDocOk)(S T:Nat→Prop)(n:Nat)(vd v:Value)(ns:List Nd)(l:List Opn)(w:World)(hD:Qn S w vd ns)(hO:Ops T w (n+1) v l)(hf:Xi n l) :
 Calls Tryz.prog 12 #[.agg #[vd],v] w fun e w'=>e=.returned (.int .i64 (qJ ns l))∧Below w.heap.size w w':=by
 obtain ⟨na,nc,rfl,hnl,hnc⟩:=hD.nodes.shape;obtain ⟨la,lc,rfl,hll,hlc⟩:=hO.shape;have HCK:Hid (qJ ns l=if !qu ns then 1 else if 20<l.length then 2 else if qP ns l≠0 then qP ns l else if twiceB l then 5 else 0):=rfl
 have hb1:=Below.alloc1 w (.cells #[.slice na ns.length nc] 24)
 have HBX:Hid (∀ W,Below (w.alloc (.cells #[.slice na ns.length nc] 24)).heap.size (w.alloc (.cells #[.slice na ns.length nc] 24)) W→W.cell? ⟨w.heap.size,0,none⟩=some (.slice na ns.length nc)):=by
  intro W hW;have h0:=heap_alloc_new w (.cells #[.slice na ns.length nc] 24);have e1:=(hW.block _ (qh h0)).trans h0;rw[cH9 e1];rfl
 have HID:Hid _:=hI S _ ns (w.alloc (.cells #[.slice na ns.length nc] 24)) (hD.later hb1);have HD:Hid (Qn S w (.slice na ns.length nc) ns):=hD;have HO:Hid (Ops T w (n+1) (.slice la l.length lc) l):=hO;have HF:Hid (Xi n l):=hf;have HBS:Hid _:=hb1;have HIO:Hid IsDocOk:=hI;unfold maxLen at hnc hlc
 clear hD hO hf hb1 hI;cases hg:qu ns with
 | false =>
   rw[hg]at HCK HID
   have HR:Hid (qJ ns l=1):=by show _=_;rw[HCK.out];rfl
   clear HCK hg
   go_enter Tryz.func12,Tryz.ntmps12
   go_wp2_with fail;refine Calls.mono HID.out ?_;rintro e w2 ⟨rfl,hb2⟩;go_wp2_with fail;go_ret;exact ⟨by rw[HR.out];rfl,HBS.out.trans (hb2.mono HBS.out.size)⟩
 | true =>
 rw[hg]at HCK HID
 have HG:Hid (qu ns=true):=hg;clear hg
 go_enter Tryz.func12,Tryz.ntmps12
 go_wp2_with fail
 generalize w.alloc (.cells #[.slice na ns.length nc] 24)=W1 at *
 refine Calls.mono HID.out ?_;rintro e w2 ⟨rfl,hb2⟩;have HW:Hid (∀ W,Below W1.heap.size W1 W→Below w.heap.size w W):=fun W hW=>HBS.out.trans (hW.mono HBS.out.size)
 clear HID
 by_cases h20:20<l.length
 · have HR : Hid (qJ ns l = 2) := by show _ = _;rw[HCK.out];simp[h20]
   have h20i:(20:Int)<(l.length:Int):=by omega
   clear HCK;go_wp2_with fail;go_ret;exact ⟨by rw[HR.out];rfl,HW.out _ hb2⟩
 have HCK2:Hid (qJ ns l=if qP ns l≠0 then qP ns l else if twiceB l then 5 else 0):=by show _=_;rw[HCK.out];simp[h20]
 have h20i:¬ ((20:Int)<(l.length:Int)):=by omega
 clear HCK;go_wp2_with fail
 go_loopg [18] l.length (fun g i wr=>∃ k:Nat,k+g=l.length∧i=.int .i64 (k:Int)∧qP ns (l.take k)=0∧Below W1.heap.size W1 wr)
 case atStart => exact ⟨0,by omega,rfl,rfl,hb2⟩
 case round =>
  obtain ⟨k,hk,rfl,hfk,hB⟩:=hrel;have HFK:Hid _:=hfk;have HB:Hid (Below W1.heap.size W1 wr):=hB;clear hfk hB
  by_cases hlt:k<l.length
  · have hlti : (k : Int) < (l.length : Int) := by omega
    obtain ⟨x,hx⟩:∃ x,l[k]?=some x:=⟨l[k],by simp[hlt]⟩
    obtain ⟨b,o,cap',ca,cc,hv,_,_,c0,c1,c2,c3,c4,hT⟩:=(HO.out.later (HW.out _ HB.out)).at hx
    injection hv with hv1 hv2 hv3
    subst hv1 hv3;obtain ⟨f1,f2,f3,f4⟩:=HF.out x (List.mem_of_getElem? hx);obtain ⟨g1,g2⟩:=Ys HFK.out hx;have HG1:Hid _:=g1;have HG2:Hid _:=g2;have hb3:=Below.alloc1 wr (.cells #[.int .i64 x.kind,.int .i64 x.target,.slice ca x.content.length cc,.string x.name,.string x.s] 30);have hB3:=HB.out.trans (hb3.mono HB.out.size);have HIS:Hid _:=YG HIO.out S T n _ ca cc ns x _ (HD.out.later (HW.out _ hB3)) (qd.later hb3 (n+1) hT) f1 f2 f3 f4;rw[HG.out,if_pos rfl]at HIS
    have HB3:Hid _:=hB3;have d0:=HBX.out _ hB3;clear hT hx hv2 g1 g2 hb3 hB3 f1 f2 f3 f4
    generalize qE ns x=R at *
    go_wp2_with fail;refine Calls.mono HIS.out ?_;rintro e w4 ⟨rfl,hb4⟩;have HB4:Hid (Below W1.heap.size W1 w4):=HB3.out.trans (hb4.mono HB3.out.size)
    by_cases hR:R=0
    · subst hR;clear HG2;go_wp2_with fail
      go_roundg (l.length-(k+1))
      case measure => omega
      case rel => exact ⟨k+1,by omega,by go_num,HG1.out,HB4.out⟩
    · have hRb : (R == 0) = false := by simpa using hR
      have HR:Hid (qJ ns l=R):=by
       show _=_
       rw[HCK2.out,HG2.out hR,if_pos hR]
      clear HG1 HG2 HCK2 hR;go_wp2_with fail;go_ret;exact ⟨by rw[HR.out];rfl,HW.out _ HB4.out⟩
  · have hlti : ¬ ((k : Int) < (l.length : Int)) := by omega
    have hkk:k=l.length:=by omega
    subst hkk;rw[List.take_length]at HFK
    have HCK3:Hid (qJ ns l=if twiceB l then 5 else 0):=by show _=_;rw[HCK2.out,HFK.out];rfl
    have hb2':=HB.out;clear HCK2 HFK HIO HG HD;go_wp2_with fail
    go_loopg [31] l.length (fun g i wr=>∃ k:Nat,k+g=l.length∧i=.int .i64 (k:Int)∧twiceB (l.take k)=false∧Below W1.heap.size W1 wr)
    case atStart => exact ⟨0,by omega,rfl,rfl,HB.out⟩
    case round =>
     clear HB hb2' hlti;obtain ⟨i,hi,rfl,hti,hB⟩:=hrel;have HTI:Hid _:=hti;have HB:Hid (Below W1.heap.size W1 wr):=hB;clear hti hB
     by_cases hlt:i<l.length
     · have hlti : (i : Int) < (l.length : Int) := by omega
       obtain ⟨x,hx⟩:∃ x,l[i]?=some x:=⟨l[i],by simp[hlt]⟩
       have HX:Hid (l[i]?=some x):=hx;have HTK:Hid _:=twice_take l i x hx;clear hx;go_wp2_with fail
       go_loopg [35] i (fun g j wr=>∃ k:Nat,k+g=i∧j=.int .i64 (k:Int)∧(l.take k).any (fun e=>agB e x)=false∧Below W1.heap.size W1 wr)
       case atStart => exact ⟨0,by omega,rfl,rfl,HB.out⟩
       case round =>
        clear HB;obtain ⟨k,hk,rfl,hak,hB⟩:=hrel;have HAK:Hid _:=hak;have HB:Hid (Below W1.heap.size W1 wr):=hB;clear hak hB
        by_cases hki:k<i
        · have hkii : (k : Int) < (i : Int) := by omega
          have hkl:(k:Int)<(l.length:Int):=by omega
          obtain ⟨y,hy⟩:∃ y,l[k]?=some y:=⟨l[k]'(by omega),by simp⟩
          have HOW:Hid (Ops T wr (n+1) (.slice la l.length lc) l):=HO.out.later (HW.out _ HB.out);obtain ⟨b,o,cap',ca,cc,hv,_,hbl,c0,c1,c2,c3,c4,_⟩:=HOW.out.at HX.out
          injection hv with hv1 hv2 hv3
          subst hv1 hv3;obtain ⟨b',o',cap'',ca',cc',hv',_,_,e0,e1,e2,e3,e4,_⟩:=HOW.out.at hy
          injection hv' with hv1' hv2' hv3'
          injection hv1' with hv1'
          injection hv1' with hq1 hq2 _
          subst hq1 hq2;have HAT:Hid _:=Kc (x:=x) hy;have HSY:Hid _:=X8 x y;have HAG:Hid (∀ W,Calls Tryz.prog 10 #[.agg #[.int .i64 x.kind,.int .i64 x.target,.slice ca x.content.length cc,.string x.name,.string x.s],.agg #[.int .i64 y.kind,.int .i64 y.target,.slice ca' y.content.length cc',.string y.name,.string y.s]] W fun e w'=>e=.returned (.bool (agB x y))∧Below W.heap.size W w'):=fun W=>xd x y _ _ W
          have HCC:Hid (∀ W,Below wr.heap.size wr W→(W.cell? ⟨b,o+i*5,none⟩=some (.int .i64 x.kind)∧W.cell? ⟨b,o+i*5+1,none⟩=some (.int .i64 x.target)∧W.cell? ⟨b,o+i*5+2,none⟩=some (.slice ca x.content.length cc)∧W.cell? ⟨b,o+i*5+3,none⟩=some (.string x.name)∧W.cell? ⟨b,o+i*5+4,none⟩=some (.string x.s))∧W.cell? ⟨b,o+k*5,none⟩=some (.int .i64 y.kind)∧W.cell? ⟨b,o+k*5+1,none⟩=some (.int .i64 y.target)∧W.cell? ⟨b,o+k*5+2,none⟩=some (.slice ca' y.content.length cc')∧W.cell? ⟨b,o+k*5+3,none⟩=some (.string y.name)∧W.cell? ⟨b,o+k*5+4,none⟩=some (.string y.s)):=by
           intro W hW;have q:∀ z,W.cell? ⟨b,z,none⟩=wr.cell? ⟨b,z,none⟩:=fun z=>World.cell?_of_block (a:=⟨b,z,none⟩) (hW.block b hbl)
           exact ⟨⟨(q _).trans c0,(q _).trans c1,(q _).trans c2,(q _).trans c3,(q _).trans c4⟩,(q _).trans e0,(q _).trans e1,(q _).trans e2,(q _).trans e3,(q _).trans e4⟩
          have hbn:Below wr.heap.size wr wr.drew:=(Below.refl _ wr).drew;clear hv2 hv2' hv3' hy c0 c1 c2 c3 c4 e0 e1 e2 e3 e4 HOW;go_wp2_with fail
          go_region_held3 (fun W:World=>(W.cell? ⟨b,o+i*5,none⟩=some (.int .i64 x.kind)∧W.cell? ⟨b,o+i*5+1,none⟩=some (.int .i64 x.target)∧W.cell? ⟨b,o+i*5+2,none⟩=some (.slice ca x.content.length cc)∧W.cell? ⟨b,o+i*5+3,none⟩=some (.string x.name)∧W.cell? ⟨b,o+i*5+4,none⟩=some (.string x.s))∧W.cell? ⟨b,o+k*5,none⟩=some (.int .i64 y.kind)∧W.cell? ⟨b,o+k*5+1,none⟩=some (.int .i64 y.target)∧W.cell? ⟨b,o+k*5+2,none⟩=some (.slice ca' y.content.length cc')∧W.cell? ⟨b,o+k*5+3,none⟩=some (.string y.name)∧W.cell? ⟨b,o+k*5+4,none⟩=some (.string y.s))
           (with_reducible exact HCC.out _ hbn)
           ((go_at_call 10;refine (Calls.mono (HAG.out _) ?_);rintro e w5 ⟨rfl,hb5⟩;have hbn:=hbn.trans (hb5.mono hbn.size)))
          have HB5:Hid (Below W1.heap.size W1 w5):=HB.out.trans (hbn.mono HB.out.size);cases hq:agB x y with
          | true =>
            have HR:Hid (qJ ns l=5):=by
             show _=_
             rw[HCK3.out,if_pos];refine twice_mono l (i+1) ?_;rw[HTK.out];have h1:(l.take (k+1)).any (fun e=>agB e x)=true:=by rw[HAT.out,←HSY.out,hq];simp
             have h2:(l.take i).any (fun e=>agB e x)=true:=by
              rw[List.any_eq_true]at h1 ⊢
              obtain ⟨z,hz,hz2⟩:=h1;exact ⟨z,(List.take_sublist_take_left (by omega)).subset hz,hz2⟩
             rw[h2];simp
            clear HCC HAG HAT HSY HTK HCK3 HAK HTI;go_wp2_with fail;go_ret;exact ⟨by rw[HR.out];rfl,HW.out _ HB5.out⟩
          | false =>
            have HA2:Hid ((l.take (k+1)).any (fun e=>agB e x)=false):=by
             show _=_
             rw[HAT.out,←HSY.out,hq,HAK.out];rfl
            clear HCC HAG HAT HSY;go_wp2_with fail
            go_roundg (i-(k+1))
            case measure => omega
            case rel => exact ⟨k+1,by omega,by go_num,HA2.out,HB5.out⟩
        · have hkii : ¬ ((k : Int) < (i : Int)) := by omega
          have hkk:k=i:=by omega
          subst hkk;have HT2:Hid (twiceB (l.take (k+1))=false):=by show _=_;rw[HTK.out,HTI.out,HAK.out];rfl
          clear HTK HAK HTI;go_wp2_with fail
          go_roundg (l.length-(k+1))
          case measure => omega
          case rel => exact ⟨k+1,by omega,by go_num,HT2.out,HB.out⟩
     · have hlti : ¬ ((i : Int) < (l.length : Int)) := by omega
       have hii:i=l.length:=by omega
       subst hii;rw[List.take_length]at HTI
       have HR:Hid (qJ ns l=0):=by show _=_;rw[HCK3.out,HTI.out];rfl
       clear HTI HCK3;go_wp2_with fail;go_ret;exact ⟨by rw[HR.out];rfl,HW.out _ HB.out⟩
end
end Go.Proofs.YtnppmdpmippcoaaGreatDoor
namespace Go.Proofs.YtnppmdpmippcoaaGreatDoor
open Go.RowKit
set_option maxRecDepth 100000
theorem jt_mem:∀ {ts:List Tr}{u:Tr},u∈jt ts→∃ t∈ts,u.kids=t.kids∧u.attrs=t.attrs∧u.text=t.text:=by
 intro ts
 induction ts with
 | nil=>intro u hu;simp[jt]at hu
 | cons t r ih =>
   intro u hu;have more:(∃ t∈r,u.kids=t.kids∧u.attrs=t.attrs∧u.text=t.text)→∃ t'∈t::r,u.kids=t'.kids∧u.attrs=t'.attrs∧u.text=t'.text:=fun ⟨x,hx,h⟩=>⟨x,List.mem_cons_of_mem _ hx,h⟩
   unfold jt at hu
   split at hu
   · split at hu
     · exact more (ih hu)
     · split at hu
       · simp at hu;subst hu;exact ⟨u,List.mem_cons_self,rfl,rfl,rfl⟩
       · rename_i v r' hj
         split at hu
         · rcases List.mem_cons.1 hu with rfl | hu
           · exact ⟨t,List.mem_cons_self,rfl,rfl,rfl⟩
           · exact more (ih (by rw[hj];exact List.mem_cons_of_mem _ hu))
         · rcases List.mem_cons.1 hu with rfl | hu
           · exact ⟨u,List.mem_cons_self,rfl,rfl,rfl⟩
           · exact more (ih (by rw[hj];exact hu))
   · rcases List.mem_cons.1 hu with rfl | hu
     · exact ⟨u,List.mem_cons_self,rfl,rfl,rfl⟩
     · exact more (ih hu)
theorem Vo {n:Nat}{ts:List Tr}(h:Deep n ts):Deep n (jt ts):=by
 cases n with
 | zero=>have e:ts=[]:=h;subst e;rfl
 | succ n =>
   intro u hu;obtain ⟨t,ht,e,_⟩:=jt_mem hu;rw[e];exact h t ht
theorem jk_deep:∀ (m n:Nat)(t:Tr),Deep n t.kids→Deep n (jk m t).kids:=by
 intro m
 induction m with
 | zero => intro n t _;cases n with
   | zero=>rfl
   | succ n=>intro u hu;simp[jk]at hu
 | succ m ih =>
   intro n t h;have h1:=Vo h
   show Deep n ((jt t.kids).map (jk m))
   cases n with
   | zero=>have e:jt t.kids=[]:=h1;rw[e];rfl
   | succ n =>
     intro u hu;obtain ⟨v,hv,rfl⟩:=List.mem_map.1 hu;exact ih n v (h1 v hv)
def jA (s:Sg):Prop:=(∀ k∈s.first,Deep 8 k.kids)∧(∀ k∈s.last,Deep 8 k.kids)∧(∀ k∈s.bef,Deep 8 k.kids)∧(∀ k∈s.aft,Deep 8 k.kids)
theorem xM {α:Type}{p:α→Prop}{a b:List α}(ha:∀ k∈a,p k)(hb:∀ k∈b,p k):∀ k∈a++b,p k:=by
 intro k hk
 rcases List.mem_append.1 hk with h|h
 · exact ha k h
 · exact hb k h
theorem Kp {k:Int}{o:Opn}{s:Sg}(ho:∀ k∈o.content,Deep 8 k.kids)(hs:jA s):jA (gOf k o s):=by
 obtain ⟨h1,h2,h3,h4⟩:=hs;unfold gOf
 split
 · exact ⟨h1,h2,h3,h4⟩
 split
 · exact ⟨h1,h2,h3,h4⟩
 split
 · exact ⟨h1,h2,h3,h4⟩
 split
 · exact ⟨h1,h2,xM h3 ho,h4⟩
 split
 · exact ⟨h1,xM h2 ho,h3,h4⟩
 split
 · exact ⟨xM ho h1,h2,h3,h4⟩
 split
 · exact ⟨h1,h2,h3,xM ho h4⟩
 split
 · exact ⟨h1,h2,xM h3 ho,h4⟩
 split
 · exact ⟨h1,h2,h3,h4⟩
 · exact ⟨h1,h2,h3,h4⟩
theorem zX {k:Int}:∀ (l:List Opn)(σ:Nat→Sg),(∀ o∈l,∀ k∈o.content,Deep 8 k.kids)→(∀ n,jA (σ n))→∀ n,jA (doF k σ l n):=by
 intro l
 induction l with
 | nil=>intro σ _ h n;exact h n
 | cons o l ih =>
   intro σ ho h n;rw[xF];refine ih _ (fun x hx=>ho x (List.mem_cons_of_mem _ hx)) (fun m=>?_) n
   split
   · unfold upd
     split
     · exact Kp (ho o List.mem_cons_self) (h m)
     · exact h m
   · exact h m
theorem Zw {ns:List Nd}{l:List Opn}(ho:∀ o∈l,∀ k∈o.content,Deep 8 k.kids):∀ n,jA (jm ns l n):=by
 have hr:∀ o∈l.reverse,∀ k∈o.content,Deep 8 k.kids:=fun o h=>ho o (List.mem_reverse.1 h)
 unfold jm;refine zX l _ ho (zX l _ ho (zX l _ ho (zX l.reverse _ hr (zX l.reverse _ hr (zX l _ ho (zX l _ ho (zX l _ ho (zX l _ ho (zX l _ ho ?_)))))))));intro n;unfold zE
 split
 · exact ⟨by simp[sg0],by simp[sg0],by simp[sg0],by simp[sg0]⟩
 · exact ⟨by simp,by simp,by simp,by simp⟩
theorem X9 {σ:Nat→Sg}(hσ:∀ n,jA (σ n)){n:Nat}{x:Nd}{t:Tr}(ht:Sum.inr t∈zd σ n x):Deep 8 t.kids:=by
 have inK:Sum.inr t∈zG σ n x.kids→Deep 8 t.kids:=by
  intro hin;unfold zG qU at hin
  simp only[List.mem_append,List.mem_map,List.mem_flatMap]at hin
  rcases hin with ⟨k,hk,h⟩|⟨u,_,h⟩|⟨k,hk,h⟩
  · injection h with h;subst h;exact (hσ n).1 k hk
  · unfold qH qU xv at h
    simp only[List.mem_append,List.mem_map]at h
    rcases h with ⟨k,hk,h⟩|h|⟨k,hk,h⟩
    · injection h with h;subst h;exact (hσ _).2.2.1 k hk
    · split at h
      · simp at h
      · simp at h
    · injection h with h;subst h;exact (hσ _).2.2.2 k hk
  · injection h with h;subst h;exact (hσ n).2.1 k hk
 unfold zd at ht
 split at ht
 · exact inK ht
 · split at ht
   · simp at ht;subst ht;intro k hk;simp[valT]at hk
   · exact inK ht
theorem Xn {ns:List Nd}{σ:Nat→Sg}(hσ:∀ n,jA (σ n)):∀ (f n:Nat),Deep (f+8) (bodyF f ns σ n).kids:=by
 intro f
 induction f with
 | zero=>intro n k hk;simp[bodyF]at hk
 | succ f ih =>
   intro n;rw[bodyF]
   split
   · intro k hk;simp at hk
   · rename_i x hx
     rw[show f+1+8=(f+8)+1 by omega]
     intro k hk;obtain ⟨e,he,rfl⟩:=List.mem_map.1 hk;cases e with
     | inl m=>exact ih m
     | inr t=>exact (X9 hσ he).upto (by omega)
theorem Y7 {ns:List Nd}{l:List Opn}(h:qJ ns l=0):Deep (ns.length+8) (zr ns l).kids∧Deep (ns.length+9) (zC ns l).kids:=by
 have h3:=((je _ _).1 h).2.2.1;have h1:=Xn (ns:=ns) (Zw (ns:=ns) (l:=l) (fun o ho=>(xO (h3 o ho)).1.deep)) ns.length 0
 exact ⟨h1,jk_deep _ _ _ (h1.more)⟩
theorem cnt_wide:∀ {d:Nat}{ts:List Tr},Deep d ts→∀ {n:Nat},d≤n→cnt n ts=cnt d ts:=by
 intro d
 induction d with
 | zero=>intro ts h n _;have e:ts=[]:=h;subst e;rw[qx,qx]
 | succ d ih =>
   intro ts h n hn;obtain ⟨m,rfl⟩:∃ m,n=m+1:=⟨n-1,by omega⟩
   have:∀ l:List Tr,(∀ t∈l,Deep d t.kids)→cnt (m+1) l=cnt (d+1) l:=by
    intro l
    induction l with
    | nil=>intro _;rw[qx,qx]
    | cons t r ihl =>
      intro hl;rw[qO,qO,ih (hl t List.mem_cons_self) (by omega),ihl (fun u hu=>hl u (List.mem_cons_of_mem _ hu))]
   exact this ts h
theorem jT {ns:List Nd}(hg:qu ns=true):∃ (d:Nat)(t:Tr),Deep d t.kids∧layF d t (-1) 0=ns∧qR t=true∧growF ns.length ns 0=t∧t.text=false∧rgt (d+1) [t]=true∧d≤ns.length+1:=by
 have hg2:=hg;simp only[qu,Bool.and_eq_true,decide_eq_true_eq]at hg2
 have ho:=yu hg2.1.2;obtain ⟨t,hd,hs,hn⟩:=ord_conv (ns.length+1) ns (-1) 0 (by rw[ho])
 rw[ho]at hn
 simp only[Nat.zero_add]at hn
 have hgr:=grow_lay _ t ns.length ns (-1) 0 hd hs (by omega)
 have hG:=hg2.2;rw[hgr]at hG
 have hG2:=hG;rw[jh hd]at hG
 simp only[Bool.and_eq_true,Bool.not_eq_true']at hG
 refine ⟨_,t,hd,?_,hG2,hgr,hG.1.1.1,hG.2,nR9 _⟩;have hl:=layF_length _ t (-1) 0 hd;refine List.ext_getElem? (fun i=>?_)
 rcases Nat.lt_or_ge i ns.length with hi|hi
 · have e : (layF (ns.length + 1) t (-1) 0)[i]? = some ((layF (ns.length + 1) t (-1) 0)[i]'(by omega)) := List.getElem?_eq_getElem _
   have:=hs i _ e;rw[Nat.zero_add]at this
   rw[e,this]
 · rw[List.getElem?_eq_none hi,List.getElem?_eq_none (by omega)]
section
structure Fr where
 t:Tr
 ahead:List Tr
 behind:List Tr
def plug:List Fr→List Tr→List Tr
 | [],X=>X
 | f::fs,X=>[{ f.t with kids:=f.ahead++(plug fs X++f.behind) }]
def stZ (D:Nat):List Fr→Nat→Nat
 | [],a=>a
 | f::fs,a=>stZ D fs (a+1+cnt D f.ahead)
def Y6 (ns:List Nd)(d:Nat):Nat→List Tr→Prop
 | _,[]=>True
 | b,k::ks=>(∃ par:Int,Seg ns b (layF d k par b))∧Y6 ns d (b+cnt (d+1) [k]) ks
theorem VF {ns:List Nd}{d p:Nat}:∀ (ks:List Tr)(b:Nat),(∀ k∈ks,Deep d k.kids)→Seg ns b (qp d (layF d) p b ks)→Y6 ns d b ks:=by
 intro ks
 induction ks with
 | nil=>intro b _ _;trivial
 | cons k ks ih =>
   intro b hd hs;rw[qp]at hs
   have hk:=hd k List.mem_cons_self;have hr:=hs.right;rw[layF_length d k p b hk]at hr
   exact ⟨⟨_,hs.left⟩,ih _ (fun u hu=>hd u (List.mem_cons_of_mem _ hu)) hr⟩
theorem Qm {ns:List Nd}{d:Nat}:∀ (A C:List Tr)(b:Nat),Y6 ns d b (A++C)→Y6 ns d b A∧Y6 ns d (b+cnt (d+1) A) C:=by
 intro A
 induction A with
 | nil=>intro C b h;exact ⟨trivial,by simpa[qx] using h⟩
 | cons k A ih =>
   intro C b h;obtain ⟨h1,h2⟩:=ih C _ h.2;refine ⟨⟨h.1,h1⟩,?_⟩;rw[qG,←Nat.add_assoc];exact h2
theorem J2 (d:Nat)(t:Tr):0<cnt (d+1) [t]:=by rw[qt];omega
section
variable {ns : List Nd} {σ : Nat → Sg} {n : Nat}
theorem plug_ne:∀ (fs:List Fr)(u:Tr)(tl:List Tr),plug fs (u::tl)≠[]:=by
 intro fs u tl;cases fs<;>simp[plug]
theorem qau {D:Nat}:∀ (fs:List Fr)(d b:Nat)(u:Tr)(tl:List Tr),(∀ k∈plug fs (u::tl),Deep d k.kids)→d+1≤D→stZ D fs b<b+cnt (d+1) (plug fs (u::tl)):=by
 intro fs
 induction fs with
 | nil=>intro d b u tl _ _;show b<b+cnt (d+1) (u::tl);rw[qG];have:=J2 d u;omega
 | cons f fs ih =>
   intro d b u tl hd hD;have hk:=hd _ (List.mem_singleton.2 rfl);cases d with
   | zero =>
     have e:f.ahead++(plug fs (u::tl)++f.behind)=[]:=hk;simp at e
     exact absurd e.2.1 (plug_ne fs u tl)
   | succ d =>
     have hk':∀ k∈f.ahead++(plug fs (u::tl)++f.behind),Deep d k.kids:=hk;have hA:cnt D f.ahead=cnt (d+1) f.ahead:=cnt_wide (d:=d+1) (fun k h=>hk' k (List.mem_append_left _ h)) (by omega)
     have:=ih d (b+1+cnt D f.ahead) u tl (fun k h=>hk' k (List.mem_append_right _ (List.mem_append_left _ h))) (by omega)
     show stZ D fs (b+1+cnt D f.ahead)<b+cnt (d+1+1) [{ f.t with kids:=f.ahead++(plug fs (u::tl)++f.behind) }]
     rw[qt,ze,ze];omega
end
theorem XP {ns:List Nd}{D:Nat}{u:Tr}{tl:List Tr}:∀ (fs:List Fr)(d b:Nat),(∀ k∈plug fs (u::tl),Deep d k.kids)→Y6 ns d b (plug fs (u::tl))→d+1≤D→∃ e par,Deep e u.kids∧Seg ns (stZ D fs b) (layF e u par (stZ D fs b))∧e≤d:=by
 intro fs
 induction fs with
 | nil =>
   intro d b hd hs _;obtain ⟨⟨par,h1⟩,h2⟩:=hs;exact ⟨d,par,hd u List.mem_cons_self,h1,nR9 _⟩
 | cons g fs ih =>
   intro d b hd hs hD;obtain ⟨⟨par,h1⟩,_⟩:=hs;have hk:=hd _ (List.mem_singleton.2 rfl);cases d with
   | zero =>
     have e:g.ahead++(plug fs (u::tl)++g.behind)=[]:=hk;simp at e
     exact absurd e.2.1 (plug_ne fs u tl)
   | succ d =>
     have hk':∀ k∈g.ahead++(plug fs (u::tl)++g.behind),Deep d k.kids:=hk;have hsl:=VF _ (b+1) hk' (Seg.tail h1);obtain ⟨s1,s2⟩:=Qm _ _ _ hsl;obtain ⟨s3,s4⟩:=Qm _ _ _ s2;have hA:cnt D g.ahead=cnt (d+1) g.ahead:=cnt_wide (d:=d+1) (fun k h=>hk' k (List.mem_append_left _ h)) (by omega)
     obtain ⟨e,p,e1,e2,e3⟩:=ih d (b+1+cnt (d+1) g.ahead) (fun k h=>hk' k (List.mem_append_right _ (List.mem_append_left _ h))) s3 (by omega)
     refine ⟨e,p,e1,?_,by omega⟩
     show Seg ns (stZ D fs (b+1+cnt D g.ahead)) (layF e u p (stZ D fs (b+1+cnt D g.ahead)))
     rw[hA];exact e2
theorem qad {D:Nat}:∀ (d:Nat)(T:Tr)(a n:Nat),Deep d T.kids→d+1≤D→a≤n→n<a+cnt (d+1) [T]→∃ fs u,plug fs [u]=[T]∧stZ D fs a=n:=by
 intro d
 induction d with
 | zero =>
   intro T a n hd _ h1 h2;have e:T.kids=[]:=hd;rw[qt,e,qx]at h2
   exact ⟨[],T,rfl,by show a=n;omega⟩
 | succ d ih =>
   intro T a n hd hD h1 h2
   by_cases hn:n=a
   · exact ⟨[],T,rfl,hn.symm⟩
   · rw[qt]at h2
     have key:∀ (ks:List Tr) (b:Nat),(∀ k∈ks,Deep d k.kids)→b≤n→n<b+cnt (d+1) ks→∃ A k C fs u,ks=A++k::C∧plug fs [u]=[k]∧stZ D fs (b+cnt (d+1) A)=n:=by
      intro ks
      induction ks with
      | nil=>intro b _ h3 h4;rw[qx]at h4;omega
      | cons k ks ihk =>
        intro b hdk h3 h4;rw[qG]at h4
        by_cases hk:n<b+cnt (d+1) [k]
        · obtain ⟨fs, u, e1, e2⟩ := ih k b n (hdk k List.mem_cons_self) (by omega) h3 hk
          exact ⟨[],k,ks,fs,u,rfl,e1,by rw[qx];exact e2⟩
        · obtain ⟨A, k', C, fs, u, e1, e2, e3⟩ := ihk (b + cnt (d + 1) [k]) (fun x hx => hdk x (List.mem_cons_of_mem _ hx)) (by omega) (by omega)
          exact ⟨k::A,k',C,fs,u,by rw[e1];rfl,e2,by rw[qG,←Nat.add_assoc];exact e3⟩
     obtain ⟨A,k,C,fs,u,e1,e2,e3⟩:=key T.kids (a+1) hd (by omega) (by omega)
     refine ⟨⟨T,A,C⟩::fs,u,?_,?_⟩
     · show [({ T with kids := A ++ (plug fs [u] ++ C) } : Tr)] = [T]
       rw[e2]
       show [({ T with kids:=A++(k::C) }:Tr)]=[T]
       rw[←e1];cases T;rfl
     · show stZ D fs (a + 1 + cnt D A) = n
       rw[cnt_wide (d:=d+1) (ts:=A) (fun x hx=>hd x (by rw[e1];exact List.mem_append_left _ hx)) (by omega)]
       exact e3
end
section
structure Zip (ns:List Nd) (n d:Nat) (T u:Tr) (tl:List Tr) (fs:List Fr):Prop where
 deep:Deep d T.kids
 wide:d≤100
 laid:layF d T (-1) 0=ns
 plug:plug fs (u::tl)=[T]
 num:stZ 1000 fs 0=n
 good:qR T=true
theorem QE {ns:List Nd}(h:qu ns=true):ns.length≤80:=by
 simp only[qu,Bool.and_eq_true,decide_eq_true_eq]at h
 exact h.1.1
theorem Xh {ns:List Nd}(hg:qu ns=true){n:Nat}(hn:n<ns.length):∃ d T u fs,Zip ns n d T u [] fs:=by
 obtain ⟨d,t,hd,hl,hG,_,_,_,hdl⟩:=jT hg;have h80:=QE hg;have hlen:=layF_length d t (-1) 0 hd;rw[hl]at hlen
 obtain ⟨fs,u,e1,e2⟩:=qad (D:=1000) d t 0 n hd (by omega) (nZ9 _) (by omega)
 exact ⟨d,t,u,fs,hd,by omega,hl,e1,e2,hG⟩
section
variable {ns : List Nd} {n d : Nat} {T u : Tr} {tl : List Tr} {fs : List Fr}
theorem Zip.segL (h:Zip ns n d T u tl fs):Y6 ns d 0 (Go.Proofs.YtnppmdpmippcoaaGreatDoor.plug fs (u::tl))∧∀ k∈Go.Proofs.YtnppmdpmippcoaaGreatDoor.plug fs (u::tl),Deep d k.kids:=by
 rw[h.plug];refine ⟨⟨⟨-1,by rw[←h.laid];exact QS _⟩,trivial⟩,fun k hk=>?_⟩
 simp at hk
 subst hk;exact h.deep
theorem Zip.node (h:Zip ns n d T u tl fs):∃ e par,Deep e u.kids∧Seg ns n (layF e u par n):=by
 obtain ⟨h1,h2⟩:=h.segL;obtain ⟨e,par,h3,h4,_⟩:=XP (D:=1000) fs d 0 h2 h1 (by have:=h.wide;omega)
 rw[h.num]at h4
 exact ⟨e,par,h3,h4⟩
theorem Zip.get (h:Zip ns n d T u tl fs):∃ x,ns[n]?=some x∧x.text=u.text∧x.s=u.s∧x.attrs=u.attrs:=by
 obtain ⟨e,par,h1,h2⟩:=h.node;exact ⟨_,h2 0 _ (by rw[yh h1];rfl),rfl,rfl,rfl⟩
end
theorem jO {u:Tr}(h:qD u=true)(ht:u.text=false):zo u.s=true∧zD u.attrs=true:=by
 unfold qD at h
 rw[ht]at h
 simpa using h
theorem JB {u:Tr}{tl:List Tr}:∀ (fs:List Fr)(d:Nat),rgt (d+1) (plug fs (u::tl))=true→(∀ k∈plug fs (u::tl),Deep d k.kids)→qD u=true:=by
 intro fs
 induction fs with
 | nil=>intro d h _;exact (jX _ _ h u List.mem_cons_self).1
 | cons f fs ih =>
   intro d h hd;have hk:=hd _ (List.mem_singleton.2 rfl);cases d with
   | zero =>
     have e:f.ahead++(plug fs (u::tl)++f.behind)=[]:=hk;simp at e
     exact absurd e.2.1 (plug_ne fs u tl)
   | succ d =>
     have h1:=jX _ _ h _ (List.mem_singleton.2 rfl);have hk':∀ k∈f.ahead++(plug fs (u::tl)++f.behind),Deep d k.kids:=hk;cases ht:f.t.text with
     | true =>
       have:=xS h1.1 ht;simp at this
       exact absurd this.2.1 (plug_ne fs u tl)
     | false =>
       have h2:=h1.2;simp only[ht,Bool.false_or]at h2
       have h3:rgL (rgt d) false (f.ahead++(plug fs (u::tl)++f.behind))=true:=h2;have h4:∀ k∈plug fs (u::tl),qD k=true∧(k.text||rgt d k.kids)=true:=fun k hk=>jX _ _ h3 k (List.mem_append_right _ (List.mem_append_left _ hk))
       cases fs with
       | nil=>exact (h4 u List.mem_cons_self).1
       | cons g fs =>
         refine ih d ?_ (fun k hk=>hk' k (List.mem_append_right _ (List.mem_append_left _ hk)))
         have h5:=h4 _ (List.mem_singleton.2 rfl)
         show rgL (rgt d) false [_]=true
         simp only[rgL,Bool.and_eq_true,Bool.false_and,Bool.not_false,and_true];exact ⟨h5.1,h5.2⟩
theorem Zip.right {ns:List Nd}{n d:Nat}{T u:Tr}{tl:List Tr}{fs:List Fr}(h:Zip ns n d T u tl fs):qD u=true:=by
 have hG:=h.good;rw[jh h.deep]at hG
 simp only[Bool.and_eq_true]at hG
 obtain ⟨_,h2⟩:=h.segL;exact JB fs d (by rw[h.plug];exact hG.2) h2
theorem rgt_all:∀ {n:Nat}{ts:List Tr},Deep n ts→rgt n ts=true→∀ N,rgt N ts=true:=by
 intro n
 induction n with
 | zero=>intro ts h _ N;have e:ts=[]:=h;subst e;exact xR N
 | succ n ih =>
   intro ts hd h N;cases N with
   | zero=>rfl
   | succ N =>
     have key:∀ (l:List Tr) (p:Bool),(∀ t∈l,Deep n t.kids)→rgL (rgt n) p l=true→rgL (rgt N) p l=true:=by
      intro l
      induction l with
      | nil=>intro p _ _;rfl
      | cons t l ihl =>
        intro p hd h;simp only[rgL,Bool.and_eq_true]at h ⊢
        refine ⟨⟨h.1.1,?_⟩,ihl _ (fun u hu=>hd u (List.mem_cons_of_mem _ hu)) h.2⟩
        have h3:=h.1.2;cases htx:t.text with
        | true=>rfl
        | false =>
          rw[htx,Bool.false_or]at h3
          rw[Bool.false_or];exact ih (hd t List.mem_cons_self) h3 N
     exact key ts false hd h
end
end Go.Proofs.YtnppmdpmippcoaaGreatDoor
namespace Go.Proofs.YtnppmdpmippcoaaGreatDoor
open Go.ChangeShapes Go.WideShapes Go.ChangeAt Go.RowKit
set_option maxRecDepth 100000
theorem yO {w:World}{B B':Nat}{e:TypeId}{size:Nat}{v:Value}{n:Nat}{xs:List Value}(h:w.ownsRow B e size v n xs)(hb:B'≤B):w.ownsRow B' e size v n xs:=by
 refine ⟨h.1,?_⟩
 rcases h.2 with h2|⟨g,cap,cur,hv,hg,r⟩
 · exact Or.inl h2
 · exact Or.inr ⟨g,cap,cur,hv,Nat.le_trans hb hg,r⟩
def Qi (B:Nat)(w:World)(r:Rw)(x:Nd):Prop:=r.text=x.text∧r.s=x.s∧r.par=x.parent∧qj (qA B 79 w) w r.va x.attrs∧qF B w r.vk x.kids
structure zB (B:Nat) (w:World) (v:Value) (ns:List Nd) (ms:List Rw):Prop where
 len:ms.length=ns.length
 own:w.ownsRow B 43 5 v ns.length (rawCells ms)
 each:∀ (i:Nat) (r:Rw) (x:Nd),ms[i]?=some r→ns[i]?=some x→Qi B w r x
 apart:∀ (i j:Nat) (r q:Rw) (b:Nat),i≠j→ms[i]?=some r→ms[j]?=some q→r.vk.ownBlock=some b→q.vk.ownBlock≠some b
theorem zB.nil (B:Nat)(w:World):zB B w (.slice none 0 0) [] [] :=
 ⟨rfl,World.ownsRow_nil _ _ _ _,fun i r x h=>by simp at h,fun i j r q b _ h=>by simp at h⟩
theorem zB.shape {B:Nat}{w:World}{v:Value}{ns:List Nd}{ms:List Rw}(h:zB B w v ns ms):∃ a c,v=.slice a ns.length c∧ns.length≤c∧c≤maxLen:=by
 rcases h.own.2 with ⟨hv,h0⟩|⟨g,cap,cur,hv,_,_,hc,hm,_⟩
 · exact ⟨none,0,by rw[hv,h0],by omega,nZ9 _⟩
 · exact ⟨_,_,hv,hc,hm⟩
theorem Qi.keep {B:Nat}{w w':World}{r:Rw}{x:Nd}(h:Qi B w r x)(hA:∀ b,qA B 79 w b→w'.heap[b]?=w.heap[b]?)(hI:∀ b,r.vk.ownBlock=some b→w'.heap[b]?=w.heap[b]?):Qi B w' r x :=
 ⟨h.1,h.2.1,h.2.2.1,h.2.2.2.1.carry fun b hb=>⟨hb.to (nR9 _) (hA b hb),hA b hb⟩,qo h.2.2.2.2 hI⟩
theorem zB.keep {B:Nat}{w w':World}{v:Value}{ns:List Nd}{ms:List Rw}(h:zB B w v ns ms)(hA:∀ b,qA B 79 w b→w'.heap[b]?=w.heap[b]?)(hI:∀ b,qA B 3 w b→w'.heap[b]?=w.heap[b]?)
 (hN:∀ b,v.ownBlock=some b→w'.heap[b]?=w.heap[b]?):zB B w' v ns ms :=
 ⟨h.len,qo h.own hN,fun i r x hr hx=>(h.each i r x hr hx).keep hA (fun b hb=>hI b (qe (h.each i r x hr hx).2.2.2.2 hb)),h.apart⟩
theorem zB.later {B:Nat}{w w':World}{v:Value}{ns:List Nd}{ms:List Rw}(h:zB B w v ns ms)(hb:Below w.heap.size w w'):zB B w' v ns ms :=
 h.keep (fun b hs=>hb.block b hs.lt) (fun b hs=>hb.block b hs.lt) (fun b hs=>hb.block b (h.own.lt b hs).2)
theorem zB.grown {B:Nat}{w w':World}{v:Value}{ns:List Nd}{ms:List Rw}{row:Option Nat}(h:zB B w v ns ms)(hg:w.grownBy w' row)(hr:∀ b,row=some b→∃ e,e≠43∧e≠79∧e≠3∧qA 0 e w b):zB B w' v ns ms:=by
 have ne:∀ {e':TypeId} {b:Nat},qA B e' w b→(e'=43∨e'=79∨e'=3)→row≠some b:=by
  intro e' b hs he hrow;obtain ⟨e,h1,h2,h3,_,c,fz,hc⟩:=hr b hrow;obtain ⟨_,c',fz',hc'⟩:=hs;rw[hc]at hc'
  injection hc' with hc'
  injection hc' with _ h4 _
  subst h4
  rcases he with he|he|he
  · exact h1 he
  · exact h2 he
  · exact h3 he
 exact h.keep (fun b hs=>hg.block b hs.lt (fun e=>ne hs (Or.inr (Or.inl rfl)) e.symm)) (fun b hs=>hg.block b hs.lt (fun e=>ne hs (Or.inr (Or.inr rfl)) e.symm)) (fun b hs=>hg.block b (h.own.lt b hs).2 (fun e=>ne (qe h.own hs) (Or.inl rfl) e.symm))
theorem jw (l m:List Rw):rawCells (l++m)=rawCells l++rawCells m:=by
 induction l with
 | nil=>rfl
 | cons x r ih=>simp[rawCells,ih]
theorem zB.snoc {B:Nat}{w w':World}{v v':Value}{ns:List Nd}{ms:List Rw}{r:Rw}{x:Nd}(h:zB B w v ns ms)
 (hown:w'.ownsRow B 43 5 v' (ns.length+1) (rawCells ms++[.bool r.text,.string r.s,r.va,.int .i64 r.par,r.vk])) (hg:w.grownBy w' v.ownBlock) (hR:Qi B w r x)
 (hap:∀ (i:Nat) (q:Rw) (b:Nat),ms[i]?=some q→q.vk.ownBlock=some b→r.vk.ownBlock≠some b):zB B w' v' (ns++[x]) (ms++[r]):=by
 have keep:∀ {r:Rw} {x:Nd},Qi B w r x→Qi B w' r x:=by
  intro r x hR;refine hR.keep (fun b hs=>hg.block b hs.lt (qn h.own hs (by decide))) (fun b hs=>hg.block b (qF.lt hR.2.2.2.2 b hs).2 (qn h.own (qe hR.2.2.2.2 hs) (by decide)))
 refine ⟨by simp[h.len],?_,?_,?_⟩
 · rw[jw,List.length_append];exact hown
 · intro i q y hq hy
   rcases Nat.lt_or_ge i ns.length with hi|hi
   · rw[List.getElem?_append_left (by rw[h.len];exact hi)]at hq
     rw[List.getElem?_append_left hi]at hy
     exact keep (h.each i q y hq hy)
   · rw[List.getElem?_append_right (by rw[h.len];exact hi)]at hq
     rw[List.getElem?_append_right hi]at hy
     rw[h.len]at hq
     have hz:i-ns.length=0:=by
      rcases Nat.eq_zero_or_pos (i-ns.length) with h'|h'
      · exact h'
      · rw[List.getElem?_eq_none (by simp;omega)]at hy;cases hy
     rw[hz]at hq hy
     simp at hq hy
     subst hq hy;exact keep hR
 · have last:∀ {i:Nat} {q:Rw},(ms++[r])[i]?=some q→(i<ms.length∧ms[i]?=some q)∨(i=ms.length∧q=r):=by
    intro i q hq
    rcases Nat.lt_or_ge i ms.length with hi|hi
    · rw[List.getElem?_append_left hi]at hq;exact Or.inl ⟨hi,hq⟩
    · rw[List.getElem?_append_right hi]at hq
      have hz:i-ms.length=0:=by
       rcases Nat.eq_zero_or_pos (i-ms.length) with h'|h'
       · exact h'
       · rw[List.getElem?_eq_none (by simp;omega)]at hq;cases hq
      rw[hz]at hq
      simp at hq
      exact Or.inr ⟨by omega,hq.symm⟩
   intro i j p q b hne hp hq hb
   rcases last hp with ⟨hi,hp'⟩|⟨hi,hpr⟩
   · rcases last hq with ⟨hj, hq'⟩ | ⟨hj, hqr⟩
     · exact h.apart i j p q b hne hp' hq' hb
     · rw[hqr];exact hap i p b hp' hb
   · rw[hpr]at hb
     rcases last hq with ⟨hj,hq'⟩|⟨hj,_⟩
     · exact fun e=>hap j q b hq' e hb
     · omega
theorem zB.done {B:Nat}{w:World}{v:Value}{ns:List Nd}{ms:List Rw}(h:zB B w v ns ms):qv (fun b=>B≤b) w v ns:=by
 rcases h.own.2 with ⟨hv,h0⟩|⟨g,cap,cur,hv,hB,hh,hc,hm,_⟩
 · have : ns = [] := List.eq_nil_of_length_eq_zero h0;subst this hv;exact qv.nil
 · subst hv;refine ⟨_,_,rfl,hc,hm,fun _=>⟨g,0,rfl,hB,fun i x hx=>?_⟩⟩
   have hi:i<ns.length:=by
    rcases Nat.lt_or_ge i ns.length with h'|h'
    · exact h'
    · rw[List.getElem?_eq_none h']at hx;cases hx
   obtain ⟨r,hr⟩:∃ r,ms[i]?=some r:=⟨ms[i]'(by rw[h.len];exact hi),by simp[h.len,hi]⟩
   obtain ⟨h1,h2,h3,h4,h5⟩:=h.each i r x hr hx;obtain ⟨g0,g1,g2,g3,g4⟩:=zq ms i r hr;refine ⟨r.va,r.vk,?_,?_,?_,?_,?_,h4.carry (fun b hb=>⟨hb.1,rfl⟩),h5.ints⟩
   · rw[Nat.zero_add,World.ownsRow.cellAt h.own (i*5) (by omega),g0,h1]
   · rw[Nat.zero_add,World.ownsRow.cellAt h.own (i*5+1) (by omega),g1,h2]
   · rw[Nat.zero_add,World.ownsRow.cellAt h.own (i*5+2) (by omega),g2]
   · rw[Nat.zero_add,World.ownsRow.cellAt h.own (i*5+3) (by omega),g3,h3]
   · rw[Nat.zero_add,World.ownsRow.cellAt h.own (i*5+4) (by omega),g4]
theorem zB.at {B:Nat}{w:World}{v:Value}{ns:List Nd}{ms:List Rw}(h:zB B w v ns ms){i:Nat}{r:Rw}(hr:ms[i]?=some r):∃ g cap,v=.slice (some ⟨g,0,none⟩) ns.length cap∧ns.length≤cap∧cap≤maxLen∧B≤g∧g<w.heap.size ∧
 w.cell? ⟨g,i*5+3,none⟩=some (.int .i64 r.par)∧w.cell? ⟨g,i*5+4,none⟩=some r.vk∧w.frozen? ⟨g,i*5+4,none⟩=false:=by
 have hi:i<ns.length:=by
  rw[←h.len]
  rcases Nat.lt_or_ge i ms.length with h'|h'
  · exact h'
  · rw[List.getElem?_eq_none h']at hr;cases hr
 have hown:=h.own
 rcases h.own.2 with ⟨hv,h0⟩|⟨g,cap,cur,hv,hB,hh,hc,hm,_⟩
 · omega
 · subst hv;obtain ⟨g0,g1,g2,g3,g4⟩:=zq ms i r hr;exact ⟨g,cap,rfl,hc,hm,hB,qh hh,by rw[World.ownsRow.cellAt h.own (i*5+3) (by omega),g3],by rw[World.ownsRow.cellAt h.own (i*5+4) (by omega),g4],World.ownsRow.frozenAt h.own _⟩
theorem zB.kid {B:Nat}{w w':World}{g cap:Nat}{ns:List Nd}{ms:List Rw}{i:Nat}{r:Rw}{x:Nd}{v':Value}{l:List Int}(h:zB B w (.slice (some ⟨g,0,none⟩) ns.length cap) ns ms)(hr:ms[i]?=some r)(hx:ns[i]?=some x)
 (hown:qF B w' v' l) (hg:w.grownBy w' r.vk.ownBlock) (hat:v'.ownBlock=r.vk.ownBlock∨v'.ownBlock=some w.heap.size) :
 zB B (w'.setCell ⟨g,i*5+4,none⟩ v') (.slice (some ⟨g,0,none⟩) ns.length cap) (ns.set i { x with kids:=l }) (ms.set i { r with vk:=v' }):=by
 have hR:=h.each i r x hr hx;have hgo:qA B 43 w g:=qe h.own rfl;have hgl:=hgo.lt;have hgr:some g≠r.vk.ownBlock:=qn hR.2.2.2.2 hgo (by decide)
 have hil:i<ns.length:=by
  rcases Nat.lt_or_ge i ns.length with h'|h'
  · exact h'
  · rw[List.getElem?_eq_none h']at hx;cases hx
 have own':w'.ownsRow B 43 5 (.slice (some ⟨g,0,none⟩) ns.length cap) ns.length (rawCells ms):=h.own.kept hg (Or.inr hgr)
 have hvg:v'.ownBlock≠some g:=by
  rcases hat with e|e
  · rw[e];exact fun e=>hgr e.symm
  · rw[e];intro e;injection e with e;omega
 have keepB:∀ b,b<w.heap.size→b≠g→r.vk.ownBlock≠some b→(w'.setCell ⟨g,i*5+4,none⟩ v').heap[b]?=w.heap[b]?:=fun b h1 h2 h3=>by
  rw[qb h2,hg.block b h1 (fun e=>h3 e.symm)]
 have attrs:∀ {r:Rw} {x:Nd},Qi B w r x→qj (qA B 79 (w'.setCell ⟨g,i*5+4,none⟩ v')) (w'.setCell ⟨g,i*5+4,none⟩ v') r.va x.attrs:=by
  intro q y hq;refine hq.2.2.2.1.carry fun b hb=>?_
  have e:(w'.setCell ⟨g,i*5+4,none⟩ v').heap[b]?=w.heap[b]?:=keepB b hb.lt (fun e=>by
   subst e;obtain ⟨_,c,fz,hc⟩:=hb;obtain ⟨_,c',fz',hc'⟩:=hgo;rw[hc]at hc'
   injection hc' with hc'
   injection hc' with _ h4 _
   exact absurd h4 (by decide)) (fun e=>qn hR.2.2.2.2 hb (by decide) e.symm)
  exact ⟨hb.to (nR9 _) e,e⟩
 refine ⟨by simp[h.len],?_,?_,?_⟩
 · rw[z1 ms i r v' hr, List.length_set];exact (own'.stored (i*5+4) v').1
 · intro j q y hq hy
   by_cases hj:j=i
   · subst hj;rw[List.getElem?_set_self (by rw[h.len];exact hil)]at hq
     rw[List.getElem?_set_self hil]at hy
     injection hq with hq
     injection hy with hy
     subst hq hy;exact ⟨hR.1,hR.2.1,hR.2.2.1,attrs (r:=r) (x:=x) hR,qo hown fun b hb=>qb (fun e=>hvg (by rw[hb,e]))⟩
   · rw[List.getElem?_set_ne (fun e => hj e.symm)]at hq hy
     have hq':=h.each j q y hq hy;exact ⟨hq'.1,hq'.2.1,hq'.2.2.1,attrs hq',qo hq'.2.2.2.2 fun b hb=>keepB b (qF.lt hq'.2.2.2.2 b hb).2 (fun e=>qn hq'.2.2.2.2 hgo (by decide) (by rw[hb,e])) (fun e=>h.apart i j r q b (fun e=>hj e.symm) hr hq e hb)⟩
 · intro j k p q b hne hp hq hb e
   by_cases hj:j=i
   · subst hj;rw[List.getElem?_set_self (by rw[h.len];exact hil)]at hp
     injection hp with hp
     subst hp;rw[List.getElem?_set_ne hne]at hq
     obtain ⟨y,hy⟩:∃ y,ns[k]?=some y:=⟨ns[k]'(by rw[←h.len];exact (List.getElem?_eq_some_iff.1 hq).1),by simp⟩
     have hlt:=(qF.lt (h.each k q y hq hy).2.2.2.2 b e).2;simp only at hb
     rcases hat with e1|e1
     · rw[e1]at hb;exact h.apart j k r q b hne hr hq hb e
     · rw[e1]at hb;injection hb with hb;omega
   · rw[List.getElem?_set_ne (fun e => hj e.symm)]at hp
     by_cases hk:k=i
     · subst hk;rw[List.getElem?_set_self (by rw[h.len];exact hil)]at hq
       injection hq with hq
       subst hq;obtain ⟨y,hy⟩:∃ y,ns[j]?=some y:=⟨ns[j]'(by rw[←h.len];exact (List.getElem?_eq_some_iff.1 hp).1),by simp⟩
       have hlt:=(qF.lt (h.each j p y hp hy).2.2.2.2 b hb).2;simp only at e
       rcases hat with e1|e1
       · rw[e1]at e;exact h.apart j k p r b hne hp hr hb e
       · rw[e1]at e;injection e with e;omega
     · rw[List.getElem?_set_ne (fun e => hk e.symm)]at hq
       exact h.apart j k p q b hne hp hq hb e
def yI (B:Nat)(w:World)(v:Value)(l:List (ByteArray × ByteArray)):Prop:=w.ownsRow B 79 2 v l.length (attrCells l)
structure QW (B:Nat) (T:Nat→Prop) (N i:Nat) (w:World) (r:Rw) (x:Nd):Prop where
 text:r.text=x.text
 s:r.s=x.s
 par:r.par=x.parent
 kids:qF B w r.vk x.kids
 own:i<N→yI B w r.va x.attrs
 far:N≤i→qj T w r.va x.attrs
structure qQ (B:Nat) (T:Nat→Prop) (N:Nat) (w:World) (v:Value) (ns:List Nd) (ms:List Rw):Prop where
 len:ms.length=ns.length
 row:w.ownsRow B 43 5 v ns.length (rawCells ms)
 each:∀ (i:Nat) (r:Rw) (x:Nd),ms[i]?=some r→ns[i]?=some x→QW B T N i w r x
 kids:∀ (i j:Nat) (r q:Rw) (b:Nat),i≠j→ms[i]?=some r→ms[j]?=some q→r.vk.ownBlock=some b→q.vk.ownBlock≠some b
 attrs:∀ (i j:Nat) (r q:Rw) (b:Nat),i≠j→i<N→j<N→ms[i]?=some r→ms[j]?=some q→r.va.ownBlock=some b→q.va.ownBlock≠some b
 low:∀ b,T b→b<B
 le:B≤w.heap.size
theorem QW.keep {B:Nat}{T:Nat→Prop}{N i:Nat}{w w':World}{r:Rw}{x:Nd}(h:QW B T N i w r x)(hlow:∀ b,T b→w'.heap[b]?=w.heap[b]?)(hA:i<N→∀ b,r.va.ownBlock=some b→w'.heap[b]?=w.heap[b]?)(hI:∀ b,r.vk.ownBlock=some b→w'.heap[b]?=w.heap[b]?):QW B T N i w' r x :=
 ⟨h.text,h.s,h.par,qo h.kids hI,fun hi=>qo (h.own hi) (hA hi),fun hi=>(h.far hi).carry fun b hb=>⟨hb,hlow b hb⟩⟩
theorem qQ.get {B:Nat}{T:Nat→Prop}{N:Nat}{w:World}{v:Value}{ns:List Nd}{ms:List Rw}(h:qQ B T N w v ns ms){i:Nat}{x:Nd}(hx:ns[i]?=some x):∃ r,ms[i]?=some r∧QW B T N i w r x:=by
 have hi:i<ns.length:=(List.getElem?_eq_some_iff.1 hx).1;have hr:ms[i]?=some (ms[i]'(by rw[h.len];exact hi)):=by simp[h.len,hi]
 exact ⟨_,hr,h.each i _ x hr hx⟩
theorem qQ.get' {B:Nat}{T:Nat→Prop}{N:Nat}{w:World}{v:Value}{ns:List Nd}{ms:List Rw}(h:qQ B T N w v ns ms){i:Nat}{r:Rw}(hr:ms[i]?=some r):∃ x,ns[i]?=some x∧QW B T N i w r x:=by
 have hi:i<ms.length:=(List.getElem?_eq_some_iff.1 hr).1;have hx:ns[i]?=some (ns[i]'(by rw[←h.len];exact hi)):=by simp[←h.len,hi]
 exact ⟨_,hx,h.each i r _ hr hx⟩
theorem qQ.keep {B:Nat}{T:Nat→Prop}{N:Nat}{w w':World}{v:Value}{ns:List Nd}{ms:List Rw}(h:qQ B T N w v ns ms)(hsz:w.heap.size≤w'.heap.size)(hlow:∀ b,b<B→w'.heap[b]?=w.heap[b]?)(hA:∀ b,qA B 79 w b→w'.heap[b]?=w.heap[b]?)
 (hI:∀ b,qA B 3 w b→w'.heap[b]?=w.heap[b]?) (hN:∀ b,qA B 43 w b→w'.heap[b]?=w.heap[b]?):qQ B T N w' v ns ms :=
 ⟨h.len,qo h.row fun b hb=>hN b (qe h.row hb),fun i r x hr hx=>(h.each i r x hr hx).keep (fun b hb=>hlow b (h.low b hb)) (fun hi b hb=>hA b (qe ((h.each i r x hr hx).own hi) hb)) (fun b hb=>hI b (qe (h.each i r x hr hx).kids hb)),
  h.kids,h.attrs,h.low,Nat.le_trans h.le hsz⟩
theorem qQ.later {B:Nat}{T:Nat→Prop}{N:Nat}{w w':World}{v:Value}{ns:List Nd}{ms:List Rw}(h:qQ B T N w v ns ms)(hb:Below w.heap.size w w'):qQ B T N w' v ns ms :=
 h.keep hb.size (fun b hb'=>hb.block b (Nat.lt_of_lt_of_le hb' h.le)) (fun b hs=>hb.block b hs.lt) (fun b hs=>hb.block b hs.lt) (fun b hs=>hb.block b hs.lt)
theorem qC {w:World}{B B':Nat}{e e':TypeId}{b b':Nat}(h:qA B e w b)(h':qA B' e' w b')(hne:e≠e'):b≠b':=by
 intro hb;subst hb;obtain ⟨_,c,fz,hc⟩:=h;obtain ⟨_,c',fz',hc'⟩:=h';rw[hc]at hc'
 injection hc' with hc'
 injection hc' with _ h4 _
 exact hne h4
theorem qQ.snoc {B:Nat}{T:Nat→Prop}{N:Nat}{w w':World}{v v':Value}{ns:List Nd}{ms:List Rw}{r:Rw}{x:Nd}(h:qQ B T N w v ns ms)
 (hown:w'.ownsRow B 43 5 v' (ns.length+1) (rawCells ms++[.bool r.text,.string r.s,r.va,.int .i64 r.par,r.vk])) (hg:w.grownBy w' v.ownBlock) (hR:QW B T N ns.length w r x) (hN:N≤ns.length) (hk:r.vk.ownBlock=none):qQ B T N w' v' (ns++[x]) (ms++[r]):=by
 have hvB:∀ b,v.ownBlock=some b→B≤b:=fun b hb=>(h.row.lt b hb).1
 have keep:∀ {i:Nat} {r:Rw} {x:Nd},QW B T N i w r x→QW B T N i w' r x:=by
  intro i r x hR;refine hR.keep (fun b hb=>hg.block b (Nat.lt_of_lt_of_le (h.low b hb) h.le) (fun e=>by have:=hvB b e.symm;have:=h.low b hb;omega)) (fun hi b hb=>?_) (fun b hb=>?_)
  · have hs := qe (hR.own hi) hb;exact hg.block b hs.lt (qn h.row hs (by decide))
  · have hs := qe hR.kids hb;exact hg.block b hs.lt (qn h.row hs (by decide))
 have last:∀ {i:Nat} {q:Rw},(ms++[r])[i]?=some q→(i<ms.length∧ms[i]?=some q)∨(i=ms.length∧q=r):=by
  intro i q hq
  rcases Nat.lt_or_ge i ms.length with hi|hi
  · rw[List.getElem?_append_left hi]at hq;exact Or.inl ⟨hi,hq⟩
  · rw[List.getElem?_append_right hi]at hq
    have hz:i-ms.length=0:=by
     rcases Nat.eq_zero_or_pos (i-ms.length) with h'|h'
     · exact h'
     · rw[List.getElem?_eq_none (by simp;omega)]at hq;cases hq
    rw[hz]at hq
    simp at hq
    exact Or.inr ⟨by omega,hq.symm⟩
 refine ⟨by simp[h.len],?_,?_,?_,?_,h.low,Nat.le_trans h.le hg.size⟩
 · rw[jw,List.length_append];exact hown
 · intro i q y hq hy
   rcases last hq with ⟨hi,hq'⟩|⟨hi,hqr⟩
   · rw[List.getElem?_append_left (by rw[←h.len];exact hi)]at hy
     exact keep (h.each i q y hq' hy)
   · subst hi hqr;rw[h.len,List.getElem?_append_right (nR9 _)]at hy
     simp at hy
     subst hy;rw[h.len];exact keep hR
 · intro i j p q b hne hp hq hb
   rcases last hp with ⟨hi,hp'⟩|⟨hi,hpr⟩
   · rcases last hq with ⟨hj, hq'⟩ | ⟨hj, hqr⟩
     · exact h.kids i j p q b hne hp' hq' hb
     · rw[hqr,hk];exact fun e=>by cases e
   · rw[hpr,hk]at hb;cases hb
 · intro i j p q b hne hiN hjN hp hq hb
   rcases last hp with ⟨hi,hp'⟩|⟨hi,hpr⟩
   · rcases last hq with ⟨hj, hq'⟩ | ⟨hj, hqr⟩
     · exact h.attrs i j p q b hne hiN hjN hp' hq' hb
     · rw[h.len]at hj;omega
   · rw[h.len]at hi;omega
theorem qQ.put {B:Nat}{T:Nat→Prop}{N:Nat}{w w1 w2:World}{v:Value}{ns:List Nd}{ms:List Rw}{i:Nat}{r r':Rw}{x x':Nd}(h:qQ B T N w v ns ms)(hr:ms[i]?=some r)(hx:ns[i]?=some x)(hsz:w.heap.size≤w1.heap.size)(hsz2:w2.heap.size=w1.heap.size)
 (hkeep:∀ b,b<w.heap.size→r.vk.ownBlock≠some b→(i<N→r.va.ownBlock≠some b)→w1.heap[b]?=w.heap[b]?)
 (hrow:w2.ownsRow B 43 5 v ns.length (rawCells (ms.set i r'))) (hk2:∀ b,v.ownBlock≠some b→w2.heap[b]?=w1.heap[b]?) (hR:QW B T N i w1 r' x')
 (hk:∀ b,r'.vk.ownBlock=some b→r.vk.ownBlock=some b∨w.heap.size≤b) (ha:i<N→∀ b,r'.va.ownBlock=some b→r.va.ownBlock=some b∨w.heap.size≤b):qQ B T N w2 v (ns.set i x') (ms.set i r'):=by
 have hRi:=h.each i r x hr hx;have hil:i<ns.length:=(List.getElem?_eq_some_iff.1 hx).1;have him:i<ms.length:=by rw[h.len];exact hil
 have vnode:∀ b,v.ownBlock=some b→qA B 43 w b:=fun b hb=>qe h.row hb
 have keepLow:∀ b,b<B→w2.heap[b]?=w.heap[b]?:=fun b hb=>by
  rw[hk2 b (fun e=>by have:=(h.row.lt b e).1;omega)]
  refine hkeep b (Nat.lt_of_lt_of_le hb h.le) (fun e=>?_) (fun hi e=>?_)
  · have:=(qF.lt hRi.kids b e).1;omega
  · have:=((hRi.own hi).lt b e).1;omega
 have new_ne:∀ b,v.ownBlock=some b→b<w.heap.size:=fun b hb=>(vnode b hb).lt
 refine ⟨by simp[h.len],by rw[List.length_set];exact hrow,?_,?_,?_,h.low,?_⟩
 · intro j q y hq hy
   by_cases hj:j=i
   · subst hj;rw[List.getElem?_set_self him]at hq
     rw[List.getElem?_set_self hil]at hy
     injection hq with hq
     injection hy with hy
     subst hq hy;refine hR.keep (fun b hb=>hk2 b (fun e=>by have:=(h.row.lt b e).1;have:=h.low b hb;omega)) (fun hi b hb=>hk2 b (fun e=>?_)) (fun b hb=>hk2 b (fun e=>?_))
     · rcases ha hi b hb with e1 | e1
       · exact qC (qe (hRi.own hi) e1) (vnode b e) (by decide) rfl
       · have:=new_ne b e;omega
     · rcases hk b hb with e1 | e1
       · exact qC (qe hRi.kids e1) (vnode b e) (by decide) rfl
       · have:=new_ne b e;omega
   · rw[List.getElem?_set_ne (fun e => hj e.symm)]at hq hy
     have hq':=h.each j q y hq hy;refine hq'.keep (fun b hb=>keepLow b (h.low b hb)) (fun hjN b hb=>?_) (fun b hb=>?_)
     · have hs := qe (hq'.own hjN) hb;rw[hk2 b (fun e=>qC hs (vnode b e) (by decide) rfl)]
       exact hkeep b hs.lt (fun e=>qC hs (qe hRi.kids e) (by decide) rfl) (fun hi e=>h.attrs i j r q b (fun e=>hj e.symm) hi hjN hr hq e hb)
     · have hs := qe hq'.kids hb;rw[hk2 b (fun e=>qC hs (vnode b e) (by decide) rfl)]
       exact hkeep b hs.lt (fun e=>h.kids i j r q b (fun e=>hj e.symm) hr hq e hb) (fun hi e=>qC hs (qe (hRi.own hi) e) (by decide) rfl)
 · intro j k p q b hne hp hq hb e
   have lt:∀ {m:Nat} {q:Rw},ms[m]?=some q→∀ b,q.vk.ownBlock=some b→b<w.heap.size:=fun hm b hb=>by
    obtain ⟨y,_,hy⟩:=h.get' hm;exact (qF.lt hy.kids b hb).2
   by_cases hj:j=i
   · subst hj;rw[List.getElem?_set_self him]at hp
     injection hp with hp
     subst hp;rw[List.getElem?_set_ne hne]at hq
     rcases hk b hb with e1|e1
     · exact h.kids j k r q b hne hr hq e1 e
     · have:=lt hq b e;omega
   · rw[List.getElem?_set_ne (fun e => hj e.symm)]at hp
     by_cases hki:k=i
     · subst hki;rw[List.getElem?_set_self him]at hq
       injection hq with hq
       subst hq
       rcases hk b e with e1|e1
       · exact h.kids j k p r b hne hp hr hb e1
       · have:=lt hp b hb;omega
     · rw[List.getElem?_set_ne (fun e => hki e.symm)]at hq
       exact h.kids j k p q b hne hp hq hb e
 · intro j k p q b hne hjN hkN hp hq hb e
   have lt:∀ {m:Nat} {q:Rw},m<N→ms[m]?=some q→∀ b,q.va.ownBlock=some b→b<w.heap.size:=fun hmN hm b hb=>by
    obtain ⟨y,_,hy⟩:=h.get' hm;exact ((hy.own hmN).lt b hb).2
   by_cases hj:j=i
   · subst hj;rw[List.getElem?_set_self him]at hp
     injection hp with hp
     subst hp;rw[List.getElem?_set_ne hne]at hq
     rcases ha hjN b hb with e1|e1
     · exact h.attrs j k r q b hne hjN hkN hr hq e1 e
     · have:=lt hkN hq b e;omega
   · rw[List.getElem?_set_ne (fun e => hj e.symm)]at hp
     by_cases hki:k=i
     · subst hki;rw[List.getElem?_set_self him]at hq
       injection hq with hq
       subst hq
       rcases ha hkN b e with e1|e1
       · exact h.attrs j k p r b hne hjN hkN hp hr hb e1
       · have:=lt hjN hp b hb;omega
     · rw[List.getElem?_set_ne (fun e => hki e.symm)]at hq
       exact h.attrs j k p q b hne hjN hkN hp hq hb e
 · rw[hsz2];exact Nat.le_trans h.le hsz
section
attribute [local go_sem] qk
theorem yH {ops:Array Oper}{o:Oper}{a:Act}{w:World}{K:Act→World→Prop}{Q:Exit→Act→World→Prop}{E:Prop}
 (hg:o.guard=none) (x:Operand) (hop:o.op=Op.call { callee:=Callee.builtin Builtin.append,args:=#[.const (.slice none 0 0),x],argTypes:=#[40,40] })
 (S:Nat→Prop) (v:Value) (l:List (ByteArray × ByteArray)) (hx:a.eval x=v) (h:qj S w v l) (hl:l.length≤4398046511104)
 (hK:∀ v' w',qj (qA w.heap.size 79 w') w' v' l→Below w.heap.size w w'→K (a.put o.dst v') w') :
 if Region.wanted o (yielded ops a.tmps)=true then Oper.wp Tryz.prog o a w K Q else E:=by
 have hw:Region.wanted o (yielded ops a.tmps)=true:=by simp[Region.wanted,hg]
 rw[if_pos hw];obtain ⟨i0,hi,hz0,hz1,hz2⟩:=info_parts attrInfo;obtain ⟨ad,cap,rfl,h2,h3,h4⟩:=h;have hs:a.eval (.const (.slice none 0 0))=.slice none 0 0:=rfl;cases ad with
 | none =>
   have hn:l=[]:=by
    apply Classical.byContradiction;intro hne
    obtain ⟨b,o,ha,_⟩:=h4 hne;cases ha
   subst hn
   have hrun:(Builtin.append_ #[40,40] o.type #[.slice none 0 0,.slice none 0 cap]).run Tryz.prog w=.ok (.slice none 0 0) w:=by
    simp[Builtin.append_,run_underlying Tryz.underlying40,sizeOf,typeInfo,hi,Builtin.lenOf,Builtin.firstCells]
   simp only[List.length_nil]at hx
   unfold Oper.wp;simp[execOp,hop,resolve,invoke,builtin,hs,hx,hrun,Result.andThen];exact hK _ _ ⟨none,0,rfl,nR9 _,nZ9 _,fun hne=>absurd rfl hne⟩ (Below.refl _ _)
 | some ad =>
   have hcells:∀ j u,(attrCells l)[j]?=some u→w.cell? (ad.add j)=some u:=by
    by_cases hne:l=[]
    · subst hne;intro j u hj;simp[attrCells]at hj
    · obtain ⟨b, o, ha, _, hc⟩ := h4 hne;cases ha;intro j u hj;rw[Addr.add_lit];exact qj.cells hc j u hj
   obtain ⟨v',w',hrun,r1,r2,_⟩:=run_append_own (P:=Tryz.prog) w w.heap.size 40 o.type 79 i0 _ 2 32 Tryz.underlying40 hi hz0 hz1 hz2 rfl (by decide) (.slice none 0 0) 0 [] (World.ownsRow_nil w _ _ _) ad l.length cap (attrCells l) (qT l) hcells (zt l) (by unfold maxLen;omega) (by omega) (nR9 _)
   unfold Oper.wp;simp[execOp,hop,resolve,invoke,builtin,hs,hx,hrun,Result.andThen];refine hK _ _ (qj.of_owns (by simpa using r1)) ((Below.refl _ w).grown r2 (nR9 _) (fun k hk=>by simp[Value.ownBlock]at hk))
def xA (f:Nat):Prop:=∀ (S:Nat→Prop)(v:Value)(ns:List Nd)(n:Nat)(w:World),qv S w v ns→(∀ x∈ns,x.attrs.length≤4398046511104)→ns.length≤80→n<ns.length→ns.length≤n+f →
 Calls Tryz.prog 48 #[.agg #[v],.int .i64 (n:Int)] w fun e w'=>∃ va vk,e=.returned (.agg #[.bool (treeF f ns n).text,.string (treeF f ns n).s,va,vk]) ∧
  qj (fun b=>w.heap.size≤b) w' va (treeF f ns n).attrs∧qd (fun b=>w.heap.size≤b) w' f vk (treeF f ns n).kids∧Below w.heap.size w w'
theorem JL (ns:List Nd)(n:Nat):∀ m,m≤n+1→zb ns n m=[]:=by
 intro m
 induction m with
 | zero=>intro _;rfl
 | succ m ih =>
   intro h;rw[zb,ih (by omega),if_neg (by omega)]
   rfl
theorem XS (ns:List Nd)(n:Nat):∀ m,(zb ns n m).length≤m:=by
 intro m
 induction m with
 | zero=>exact nR9 _
 | succ m ih =>
   rw[zb,List.length_append]
   split
   · simp;exact ih
   · simp;omega
structure GT (w:World) (dv:Value) (b2 M:Nat) (tr:Array Value) (va:Value) (l:List (ByteArray × ByteArray)) (W:World):Prop where
 below:Below w.heap.size w W
 box:W.heap[w.heap.size]?=some (.cells #[dv] 24 (0,0))
 res:W.heap[w.heap.size+1]?=some (.cells #[.bool false,.string ⟨#[]⟩,.slice none 0 0,.slice none 0 0] 56 (0,0))
 tre:W.heap[b2]?=some (.cells tr 56 (0,0))
 lo:w.heap.size+2≤b2
 hi:b2<M
 le:M≤W.heap.size
 att:qj (fun b=>w.heap.size+2≤b∧b≠b2∧b<M) W va l
theorem VV {w W2 w3:World}{dv:Value}{x:Nd}{a3:Option Addr}{c3':Nat}(hb3:Below w.heap.size w W2)(hbB:Below W2.drew.heap.size W2.drew w3)(HZ2:W2.heap.size=w.heap.size+3)(HD3:W2.heap[w.heap.size]?=some (.cells #[dv] 24 (0,0)))(HX3:W2.heap[w.heap.size+1]?=some (.cells #[.bool false,.string ⟨#[]⟩,.slice none 0 0,.slice none 0 0] 56 (0,0)))(hA3:qj (qA W2.drew.heap.size 79 w3) w3 (.slice a3 x.attrs.length c3') x.attrs) :
 GT w dv w3.heap.size (w3.alloc (.cells #[.bool x.text,.string x.s,.slice a3 x.attrs.length c3',.slice none 0 0] 56)).heap.size #[.bool x.text,.string x.s,.slice a3 x.attrs.length c3',.slice none 0 0] (.slice a3 x.attrs.length c3') x.attrs (w3.alloc (.cells #[.bool x.text,.string x.s,.slice a3 x.attrs.length c3',.slice none 0 0] 56)):=by
 have hB3:Below w.heap.size w w3:=hb3.drew.trans (hbB.mono (by have:=HZ2;show w.heap.size≤W2.heap.size;omega))
 have hs3:W2.heap.size≤w3.heap.size:=hbB.size;have hz:=HZ2;refine ⟨hB3.alloc hB3.size _,?_,?_,heap_alloc_new _ _,by omega,by simp,nR9 _,?_⟩
 · rw[Lib.alloc_old _ _ _ (by omega)];exact (hbB.block _ (by show w.heap.size<W2.heap.size;omega)).trans HD3
 · rw[Lib.alloc_old _ _ _ (by omega)];exact (hbB.block _ (by show w.heap.size+1<W2.heap.size;omega)).trans HX3
 · exact (hA3.later (Below.alloc1 w3 _)).bounded.carry fun b hb=>⟨⟨by have h1:W2.heap.size≤b:=hb.1.1;omega,by have:=hb.1.lt;omega,hb.2⟩,rfl⟩
theorem VW {w W2 w3:World}{dv:Value}{x:Nd}{a3:Option Addr}{c3':Nat}(HB4:Below w.heap.size w (W2.alloc (.cells #[.bool false,.string ⟨#[]⟩,.slice none 0 0,.slice none 0 0] 56)).drew)(hbA:Below (W2.alloc (.cells #[.bool false,.string ⟨#[]⟩,.slice none 0 0,.slice none 0 0] 56)).drew.heap.size (W2.alloc (.cells #[.bool false,.string ⟨#[]⟩,.slice none 0 0,.slice none 0 0] 56)).drew w3)(HZ2:W2.heap.size=w.heap.size+3)(HD3:W2.heap[w.heap.size]?=some (.cells #[dv] 24 (0,0)))(HX3:W2.heap[w.heap.size+1]?=some (.cells #[.bool false,.string ⟨#[]⟩,.slice none 0 0,.slice none 0 0] 56 (0,0)))(HZ4:w.heap.size+2<(W2.alloc (.cells #[.bool false,.string ⟨#[]⟩,.slice none 0 0,.slice none 0 0] 56)).drew.heap.size)(HZ5:W2.heap.size<(W2.alloc (.cells #[.bool false,.string ⟨#[]⟩,.slice none 0 0,.slice none 0 0] 56)).drew.heap.size)(hV3:w3.heap[W2.heap.size]?=some (.cells #[.bool false,.string ⟨#[]⟩,.slice none 0 0,.slice none 0 0] 56 (0,0)))(hA3:qj (qA (W2.alloc (.cells #[.bool false,.string ⟨#[]⟩,.slice none 0 0,.slice none 0 0] 56)).drew.heap.size 79 w3) w3 (.slice a3 x.attrs.length c3') x.attrs) :
 GT w dv W2.heap.size ((((w3.setCell ⟨W2.heap.size,0,none⟩ (.bool x.text)).setCell ⟨W2.heap.size,1,none⟩ (.string x.s)).setCell ⟨W2.heap.size,2,none⟩ (.slice a3 x.attrs.length c3')).setCell ⟨W2.heap.size,3,none⟩ (.slice none 0 0)).heap.size #[.bool x.text,.string x.s,.slice a3 x.attrs.length c3',.slice none 0 0] (.slice a3 x.attrs.length c3') x.attrs ((((w3.setCell ⟨W2.heap.size,0,none⟩ (.bool x.text)).setCell ⟨W2.heap.size,1,none⟩ (.string x.s)).setCell ⟨W2.heap.size,2,none⟩ (.slice a3 x.attrs.length c3')).setCell ⟨W2.heap.size,3,none⟩ (.slice none 0 0)):=by
 have hB3:Below w.heap.size w w3:=HB4.trans (hbA.mono HB4.size);have hz:=HZ2;have hle:w.heap.size≤W2.heap.size:=by omega
 refine ⟨(((hB3.setCell (p:=⟨W2.heap.size,0,none⟩) hle _).setCell (p:=⟨W2.heap.size,1,none⟩) hle _).setCell (p:=⟨W2.heap.size,2,none⟩) hle _).setCell (p:=⟨W2.heap.size,3,none⟩) hle _,?_,?_,?_,by omega,by have:=qh hV3;simpa using this,nR9 _,?_⟩
 · rw[qb (by omega), qb (by omega), qb (by omega), qb (by omega)]
   exact (hbA.block _ (by have:=HZ4;omega)).trans ((Lib.alloc_old _ _ _ (by omega)).trans HD3)
 · rw[qb (by omega), qb (by omega), qb (by omega), qb (by omega)]
   exact (hbA.block _ (by have:=HZ4;omega)).trans ((Lib.alloc_old _ _ _ (by omega)).trans HX3)
 · simp[World.setCell,Array.getElem?_modify,hV3]
 · refine hA3.bounded.carry fun b hb => ⟨⟨by have h1 : (W2.alloc (.cells #[.bool false, .string ⟨#[]⟩, .slice none 0 0, .slice none 0 0] 56)).drew.heap.size ≤ b := hb.1.1;have := HZ5;omega, by have h1 : (W2.alloc (.cells #[.bool false, .string ⟨#[]⟩, .slice none 0 0, .slice none 0 0] 56)).drew.heap.size ≤ b := hb.1.1;have := HZ5;omega, by have := hb.2;simpa using this⟩, ?_⟩
   have h1:(W2.alloc (.cells #[.bool false,.string ⟨#[]⟩,.slice none 0 0,.slice none 0 0] 56)).drew.heap.size≤b:=hb.1.1;have h2:=HZ5;rw[qb (by omega),qb (by omega),qb (by omega),qb (by omega)]
theorem Y1 {w:World}{dv:Value}{b2 M f i:Nat}{c0 c1 c2:Value}{va:Value}{l:List (ByteArray × ByteArray)}{wr w5 w6:World}{ja:Option Addr}{jc:Nat}{us:List Tr}{qs:List (Bool × ByteArray × Value × Value)}{t:Tr}{a5 k5:Option Addr}{d5 e5:Nat}{a6:Option Addr}{n6 c6:Nat}
 (hG:GT w dv b2 M #[c0,c1,c2,.slice ja i jc] va l wr) (hR:zz (fun _=>False) f M wr.drew (.slice ja i jc) us qs) (hi:us.length=i) (hb5:Below wr.drew.heap.size wr.drew w5)
 (hA:qj (fun b=>wr.drew.heap.size≤b) w5 (.slice a5 t.attrs.length d5) t.attrs) (hK:qd (fun b=>wr.drew.heap.size≤b) w5 f (.slice k5 t.kids.length e5) t.kids)
 (hown:w6.ownsRow M 56 4 (.slice a6 n6 c6) (i+1) (quadCells qs++[.bool t.text,.string t.s,.slice a5 t.attrs.length d5,.slice k5 t.kids.length e5]))
 (hgr:(w5.alloc (.cells #[.bool t.text,.string t.s,.slice a5 t.attrs.length d5,.slice k5 t.kids.length e5] 56)).grownBy w6 (Value.slice ja i jc).ownBlock)
 (hat:(Value.slice a6 n6 c6).ownBlock=(Value.slice ja i jc).ownBlock∨(Value.slice a6 n6 c6).ownBlock=some (w5.alloc (.cells #[.bool t.text,.string t.s,.slice a5 t.attrs.length d5,.slice k5 t.kids.length e5] 56)).heap.size) :
 GT w dv b2 M #[c0,c1,c2,.slice a6 n6 c6] va l (w6.setCell ⟨b2,3,none⟩ (.slice a6 n6 c6))∧M≤(w6.setCell ⟨b2,3,none⟩ (.slice a6 n6 c6)).heap.size ∧
  zz (fun _=>False) f M (w6.setCell ⟨b2,3,none⟩ (.slice a6 n6 c6)) (.slice a6 n6 c6) (us++[t]) (qs++[(t.text,t.s,.slice a5 t.attrs.length d5,.slice k5 t.kids.length e5)]):=by
 have hs5:wr.heap.size≤w5.heap.size:=hb5.size;have hMr:=hG.le;have hhi:=hG.hi;have hs6:=hgr.size;simp only[World.size_alloc]at hs6
 have hkeep:∀ b,b<wr.heap.size→b<M→w6.heap[b]?=wr.heap[b]?:=by
  intro b h1 h2;rw[hgr.block b (by simp;omega) (fun e=>by have:=(hR.own.lt b e.symm).1;omega),Lib.alloc_old _ _ _ (by omega)]
  exact hb5.block b h1
 have hB6:Below w.heap.size w w6:=((hG.below.drew.trans (hb5.mono hG.below.size)).alloc (by have:=hG.below.size;omega) _).grown hgr (by simp;have:=hG.below.size;omega) (fun k hk=>by have:=(hR.own.lt k hk).1;have:=hG.lo;omega)
 have hsz:(w6.setCell ⟨b2,3,none⟩ (.slice a6 n6 c6)).heap.size=w6.heap.size:=by simp
 have hlo:=hG.lo;have hres:=qh hG.res;have hbox:=qh hG.box;have htre:=qh hG.tre;refine ⟨⟨hB6.setCell (p:=⟨b2,3,none⟩) (by show w.heap.size≤b2;omega) _,?_,?_,?_,hlo,hhi,by rw[hsz];omega,?_⟩,by rw[hsz];omega,?_⟩
 · rw[qb (by omega),hkeep _ hbox (by omega)];exact hG.box
 · rw[qb (by omega),hkeep _ hres (by omega)];exact hG.res
 · have := (hkeep b2 htre hhi).trans hG.tre;simp[World.setCell,Array.getElem?_modify,this]
 · refine hG.att.bounded.carry fun b hb => ⟨hb.1, ?_⟩
   rw[qb hb.1.2.1,hkeep b hb.2 hb.1.2.2]
 · have hfr := hR.fresh (w' := w5.alloc (.cells #[.bool t.text, .string t.s, .slice a5 t.attrs.length d5, .slice k5 t.kids.length e5] 56)) (nR9 _) hMr;have hG3:=(hR.later hb5).later (Below.alloc1 w5 (.cells #[.bool t.text,.string t.s,.slice a5 t.attrs.length d5,.slice k5 t.kids.length e5] 56))
   have hG4:=hG3.snoc (t:=t) (q:=(t.text,t.s,.slice a5 t.attrs.length d5,.slice k5 t.kids.length e5)) (by rw[hi];exact hown) hgr hat rfl rfl
    ((hA.later (Below.alloc1 w5 _)).bounded.carry (fun b hb=>⟨hfr b ⟨hb.1,hb.2⟩,rfl⟩))
    (qd.carry (fun b hb=>⟨hfr b ⟨hb.1,hb.2⟩,rfl⟩) f (qd.bounded f (qd.later (Below.alloc1 w5 _) f hK)))
   have hne:∀ b,M≤b→b≠b2:=fun b h=>by omega
   refine ⟨hG4.len,qo hG4.own (fun b hb=>qb (hne b (hG4.own.lt b hb).1)),fun j q u hq hu=>?_⟩
   obtain ⟨x1,x2,x3,x4⟩:=hG4.each j q u hq hu
   have carry:∀ b,Oth (fun _=>False) M w6 (.slice a6 n6 c6) b→Oth (fun _=>False) M (w6.setCell ⟨b2,3,none⟩ (.slice a6 n6 c6)) (.slice a6 n6 c6) b∧(w6.setCell ⟨b2,3,none⟩ (.slice a6 n6 c6)).heap[b]?=w6.heap[b]?:=by
    intro b hb;refine ⟨⟨hb.1,by rw[hsz];exact hb.2.1,hb.2.2⟩,qb (hne b ?_)⟩
    rcases hb.1 with h1|h1
    · exact h1.elim
    · exact h1
   exact ⟨x1,x2,x3.carry carry,qd.carry carry f x4⟩
set_option maxHeartbeats 2000000 in
theorem Y2 (f:Nat)(ih:xA f):xA (f+1):=by
 intro S v ns n w hN hfew h80 hn hf;obtain ⟨x,hx⟩:∃ x,ns[n]?=some x:=⟨ns[n],by simp[hn]⟩
 have HG:Hid (treeF (f+1) ns n=⟨x.text,x.s,x.attrs,(zb ns n ns.length).map fun k=>treeF f ns k.toNat⟩):=by show _=_;rw[treeF,hx]
 have hal:=hfew x (List.mem_of_getElem? hx);obtain ⟨b,o,cap,va,vk,rfl,hlc,hcm,hSb,hbw,c0,c1,c2,c3,c4,hAt,hKi⟩:=hN.at hx
 obtain ⟨aa,ac,rfl⟩:=hAt.shape;obtain ⟨ka,kc,rfl,hkl2,hkm⟩:=hKi.shape;unfold maxLen at hcm hkm
 have hb3:Below w.heap.size w (((w.alloc (.cells #[.slice (some ⟨b,o,none⟩) ns.length cap] 24)).alloc (.cells #[.bool false,.string ⟨#[]⟩,.slice none 0 0,.slice none 0 0] 56)).alloc (.cells #[.bool x.text,.string x.s,.slice aa x.attrs.length ac,.int .i64 x.parent,.slice ka x.kids.length kc] 43)):=((Below.alloc1 w _).alloc (by simp) _).alloc (by simp;omega) _
 have IH:Hid (xA f):=ih;have hni:(n:Int)<(ns.length:Int):=by omega
 clear ih
 go_enter Tryz.func48,Tryz.ntmps48
 go_wp2_with fail
 have hD3:(((w.alloc (.cells #[.slice (some ⟨b,o,none⟩) ns.length cap] 24)).alloc (.cells #[.bool false,.string ⟨#[]⟩,.slice none 0 0,.slice none 0 0] 56)).alloc (.cells #[.bool x.text,.string x.s,.slice aa x.attrs.length ac,.int .i64 x.parent,.slice ka x.kids.length kc] 43)).heap[w.heap.size]?=some (.cells #[(.slice (some ⟨b,o,none⟩) ns.length cap)] 24 (0,0)):=by
  rw[Lib.alloc_old _ _ _ (by simp;omega),Lib.alloc_old _ _ _ (by simp)];exact heap_alloc_new _ _
 have hX3:(((w.alloc (.cells #[.slice (some ⟨b,o,none⟩) ns.length cap] 24)).alloc (.cells #[.bool false,.string ⟨#[]⟩,.slice none 0 0,.slice none 0 0] 56)).alloc (.cells #[.bool x.text,.string x.s,.slice aa x.attrs.length ac,.int .i64 x.parent,.slice ka x.kids.length kc] 43)).heap[w.heap.size+1]?=some (.cells #[.bool false,.string ⟨#[]⟩,.slice none 0 0,.slice none 0 0] 56 (0,0)):=by
  rw[Lib.alloc_old _ _ _ (by simp)]
  have e:=heap_alloc_new (w.alloc (.cells #[(.slice (some ⟨b,o,none⟩) ns.length cap)] 24)) (.cells #[.bool false,.string ⟨#[]⟩,.slice none 0 0,.slice none 0 0] 56);rw[World.size_alloc]at e
  exact e
 have hY3:(((w.alloc (.cells #[.slice (some ⟨b,o,none⟩) ns.length cap] 24)).alloc (.cells #[.bool false,.string ⟨#[]⟩,.slice none 0 0,.slice none 0 0] 56)).alloc (.cells #[.bool x.text,.string x.s,.slice aa x.attrs.length ac,.int .i64 x.parent,.slice ka x.kids.length kc] 43)).heap[w.heap.size+2]?=some (.cells #[.bool x.text,.string x.s,.slice aa x.attrs.length ac,.int .i64 x.parent,.slice ka x.kids.length kc] 43 (0,0)):=by
  have e:=heap_alloc_new ((w.alloc (.cells #[(.slice (some ⟨b,o,none⟩) ns.length cap)] 24)).alloc (.cells #[.bool false,.string ⟨#[]⟩,.slice none 0 0,.slice none 0 0] 56)) (.cells #[.bool x.text,.string x.s,.slice aa x.attrs.length ac,.int .i64 x.parent,.slice ka x.kids.length kc] 43);rw[World.size_alloc,World.size_alloc]at e
  exact e
 have hZ:(((w.alloc (.cells #[.slice (some ⟨b,o,none⟩) ns.length cap] 24)).alloc (.cells #[.bool false,.string ⟨#[]⟩,.slice none 0 0,.slice none 0 0] 56)).alloc (.cells #[.bool x.text,.string x.s,.slice aa x.attrs.length ac,.int .i64 x.parent,.slice ka x.kids.length kc] 43)).heap.size=w.heap.size+3:=by simp
 generalize ((w.alloc (.cells #[.slice (some ⟨b,o,none⟩) ns.length cap] 24)).alloc (.cells #[.bool false,.string ⟨#[]⟩,.slice none 0 0,.slice none 0 0] 56)).alloc (.cells #[.bool x.text,.string x.s,.slice aa x.attrs.length ac,.int .i64 x.parent,.slice ka x.kids.length kc] 43)=W2 at hb3 hD3 hX3 hY3 hZ ⊢
 have HZ2:Hid (W2.heap.size=w.heap.size+3):=hZ;have hZ3:w.heap.size+2<W2.heap.size:=by omega
 clear hZ;have HAT:Hid (∀ W,Below w.heap.size w W→qj S W (.slice aa x.attrs.length ac) x.attrs):=fun W hW=>hAt.later hW
 have HNN:Hid (qv S w (.slice (some ⟨b,o,none⟩) ns.length cap) ns):=hN
 have HWW:Hid (∀ W':World,W'.heap[w.heap.size+2]?=W2.heap[w.heap.size+2]?→W'.cell? ⟨w.heap.size+2,0,none⟩=some (.bool x.text)∧W'.cell? ⟨w.heap.size+2,1,none⟩=some (.string x.s)∧W'.cell? ⟨w.heap.size+2,2,none⟩=some (.slice aa x.attrs.length ac)):=by
  intro W' h2;rw[hY3]at h2
  exact ⟨by rw[cH9 h2];rfl,by rw[cH9 h2];rfl,by rw[cH9 h2];rfl⟩
 obtain ⟨y0,y1,y2⟩:=HWW.out W2 rfl;have HB4:Hid (Below w.heap.size w (W2.alloc (.cells #[.bool false,.string ⟨#[]⟩,.slice none 0 0,.slice none 0 0] 56)).drew):=(hb3.alloc (by omega) _).drew
 have HZ4:Hid (w.heap.size+2<(W2.alloc (.cells #[.bool false,.string ⟨#[]⟩,.slice none 0 0,.slice none 0 0] 56)).drew.heap.size):=by show w.heap.size+2<(W2.alloc (.cells #[.bool false,.string ⟨#[]⟩,.slice none 0 0,.slice none 0 0] 56)).heap.size;rw[World.size_alloc];omega
 have HZ5:Hid (W2.heap.size<(W2.alloc (.cells #[.bool false,.string ⟨#[]⟩,.slice none 0 0,.slice none 0 0] 56)).drew.heap.size):=by show W2.heap.size<(W2.alloc (.cells #[.bool false,.string ⟨#[]⟩,.slice none 0 0,.slice none 0 0] 56)).heap.size;rw[World.size_alloc];omega
 have HD3:Hid (W2.heap[w.heap.size]?=some (.cells #[(.slice (some ⟨b,o,none⟩) ns.length cap)] 24 (0,0))):=hD3;have HX3:Hid (W2.heap[w.heap.size+1]?=some (.cells #[.bool false,.string ⟨#[]⟩,.slice none 0 0,.slice none 0 0] 56 (0,0))):=hX3;clear c0 c1 c2 c3 c4 hAt hKi hN hx hX3 hD3 hY3
 go_region_held3 (fun W:World=>W.cell? ⟨w.heap.size+2,0,none⟩=some (.bool x.text)∧W.cell? ⟨w.heap.size+2,1,none⟩=some (.string x.s)∧W.cell? ⟨w.heap.size+2,2,none⟩=some (.slice aa x.attrs.length ac))
  (first
   | exact HWW.out w3 (hbB.block _ hZ3)
   | exact HWW.out (w3.alloc (.cells #[.bool false,.string ⟨#[]⟩,.slice none 0 0,.slice none 0 0] 56)) ((Lib.alloc_old _ _ _ (Nat.lt_of_lt_of_le hZ3 hbB.size)).trans (hbB.block _ hZ3))
   | exact HWW.out (w3.alloc (.cells #[.bool x.text,.string x.s,.slice a3 x.attrs.length c3',.slice none 0 0] 56)) ((Lib.alloc_old _ _ _ (Nat.lt_of_lt_of_le hZ3 hbB.size)).trans (hbB.block _ hZ3))
   | exact HWW.out w3 ((hbA.block _ HZ4.out).trans (Lib.alloc_old _ _ _ hZ3))
   | exact HWW.out _ (by rw[qb (Nat.ne_of_lt hZ3),qb (Nat.ne_of_lt hZ3),qb (Nat.ne_of_lt hZ3),qb (Nat.ne_of_lt hZ3)];exact (hbA.block _ HZ4.out).trans (Lib.alloc_old _ _ _ hZ3))
   | exact HWW.out W2.drew rfl
   | exact HWW.out (W2.alloc (.cells #[.bool false,.string ⟨#[]⟩,.slice none 0 0,.slice none 0 0] 56)).drew (Lib.alloc_old _ _ _ hZ3))
  (first
   | (refine yH (by rfl) (.tmp 18) (by rfl) S (.slice aa x.attrs.length ac) x.attrs (by simp[Act.eval]) (HAT.out (W2.alloc (.cells #[.bool false,.string ⟨#[]⟩,.slice none 0 0,.slice none 0 0] 56)).drew HB4.out) hal ?_;intro va3 w3 hA3 hbA;obtain ⟨a3,c3',rfl⟩:=hA3.shape;have hV3:w3.heap[W2.heap.size]?=some (.cells #[.bool false,.string ⟨#[]⟩,.slice none 0 0,.slice none 0 0] 56 (0,0)):=(hbA.block _ HZ5.out).trans (heap_alloc_new _ _);have g0:=cH9 hV3 0;have g1:=cH9 hV3 1;have g2:=cH9 hV3 2;have g3:=cH9 hV3 3;have k0:=fH9 hV3 0;have k1:=fH9 hV3 1;have k2:=fH9 hV3 2;have k3:=fH9 hV3 3;simp at g0 g1 g2 g3)
   | (refine yH (by rfl) (.tmp 18) (by rfl) S (.slice aa x.attrs.length ac) x.attrs (by simp[Act.eval]) (HAT.out W2.drew hb3.drew) hal ?_;intro va3 w3 hA3 hbB;obtain ⟨a3,c3',rfl⟩:=hA3.shape))
 all_goals
  first
   | (have hGS:=VV (dv:=.slice (some ⟨b,o,none⟩) ns.length cap) (x:=x) hb3 hbB HZ2.out HD3.out HX3.out hA3;generalize w3.alloc (.cells #[.bool x.text,.string x.s,.slice a3 x.attrs.length c3',.slice none 0 0] 56)=W4 at hGS ⊢;generalize w3.heap.size=b2 at hGS ⊢;clear hb3 hbB hA3 HAT HWW HB4 HZ4 HZ5 HX3 HD3 HZ2 hZ3 y0 y1 y2)
   | (have hGS:=VW (dv:=.slice (some ⟨b,o,none⟩) ns.length cap) (x:=x) HB4.out hbA HZ2.out HD3.out HX3.out HZ4.out HZ5.out hV3 hA3;generalize ((((w3.setCell ⟨W2.heap.size,0,none⟩ (.bool x.text)).setCell ⟨W2.heap.size,1,none⟩ (.string x.s)).setCell ⟨W2.heap.size,2,none⟩ (.slice a3 x.attrs.length c3')).setCell ⟨W2.heap.size,3,none⟩ (.slice none 0 0))=W4 at hGS ⊢;generalize W2.heap.size=b2 at hGS ⊢;clear hb3 hbA hA3 HAT HWW HB4 HZ4 HZ5 HX3 HD3 HZ2 hZ3 y0 y1 y2 hV3 g0 g1 g2 g3 k0 k1 k2 k3)
  have d4:W4.cell? ⟨w.heap.size,0,none⟩=some (.slice (some ⟨b,o,none⟩) ns.length cap):=by rw[cH9 hGS.box];rfl
  have HGS:Hid _:=hGS;have hlo:=hGS.lo;clear hGS;go_wp2_with fail
  go_loopg [7] (ns.length-(n+1)) (fun g j wr=>∃ (i:Nat) (v:Value) (qs:List (Bool × ByteArray × Value × Value)),i+g=ns.length∧n<i∧j=.int .i64 (i:Int)∧GT w (.slice (some ⟨b,o,none⟩) ns.length cap) b2 W4.heap.size #[.bool x.text,.string x.s,.slice a3 x.attrs.length c3',v] (.slice a3 x.attrs.length c3') x.attrs wr∧W4.heap.size≤wr.heap.size∧zz (fun _=>False) f W4.heap.size wr v ((zb ns n i).map fun k=>treeF f ns k.toNat) qs)
  case atStart => exact ⟨n+1,.slice none 0 0,[],by omega,by omega,by go_num,HGS.out,nR9 _,by rw[JL _ _ _ (nR9 _)];exact zz.nil _ _ _ _⟩
  case round =>
   obtain ⟨i,v,qs,hi,hni2,rfl,hG,hWs,hGr⟩:=hrel;have HG4:Hid _:=hG;have hB4:=hG.below;obtain ⟨ja,jc,rfl⟩:=hGr.shape;have HGR:Hid _:=hGr;have d5:wr.cell? ⟨w.heap.size,0,none⟩=some (.slice (some ⟨b,o,none⟩) ns.length cap):=by rw[cH9 HG4.out.box];rfl
   by_cases hil:i<ns.length
   · obtain ⟨y, hy⟩ : ∃ y, ns[i]? = some y := ⟨ns[i], by simp[hil]⟩
     obtain ⟨b',o',cap2,xva,xvk,hv,_,_,_,hbw2,_,_,_,c3,_,_,_⟩:=(HNN.out.later hB4).at hy
     cases hv;have hili:(i:Int)<(ns.length:Int):=by omega
     by_cases hp:y.parent=(n:Int)
     · have hsn:(zb ns n (i+1)).map (fun k=>treeF f ns k.toNat)=(zb ns n i).map (fun k=>treeF f ns k.toNat)++[treeF f ns i]:=by
        rw[zb,if_pos ⟨by omega,by unfold QN;rw[hy];simp[hp]⟩,List.map_append];rfl
       have HSN:Hid _:=hsn;rw[hp]at c3
       have HCALL:Hid (∀ W,Below w.heap.size w W→Calls Tryz.prog 48 #[.agg #[(.slice (some ⟨b,o,none⟩) ns.length cap)],.int .i64 (i:Int)] W fun e w'=>∃ r,e=.returned r∧∃ va vk,r=.agg #[.bool (treeF f ns i).text,.string (treeF f ns i).s,va,vk] ∧
        qj (fun b=>W.heap.size≤b) w' va (treeF f ns i).attrs∧qd (fun b=>W.heap.size≤b) w' f vk (treeF f ns i).kids∧Below W.heap.size W w'):=by
        intro W hW;refine (IH.out S _ ns i W (HNN.out.later hW) hfew h80 (by omega) (by omega)).mono ?_
        rintro e w' ⟨va,vk,rfl,h1,h2,h3⟩;exact ⟨_,rfl,va,vk,rfl,h1,h2,h3⟩
       have hln:((zb ns n i).map fun k=>treeF f ns k.toNat).length≤80:=by rw[List.length_map];have:=XS ns n i;omega
       obtain ⟨us,hus⟩:∃ us,(zb ns n i).map (fun k=>treeF f ns k.toNat)=us:=⟨_,rfl⟩
       obtain ⟨t,ht⟩:∃ t,treeF f ns i=t:=⟨_,rfl⟩;rw[hus]at HGR HG4 HSN hln
       rw[ht]at HCALL HSN
       obtain ⟨L,hL⟩:∃ L,us.length=L:=⟨_,rfl⟩;rw[hL]at HGR HG4 hln
       have HLN:Hid (us.length=L):=hL;have hz3:wr.cell? ⟨b2,3,none⟩=some (.slice ja L jc):=by rw[cH9 HG4.out.tre];rfl
       have hf3:wr.frozen? ⟨b2,3,none⟩=false:=fH9 HG4.out.tre 3;have hi20:L≤1048576:=by omega
       have hwrs:=hB4.size;have hb2r:=qh HG4.out.tre;have HGD:Hid (zz (fun _=>False) f W4.heap.size wr.drew (.slice ja L jc) us qs):=HGR.out.later (Below.refl _ wr).drew
       have HCH:Hid (∀ (w5 w6:World) (X:Obj),Below wr.drew.heap.size wr.drew w5→(w5.alloc X).grownBy w6 (Value.slice ja L jc).ownBlock→w6.heap[b2]?=some (.cells #[.bool x.text,.string x.s,.slice a3 x.attrs.length c3',.slice ja L jc] 56 (0,0))):=by
        intro w5 w6 X h5 h6;have h7:b2<w5.heap.size:=Nat.lt_of_lt_of_le hb2r h5.size;rw[h6.block b2 (by simp;omega) (fun e=>by have:=(HGR.out.own.lt b2 e.symm).1;have:=HG4.out.hi;omega),Lib.alloc_old _ _ _ h7]
        exact (h5.block b2 hb2r).trans HG4.out.tre
       clear hG hGr hy hsn hus ht d4 hL hp;go_wp2_with fail
       go_region_law (first
        | (refine qM (by rfl) 48 #[.agg #[(.slice (some ⟨b,o,none⟩) ns.length cap)],.int .i64 (i:Int)] (by go_simp) _ (HCALL.out _ hB4.drew) ?_;intro r5 w5 hR5;obtain ⟨va5,vk5,rfl,hA5,hK5,hb5⟩:=hR5;obtain ⟨a5,c5,rfl⟩:=hA5.shape;obtain ⟨k5,d5,rfl,_,_⟩:=qd.shape f hK5;have z5:w5.cell? ⟨b2,3,none⟩=some (.slice ja L jc):=(hb5.cell (p:=⟨b2,3,none⟩) hb2r).trans hz3;have z5a:(w5.alloc (.cells #[.bool t.text,.string t.s,.slice a5 t.attrs.length c5,.slice k5 t.kids.length d5] 56)).cell? ⟨b2,3,none⟩=some (.slice ja L jc):=Lib.cell?_alloc_some _ z5)
        | (refine j0 (by rfl) (.tmp 39) (.tmp 43) (by rfl) W4.heap.size (.slice ja L jc) L (quadCells qs) (by simp[Act.eval]) (by have:=(qq HGD.out.own hb5).alloc (.cells #[.bool t.text,.string t.s,.slice a5 t.attrs.length c5,.slice k5 t.kids.length d5] 56);rw[HLN.out]at this;exact this) ⟨w5.heap.size,0,none⟩ t.text t.s a5 t.attrs.length c5 k5 t.kids.length d5 (by simp[Act.eval]) (yT _ _ _ _ _ _) hi20 (by have:=hb5.size;simp at this ⊢;omega) ?_;intro v6 w6 hown6 hgr6 hat6;obtain ⟨a6,n6,c6,rfl⟩:=qw hown6;have hk6:=HCH.out w5 w6 _ hb5 hgr6;have z6:=cH9 hk6 3;have f6:=fH9 hk6 3;simp at z6))
       all_goals
        have HG7:Hid _:=Y1 HG4.out HGD.out HLN.out hb5 hA5 hK5 hown6 hgr6 hat6;clear hown6 hgr6 hat6 hA5 hK5;go_wp2_with fail
        go_roundg (ns.length-(i+1))
        case measure => omega
        case rel => exact ⟨i+1,_,_,by omega,by omega,by go_num,HG7.out.1,HG7.out.2.1,by rw[HSN.out];exact HG7.out.2.2⟩
     · have hpb : (y.parent == (n : Int)) = false := by simpa using hp
       have hsn:zb ns n (i+1)=zb ns n i:=by
        rw[zb,if_neg (fun h=>by have h2:=h.2;unfold QN at h2;rw[hy]at h2;simp at h2;exact hp h2),List.append_nil]
       have HSN:Hid _:=hsn;clear hG hGr hy hsn hp d4;go_wp2_with fail
       go_roundg (ns.length-(i+1))
       case measure => omega
       case rel => exact ⟨i+1,_,_,by omega,by omega,by go_num,HG4.out,hWs,by rw[HSN.out];exact HGR.out⟩
   · have hii : i = ns.length := by omega
     have HII:Hid (i=ns.length):=hii;have hili:¬ ((i:Int)<(ns.length:Int)):=by omega
     clear hii;have p0:wr.cell? ⟨w.heap.size+1,0,none⟩=some (.bool false):=by rw[cH9 HG4.out.res];rfl
     have p1:wr.cell? ⟨w.heap.size+1,1,none⟩=some (.string ⟨#[]⟩):=by rw[cH9 HG4.out.res];rfl
     have p2:wr.cell? ⟨w.heap.size+1,2,none⟩=some (.slice none 0 0):=by rw[cH9 HG4.out.res];rfl
     have p3:wr.cell? ⟨w.heap.size+1,3,none⟩=some (.slice none 0 0):=by rw[cH9 HG4.out.res];rfl
     have f0:wr.frozen? ⟨w.heap.size+1,0,none⟩=false:=fH9 HG4.out.res 0;have f1:wr.frozen? ⟨w.heap.size+1,1,none⟩=false:=fH9 HG4.out.res 1;have f2:wr.frozen? ⟨w.heap.size+1,2,none⟩=false:=fH9 HG4.out.res 2;have f3:wr.frozen? ⟨w.heap.size+1,3,none⟩=false:=fH9 HG4.out.res 3;have q0:wr.cell? ⟨b2,0,none⟩=some (.bool x.text):=by rw[cH9 HG4.out.tre];rfl
     have q1:wr.cell? ⟨b2,1,none⟩=some (.string x.s):=by rw[cH9 HG4.out.tre];rfl
     have q2:wr.cell? ⟨b2,2,none⟩=some (.slice a3 x.attrs.length c3'):=by rw[cH9 HG4.out.tre];rfl
     have q3:wr.cell? ⟨b2,3,none⟩=some (.slice ja ((zb ns n i).map fun k=>treeF f ns k.toNat).length jc):=by rw[cH9 HG4.out.tre];rfl
     clear hG hGr d4
     generalize hvv:Value.slice ja ((zb ns n i).map fun k=>treeF f ns k.toNat).length jc=vv at HGR HG4 q3
     obtain ⟨va7,vn7,vc7,rfl⟩:∃ a n c,vv=.slice a n c:=⟨_,_,_,hvv.symm⟩;clear hvv;rw[HII.out]at HGR
     go_wp2_with fail;refine bodyPost_ret (v:=.agg #[.bool x.text,.string x.s,.slice a3 x.attrs.length c3',.slice va7 vn7 vc7]) (by simp[results,Tryz.results48,go_sem,qk,p0,p1,p2,p3,World.cell?_setCell_other]) rfl ⟨.slice a3 x.attrs.length c3',.slice va7 vn7 vc7,?_,?_,?_,?_⟩
     · rw[HG.out]
     · rw[HG.out];refine HG4.out.att.carry fun b hb=>⟨by have:=hb.1;omega,?_⟩
       rw[qb (by have:=hb.1;omega),qb (by have:=hb.1;omega),qb (by have:=hb.1;omega),qb (by have:=hb.1;omega)]
     · rw[HG.out];have hW:=HG4.out.hi;refine qd.carry (fun b hb=>⟨?_,?_⟩) (f+1) HGR.out.done
       · rcases hb with hb | hb
         · exact hb.elim
         · omega
       · rcases hb with hb | hb
         · exact hb.elim
         · rw[qb (by omega),qb (by omega),qb (by omega),qb (by omega)]
     · exact (((hB4.setCell (p:=⟨w.heap.size+1,0,none⟩) (Nat.le_succ _) _).setCell (p:=⟨w.heap.size+1,1,none⟩) (Nat.le_succ _) _).setCell (p:=⟨w.heap.size+1,2,none⟩) (Nat.le_succ _) _).setCell (p:=⟨w.heap.size+1,3,none⟩) (Nat.le_succ _) _
theorem JT (f:Nat):xA f:=by
 induction f with
 | zero=>intro S v ns n w _ _ _ hn hf;omega
 | succ f ih=>exact Y2 f ih
end
section
attribute [local go_sem] qk
theorem JP {ops:Array Oper}{o:Oper}{a:Act}{w:World}{K:Act→World→Prop}{Q:Exit→Act→World→Prop}{E:Prop}
 (hg:o.guard=none) (x:Operand) (hop:o.op=Op.call { callee:=Callee.builtin Builtin.append,args:=#[.const (.slice none 0 0),x],argTypes:=#[41,41] })
 (S:Nat→Prop) (v:Value) (l:List Int) (hx:a.eval x=v) (h:zk S w v l) (hl:l.length≤17592186044416)
 (hK:∀ v' w',qF w.heap.size w' v' l→Below w.heap.size w w'→K (a.put o.dst v') w') :
 if Region.wanted o (yielded ops a.tmps)=true then Oper.wp Tryz.prog o a w K Q else E:=by
 have hw:Region.wanted o (yielded ops a.tmps)=true:=by simp[Region.wanted,hg]
 rw[if_pos hw];obtain ⟨i0,hi,hz0,hz1,hz2⟩:=info_parts intInfoR;have h':=h;obtain ⟨ad,cap,rfl,h2,h3,h4⟩:=h;have hs:a.eval (.const (.slice none 0 0))=.slice none 0 0:=rfl;cases ad with
 | none =>
   have hn:l=[]:=by
    apply Classical.byContradiction;intro hne
    obtain ⟨b,o,ha,_⟩:=h4 hne;cases ha
   subst hn
   have hrun:(Builtin.append_ #[41,41] o.type #[.slice none 0 0,.slice none 0 cap]).run Tryz.prog w=.ok (.slice none 0 0) w:=by
    simp[Builtin.append_,run_underlying Tryz.underlying41,sizeOf,typeInfo,hi,Builtin.lenOf,Builtin.firstCells]
   simp only[List.length_nil]at hx
   unfold Oper.wp;simp[execOp,hop,resolve,invoke,builtin,hs,hx,hrun,Result.andThen];exact hK _ _ (qF.nil _ _) (Below.refl _ _)
 | some ad =>
   obtain ⟨v',w',hrun,r1,r2,_⟩:=run_append_own (P:=Tryz.prog) w w.heap.size 41 o.type 3 i0 _ 1 8 Tryz.underlying41 hi hz0 hz1 hz2 rfl (by decide) (.slice none 0 0) 0 [] (World.ownsRow_nil w _ _ _) ad l.length cap (qr l) (by rw[zj];omega) h'.cells (zl l) (by unfold maxLen;omega) (by omega) (nR9 _)
   unfold Oper.wp;simp[execOp,hop,resolve,invoke,builtin,hs,hx,hrun,Result.andThen];refine hK _ _ (by unfold qF;simpa using r1) ((Below.refl _ w).grown r2 (nR9 _) (fun k hk=>by simp[Value.ownBlock]at hk))
theorem nodeInfoC:(Tryz.prog.info? 43).map (fun i=>(i.zero,i.size,i.bytes))=some (some (.agg #[.bool false,.string ⟨#[]⟩,.slice none 0 0,.int .i64 0,.slice none 0 0]),5,80):=by kernel_rfl
theorem jN (w:World)(a b c d e:Value)(t:TypeId):∀ (j:Nat)(u:Value),([a,b,c,d,e]:List Value)[j]?=some u→(w.alloc (.cells #[a,b,c,d,e] t)).cell? ((⟨w.heap.size,0,none⟩:Addr).add j)=some u:=by
 intro j u hj
 match j,hj with
 | 0,hj|1,hj|2,hj|3,hj|4,hj=>simp at hj;subst hj;simp[Addr.add]
structure CD (w:World) (dv:Value) (v:Value) (l:List Nd) (ms:List Rw) (W:World):Prop where
 below:Below w.heap.size w W
 box:W.heap[w.heap.size]?=some (.cells #[dv] 24 (0,0))
 res:W.heap[w.heap.size+1]?=some (.cells #[.slice none 0 0] 24 (0,0))
 out:W.heap[w.heap.size+2]?=some (.cells #[v] 24 (0,0))
 row:zB (w.heap.size+3) W v l ms
theorem ZI {w wr w3 w4:World}{dv:Value}{ja:Option Addr}{jc k:Nat}{l:List Nd}{ms:List Rw}{x:Nd}{va vk v':Value}
 (hC:CD w dv (.slice ja k jc) l ms wr) (hk:l.length=k) (hb:Below wr.heap.size wr w3)
 (hA:qj (qA (wr.heap.size) 79 w3) w3 va x.attrs) (hK:qF wr.heap.size w3 vk x.kids)
 (hown:w4.ownsRow (w.heap.size+3) 43 5 v' (k+1) (rawCells ms++[.bool x.text,.string x.s,va,.int .i64 x.parent,vk]))
 (hgr:(w3.alloc (.cells #[.bool x.text,.string x.s,va,.int .i64 x.parent,vk] 43)).grownBy w4 (Value.slice ja k jc).ownBlock) :
 CD w dv v' (l++[x]) (ms++[⟨x.text,x.s,va,x.parent,vk⟩]) (w4.setCell ⟨w.heap.size+2,0,none⟩ v'):=by
 have hs3:=hb.size;have hlo:=qh hC.out;have hsr:=hC.below.size;have hs4:=hgr.size;simp only[World.size_alloc]at hs4
 have hB3:w.heap.size+3≤wr.heap.size:=by omega
 have hB4:Below w.heap.size w w4:=(hC.below.trans (hb.mono hsr)).alloc (by omega) _ |>.grown hgr (by simp;omega) (fun g hg=>by have:=(hC.row.own.lt g hg).1;omega)
 have hkeep:∀ b,b<w.heap.size+3→b<wr.heap.size→w4.heap[b]?=wr.heap[b]?:=by
  intro b h1 h2;rw[hgr.block b (by simp;omega) (fun e=>by have:=(hC.row.own.lt b e.symm).1;omega),Lib.alloc_old _ _ _ (by omega)]
  exact hb.block b h2
 have hR3:=(hC.row.later hb).later (Below.alloc1 w3 (.cells #[.bool x.text,.string x.s,va,.int .i64 x.parent,vk] 43))
 have hG:=hR3.snoc (r:=⟨x.text,x.s,va,x.parent,vk⟩) (x:=x) (by rw[hk];exact hown) hgr
  ⟨rfl,rfl,rfl,(hA.own_later (Below.alloc1 w3 _)).carry (fun b hb'=>⟨hb'.to hB3 rfl,rfl⟩),yO (World.ownsRow.alloc hK _) hB3⟩
  (fun i q b hq hb' e=>by
   obtain ⟨y,hy⟩:∃ y,l[i]?=some y:=⟨l[i]'(by rw[←hC.row.len];exact (List.getElem?_eq_some_iff.1 hq).1),by simp⟩
   have h1:=(qF.lt (hC.row.each i q y hq hy).2.2.2.2 b hb').2;have h2:=(qF.lt hK b e).1;omega)
 refine ⟨hB4.setCell (p:=⟨w.heap.size+2,0,none⟩) (by show w.heap.size≤w.heap.size+2;omega) _,?_,?_,?_,?_⟩
 · rw[qb (by omega),hkeep _ (by omega) (qh hC.box)];exact hC.box
 · rw[qb (by omega),hkeep _ (by omega) (qh hC.res)];exact hC.res
 · have := (hkeep _ (by omega) hlo).trans hC.out
   simp[World.setCell,Array.getElem?_modify,this]
 · exact hG.keep (fun b hs=>qb (by have:=hs.1;omega)) (fun b hs=>qb (by have:=hs.1;omega)) (fun b hs=>qb (by have:=(hG.own.lt b hs).1;omega))
set_option maxHeartbeats 2000000 in
theorem Yj (S:Nat→Prop)(v:Value)(ns:List Nd)(w:World)(hN:qv S w v ns)(hfew:∀ x∈ns,x.attrs.length≤4398046511104∧x.kids.length≤17592186044416)(hlen:ns.length≤1759218604441) :
 Calls Tryz.prog 5 #[.agg #[v]] w fun e w'=>∃ v',e=.returned (.agg #[v'])∧qv (fun b=>w.heap.size≤b) w' v' ns∧Below w.heap.size w w':=by
 obtain ⟨i0,hi,hz0,hz1,hz2⟩:=info_parts nodeInfoC;obtain ⟨a,cap,rfl,hlc,hcm⟩:=hN.shape;unfold maxLen at hcm
 have HN:Hid (qv S w (.slice a ns.length cap) ns):=hN
 have hC0:CD w (.slice a ns.length cap) (.slice none 0 0) [] [] (((w.alloc (.cells #[.slice a ns.length cap] 24)).alloc (.cells #[.slice none 0 0] 24)).alloc (.cells #[.slice none 0 0] 24)):=by
  refine ⟨((Below.alloc1 w _).alloc (by simp) _).alloc (by simp;omega) _,?_,?_,?_,zB.nil _ _⟩
  · rw[Lib.alloc_old _ _ _ (by simp;omega),Lib.alloc_old _ _ _ (by simp)];exact heap_alloc_new _ _
  · rw[Lib.alloc_old _ _ _ (by simp)]
    have e:=heap_alloc_new (w.alloc (.cells #[.slice a ns.length cap] 24)) (.cells #[.slice none 0 0] 24);rw[World.size_alloc]at e
    exact e
  · have e := heap_alloc_new ((w.alloc (.cells #[.slice a ns.length cap] 24)).alloc (.cells #[.slice none 0 0] 24)) (.cells #[.slice none 0 0] 24);rw[World.size_alloc,World.size_alloc]at e
    exact e
 have HC0:Hid _:=hC0;clear hN
 go_enter Tryz.func5,Tryz.ntmps5
 go_wp2_with fail
 generalize (((w.alloc (.cells #[.slice a ns.length cap] 24)).alloc (.cells #[.slice none 0 0] 24)).alloc (.cells #[.slice none 0 0] 24))=W0 at *
 clear hC0
 go_loopg [9] ns.length (fun g j wr=>∃ (k:Nat) (v:Value) (ms:List Rw),k+g=ns.length∧j=.int .i64 (k:Int)∧CD w (.slice a ns.length cap) v (ns.take k) ms wr)
 case atStart => exact ⟨0,_,[],by omega,rfl,HC0.out⟩
 case round =>
  obtain ⟨k,v,ms,hk,rfl,hC⟩:=hrel;have HC:Hid _:=hC;have hB:=hC.below;have hwr:=qh hC.out;obtain ⟨ja,jc,rfl,hjl,hjm⟩:=hC.row.shape
  by_cases hlt:k<ns.length
  · obtain ⟨x, hx⟩ : ∃ x, ns[k]? = some x := ⟨ns[k], by simp[hlt]⟩
    obtain ⟨b,o,cap',va,vk,hv,_,_,hSb,hbw,c0,c1,c2,c3,c4,hAt,hKi⟩:=(HN.out.later hB).at hx
    cases hv;obtain ⟨hal,hkl⟩:=hfew x (List.mem_of_getElem? hx);obtain ⟨aa,ac,rfl⟩:=hAt.shape;obtain ⟨ka,kc,rfl,_,_⟩:=hKi.shape
    have hsn:ns.take (k+1)=ns.take k++[x]:=by
     rw[List.take_succ_eq_append_getElem hlt];congr 2;simpa[hlt] using hx
    have HS:Hid (ns.take (k+1)=ns.take k++[x]):=hsn;have hlk:(ns.take k).length=k:=by rw[List.length_take];omega
    obtain ⟨us,hus⟩:∃ us,ns.take k=us:=⟨_,rfl⟩;rw[hus]at HC hlk HS hjl
    rw[hlk]at HC hjl
    have HL:Hid (us.length=k):=hlk;have hki:(k:Int)<(ns.length:Int):=by omega
    have o0:wr.cell? ⟨w.heap.size+1+1,0,none⟩=some (.slice ja k jc):=by rw[cH9 HC.out.out];rfl
    have of0:wr.frozen? ⟨w.heap.size+1+1,0,none⟩=false:=fH9 HC.out.out 0;have hbx:=heap_alloc_new wr (.cells #[.bool x.text,.string x.s,.slice aa x.attrs.length ac,.int .i64 x.parent,.slice ka x.kids.length kc] 43);have hb1:=Below.alloc1 wr (.cells #[.bool x.text,.string x.s,.slice aa x.attrs.length ac,.int .i64 x.parent,.slice ka x.kids.length kc] 43);have hwl:wr.heap.size<(wr.alloc (.cells #[.bool x.text,.string x.s,.slice aa x.attrs.length ac,.int .i64 x.parent,.slice ka x.kids.length kc] 43)).heap.size:=by simp
    clear hC hx hsn hus hlk;go_wp2_with fail
    generalize wr.alloc (.cells #[.bool x.text,.string x.s,.slice aa x.attrs.length ac,.int .i64 x.parent,.slice ka x.kids.length kc] 43)=W1 at *
    have n2:W1.cell? ⟨wr.heap.size,2,none⟩=some (.slice aa x.attrs.length ac):=by rw[cH9 hbx];rfl
    have n4:W1.cell? ⟨wr.heap.size,4,none⟩=some (.slice ka x.kids.length kc):=by rw[cH9 hbx];rfl
    have HAT:Hid (qj S wr (.slice aa x.attrs.length ac) x.attrs):=hAt;have HKI:Hid (zk S wr (.slice ka x.kids.length kc) x.kids):=hKi;clear hAt hKi c0 c1 c2 c3 c4
    go_region_law (first
     | (refine yH (by rfl) (.tmp 14) (by rfl) S (.slice aa x.attrs.length ac) x.attrs (by first|rfl|simp[Act.eval]) (HAT.out.later hb1.drew) hal ?_;intro v1 w1 hA1 hB1;obtain ⟨a1,c1',rfl⟩:=hA1.shape;have hx1:=(hB1.block wr.heap.size hwl).trans hbx;have n4a:w1.cell? ⟨wr.heap.size,4,none⟩=some (.slice ka x.kids.length kc):=by (rw[cH9 hx1];rfl))
     | (refine JP (by rfl) (.tmp 17) (by rfl) S (.slice ka x.kids.length kc) x.kids (by first|rfl|simp[Act.eval]) (HKI.out.later (hb1.drew.trans (hB1.mono (by exact hb1.size)))) hkl ?_;intro v2 w2 hI2 hB2;obtain ⟨a2,c2',rfl,_,_⟩:=hI2.shape;have hx2:=(hB2.block _ (qh hx1)).trans hx1;have n2b:=cH9 hx2 2;have n4b:=cH9 hx2 4;have f2b:=fH9 hx2 2;have f4b:=fH9 hx2 4;simp at n2b n4b))
    all_goals
     have hW4:(((w2.setCell ⟨wr.heap.size,2,none⟩ (.slice a1 x.attrs.length c1')).setCell ⟨wr.heap.size,4,none⟩ (.slice a2 x.kids.length c2'))).heap[wr.heap.size]?=some (.cells #[.bool x.text,.string x.s,.slice a1 x.attrs.length c1',.int .i64 x.parent,.slice a2 x.kids.length c2'] 43 (0,0)):=by
      simp[World.setCell,Array.getElem?_modify,hx2]
     have hk4:∀ b,wr.heap.size<b→(((w2.setCell ⟨wr.heap.size,2,none⟩ (.slice a1 x.attrs.length c1')).setCell ⟨wr.heap.size,4,none⟩ (.slice a2 x.kids.length c2'))).heap[b]?=w2.heap[b]?:=fun b hb=>by rw[qb (by omega),qb (by omega)]
     have hs12:W1.heap.size≤w1.heap.size:=hB1.size;have hs22:=hB2.size;have hB4:Below wr.heap.size wr (((w2.setCell ⟨wr.heap.size,2,none⟩ (.slice a1 x.attrs.length c1')).setCell ⟨wr.heap.size,4,none⟩ (.slice a2 x.kids.length c2'))):=(((hb1.drew.trans (hB1.mono hb1.size)).trans (hB2.mono (by omega))).setCell (p:=⟨wr.heap.size,2,none⟩) (nR9 _) _).setCell (p:=⟨wr.heap.size,4,none⟩) (nR9 _) _
     have hA4:qj (qA wr.heap.size 79 (((w2.setCell ⟨wr.heap.size,2,none⟩ (.slice a1 x.attrs.length c1')).setCell ⟨wr.heap.size,4,none⟩ (.slice a2 x.kids.length c2')))) (((w2.setCell ⟨wr.heap.size,2,none⟩ (.slice a1 x.attrs.length c1')).setCell ⟨wr.heap.size,4,none⟩ (.slice a2 x.kids.length c2'))) (.slice a1 x.attrs.length c1') x.attrs :=
      (hA1.own_later hB2).carry fun b hb=>by
       have h1:W1.heap.size≤b:=hb.1;exact ⟨hb.to (by show wr.heap.size≤W1.heap.size;omega) (hk4 b (by omega)),hk4 b (by omega)⟩
     have hI4:qF wr.heap.size (((w2.setCell ⟨wr.heap.size,2,none⟩ (.slice a1 x.attrs.length c1')).setCell ⟨wr.heap.size,4,none⟩ (.slice a2 x.kids.length c2'))) (.slice a2 x.kids.length c2') x.kids :=
      yO (qo hI2 fun b hb=>hk4 b (by have:=(qF.lt hI2 b hb).1;omega)) (by omega)
     generalize ((w2.setCell ⟨wr.heap.size,2,none⟩ (.slice a1 x.attrs.length c1')).setCell ⟨wr.heap.size,4,none⟩ (.slice a2 x.kids.length c2'))=W4 at hW4 hB4 hA4 hI4 ⊢
     have m0:W4.cell? ⟨wr.heap.size,0,none⟩=some (.bool x.text):=by rw[cH9 hW4];rfl
     have m1:W4.cell? ⟨wr.heap.size,1,none⟩=some (.string x.s):=by rw[cH9 hW4];rfl
     have m2:W4.cell? ⟨wr.heap.size,2,none⟩=some (.slice a1 x.attrs.length c1'):=by rw[cH9 hW4];rfl
     have m3:W4.cell? ⟨wr.heap.size,3,none⟩=some (.int .i64 x.parent):=by rw[cH9 hW4];rfl
     have m4:W4.cell? ⟨wr.heap.size,4,none⟩=some (.slice a2 x.kids.length c2'):=by rw[cH9 hW4];rfl
     have hd4:=(hB4.block _ hwr).trans HC.out.out;have o4:W4.cell? ⟨w.heap.size+1+1,0,none⟩=some (.slice ja k jc):=by rw[cH9 hd4];rfl
     have hown4:=(HC.out.row.later hB4).own;rw[HL.out]at hown4
     have hs4:=hB4.size;clear hk4 n2 n4 n4a n2b n4b f2b f4b hx1 hx2 hbx hA1 hB1 hI2 hB2 hb1 hwl hs12 hs22;go_wp2_with (at_builtin;refine wpList_append_own_at _ rfl _ _ 22 rfl (w.heap.size+3) 43 i0 _ 5 80 Tryz.underlying22 hi hz0 hz1 hz2 rfl (by decide) _ _ _ rfl (World.ownsRow.alloc hown4 _) ⟨W4.heap.size,0,none⟩ 1 1 [.bool x.text,.string x.s,.slice a1 x.attrs.length c1',.int .i64 x.parent,.slice a2 x.kids.length c2'] rfl ?qc1 ?qc2 ?qc3 ?qc4 ?qc5 ?qc6 ?_)
     case qc1 => rfl
     case qc2 => exact jN _ _ _ _ _ _ _
     case qc3 => intro u hu;simp at hu;rcases hu with rfl|rfl|rfl|rfl|rfl<;>rfl
     case qc4 => unfold maxLen;omega
     case qc5 => omega
     case qc6 => simp;omega
     intro v' w5 hown' hgrow _ _;obtain ⟨a5,n5,c5,rfl⟩:=qw hown';have HST:Hid _:=ZI HC.out HL.out hB4 hA4 hI4 hown' hgrow
     have hd5:w5.heap[w.heap.size+1+1]?=some (.cells #[.slice ja k jc] 24 (0,0)):=by
      have h1:w.heap.size+1+1<wr.heap.size:=hwr;rw[hgrow.block _ (by simp;omega) (fun e=>by have:=(HC.out.row.own.lt _ e.symm).1;omega),Lib.alloc_old _ _ _ (by omega)]
      exact hd4
     have o5:w5.cell? ⟨w.heap.size+1+1,0,none⟩=some (.slice ja k jc):=by rw[cH9 hd5];rfl
     have f5:w5.frozen? ⟨w.heap.size+1+1,0,none⟩=false:=fH9 hd5 0;clear hown' hgrow hA4 hI4;go_wp2_with fail
     go_roundg (ns.length-(k+1))
     case measure => omega
     case rel => exact ⟨k+1,_,_,by omega,by go_num,by rw[HS.out];exact HST.out⟩
  · have hki : ¬ ((k : Int) < (ns.length : Int)) := by omega
    have hkk:k=ns.length:=by omega
    have HKK:Hid (ns.take k=ns):=by show _=_;rw[hkk,List.take_length]
    have hlk:(ns.take k).length=ns.length:=by rw[HKK.out]
    rw[hlk]at HC hjl
    have o0:wr.cell? ⟨w.heap.size+1+1,0,none⟩=some (.slice ja ns.length jc):=by rw[cH9 HC.out.out];rfl
    have r0:wr.cell? ⟨w.heap.size+1,0,none⟩=some (.slice none 0 0):=by rw[cH9 HC.out.res];rfl
    have rf0:wr.frozen? ⟨w.heap.size+1,0,none⟩=false:=fH9 HC.out.res 0;clear hC hkk hlk;go_wp2_with fail;refine bodyPost_ret (v:=.agg #[.slice ja ns.length jc]) (by simp[results,Tryz.results5,go_sem,qk,r0]) rfl ⟨_,rfl,?_,?_⟩
    · have := HC.out.row.done;rw[HKK.out]at this
      exact this.carry fun b hb=>⟨by omega,qb (by omega)⟩
    · exact hB.setCell (p:=⟨w.heap.size+1,0,none⟩) (Nat.le_succ _) _
end
section
attribute [local go_sem] qk
set_option maxHeartbeats 2000000 in
theorem jP (S T:Nat→Prop)(va vb:Value)(l m:List Int)(w:World)(h1:zk S w va l)(h2:zk T w vb m) :
 Calls Tryz.prog 30 #[va,vb] w fun e w'=>e=.returned (.bool (decide (l=m)))∧Below w.heap.size w w':=by
 have H1:Hid (zk S w va l):=h1;have H2:Hid (zk T w vb m):=h2;obtain ⟨a,ca,rfl,_,hcm⟩:=h1.shape;obtain ⟨b,cb,rfl,_,hcm2⟩:=h2.shape;unfold maxLen at hcm hcm2
 clear h1 h2
 by_cases hlm:l.length=m.length
 · have hne : ((l.length : Int) != (m.length : Int)) = false := by simp[hlm]
   have HLM:Hid (l.length=m.length):=hlm;clear hlm
   go_enter Tryz.func30,Tryz.ntmps30
   go_wp2_with fail
   go_loopg [13] l.length (fun g j wr=>∃ (i:Nat),i+g=l.length∧j=.int .i64 (i:Int)∧Below w.heap.size w wr∧l.take i=m.take i)
   case atStart => exact ⟨0,by omega,rfl,Below.refl _ _,rfl⟩
   case round =>
    obtain ⟨i,hi,rfl,hB,hT⟩:=hrel;have HT:Hid (l.take i=m.take i):=hT;clear hT
    by_cases hil:i<l.length
    · have him : i < m.length := by have := HLM.out;omega
      obtain ⟨u,hu⟩:∃ u,l[i]?=some u:=⟨l[i],by simp[hil]⟩
      obtain ⟨v,hv⟩:∃ v,m[i]?=some v:=⟨m[i],by simp[him]⟩
      obtain ⟨b1,o1,c1,hv1,_,hbw1,e0⟩:=(H1.out.later hB).at hu
      injection hv1 with hv1 hvl hv2
      subst hv1 hv2;clear hvl;obtain ⟨b2,o2,c2,hv3,_,hbw2,g0⟩:=(H2.out.later hB).at hv
      injection hv3 with hv3 hvl hv4
      subst hv3 hv4;clear hvl;have hili:(i:Int)<(l.length:Int):=by omega
      have himi:(i:Int)<(m.length:Int):=by omega
      have hbn:Below wr.heap.size wr wr.drew:=(Below.refl _ _).drew
      have HC:Hid (∀ W,Below wr.heap.size wr W→Below wr.heap.size wr W∧W.cell? ⟨b1,o1+i,none⟩=some (.int .i64 u)∧W.cell? ⟨b2,o2+i,none⟩=some (.int .i64 v)):=by
       intro W h;refine ⟨h,?_,?_⟩
       · rw[h.cell (p:=⟨b1,o1+i,none⟩) hbw1];exact e0
       · rw[h.cell (p:=⟨b2,o2+i,none⟩) hbw2];exact g0
      have el:l[i]=u:=by simpa[hil] using hu
      have em:m[i]=v:=by simpa[him] using hv
      by_cases huv:u=v
      · have huvb : (u != v) = false := by simp[huv]
        have HT2:Hid (l.take (i+1)=m.take (i+1)):=by
         show _=_
         rw[List.take_succ_eq_append_getElem hil,List.take_succ_eq_append_getElem him,el,em,HT.out,huv]
        clear hu hv el em huv;go_wp2_with fail
        go_region_held3 (fun W:World=>Below wr.heap.size wr W∧W.cell? ⟨b1,o1+i,none⟩=some (.int .i64 u)∧W.cell? ⟨b2,o2+i,none⟩=some (.int .i64 v))
         (with_reducible exact HC.out _ hbn)
         (fail)
        go_wp2_with fail
        go_roundg (l.length-(i+1))
        case measure => omega
        case rel => exact ⟨i+1,by omega,by go_num,hB.trans (hbn.mono hB.size),HT2.out⟩
      · have huvb : (u != v) = true := by simpa using huv
        have HE:Hid (decide (l=m)=false):=by
         refine decide_eq_false ?_;intro e;subst e;exact huv (by rw[←el,←em])
        clear hu hv el em huv;go_wp2_with fail
        go_region_held3 (fun W:World=>Below wr.heap.size wr W∧W.cell? ⟨b1,o1+i,none⟩=some (.int .i64 u)∧W.cell? ⟨b2,o2+i,none⟩=some (.int .i64 v))
         (with_reducible exact HC.out _ hbn)
         (fail)
        go_wp2_with fail;go_ret;exact ⟨by rw[HE.out];rfl,hB.trans (hbn.mono hB.size)⟩
    · have hili : ¬ (i : Int) < (l.length : Int) := by omega
      have HE:Hid (decide (l=m)=true):=by
       refine decide_eq_true ?_;have:=HT.out;rw[List.take_of_length_le (by omega),List.take_of_length_le (by have:=HLM.out;omega)]at this
       exact this
      go_wp2_with fail;go_ret;exact ⟨by rw[HE.out];rfl,hB⟩
 · have hne : ((l.length : Int) != (m.length : Int)) = true := by simp;omega
   have HE:Hid (decide (l=m)=false):=decide_eq_false (fun e=>hlm (by rw[e]))
   clear hlm
   go_enter Tryz.func30,Tryz.ntmps30
   go_wp2_with fail;go_ret;exact ⟨by rw[HE.out];rfl,Below.refl _ _⟩
def ndB (x y:Nd):Bool:=(x.text==y.text)&&decide (x.s=y.s)&&decide (x.parent=y.parent)&&decide (x.attrs=y.attrs)&&decide (x.kids=y.kids)
def ndsB:List Nd→List Nd→Bool
 | [],[]=>true
 | x::a,y::b=>ndB x y&&ndsB a b
 | _,_=>false
theorem Vw {x y:Nd}:ndB x y=true↔x=y:=by
 obtain ⟨a,b,c,d,e⟩:=x;obtain ⟨a',b',c',d',e'⟩:=y;unfold ndB;simp
 constructor
 · rintro ⟨⟨⟨⟨h1,h2⟩,h3⟩,h4⟩,h5⟩;exact ⟨h1,h2,h4,h3,h5⟩
 · rintro ⟨h1,h2,h3,h4,h5⟩;exact ⟨⟨⟨⟨h1,h2⟩,h4⟩,h3⟩,h5⟩
theorem ndsB_iff:∀ {a b:List Nd},ndsB a b=true↔a=b:=by
 intro a
 induction a with
 | nil=>intro b;cases b<;>simp[ndsB]
 | cons x a ih => intro b;cases b with
   | nil=>simp[ndsB]
   | cons y b=>simp[ndsB,Vw,ih]
end
section
attribute [local go_sem] qk
theorem ndsB_len:∀ {a b:List Nd},a.length≠b.length→ndsB a b=false:=by
 intro a b h;cases hq:ndsB a b with
 | false=>rfl
 | true=>exact absurd (by rw[ndsB_iff.1 hq]) h
theorem XH {a b:List Nd}{i:Nat}{x y:Nd}(hx:a[i]?=some x)(hy:b[i]?=some y):ndsB (a.drop i) (b.drop i)=(ndB x y&&ndsB (a.drop (i+1)) (b.drop (i+1))):=by
 have ha:i<a.length:=by
  rcases Nat.lt_or_ge i a.length with h'|h'
  · exact h'
  · rw[List.getElem?_eq_none h']at hx;cases hx
 have hb:i<b.length:=by
  rcases Nat.lt_or_ge i b.length with h'|h'
  · exact h'
  · rw[List.getElem?_eq_none h']at hy;cases hy
 have e1:a.drop i=x::a.drop (i+1):=by rw[List.drop_eq_getElem_cons ha];congr 1;simpa[ha] using hx
 have e2:b.drop i=y::b.drop (i+1):=by rw[List.drop_eq_getElem_cons hb];congr 1;simpa[hb] using hy
 rw[e1,e2,ndsB]
set_option maxHeartbeats 4000000 in
theorem QR (S T:Nat→Prop)(va vb:Value)(ns ms:List Nd)(w:World)(h1:qv S w va ns)(h2:qv T w vb ms) :
 Calls Tryz.prog 13 #[.agg #[va],.agg #[vb]] w fun e w'=>e=.returned (.bool (ndsB ns ms))∧Below w.heap.size w w':=by
 have H1:Hid (qv S w va ns):=h1;have H2:Hid (qv T w vb ms):=h2;obtain ⟨a,ca,rfl,_,hcm⟩:=h1.shape;obtain ⟨b,cb,rfl,_,hcm2⟩:=h2.shape;unfold maxLen at hcm hcm2
 have hb0:Below w.heap.size w ((w.alloc (.cells #[.slice a ns.length ca] 24)).alloc (.cells #[.slice b ms.length cb] 24)):=(Below.alloc1 w _).alloc (by simp) _
 have hx0:((w.alloc (.cells #[.slice a ns.length ca] 24)).alloc (.cells #[.slice b ms.length cb] 24)).heap[w.heap.size]?=some (.cells #[.slice a ns.length ca] 24 (0,0)):=by
  rw[Lib.alloc_old _ _ _ (by simp)];exact heap_alloc_new _ _
 have hy0:((w.alloc (.cells #[.slice a ns.length ca] 24)).alloc (.cells #[.slice b ms.length cb] 24)).heap[w.heap.size+1]?=some (.cells #[.slice b ms.length cb] 24 (0,0)):=by
  have e:=heap_alloc_new (w.alloc (.cells #[.slice a ns.length ca] 24)) (.cells #[.slice b ms.length cb] 24);rw[World.size_alloc]at e
  exact e
 clear h1 h2
 by_cases hlm:ns.length=ms.length
 · have hne : ((ns.length : Int) != (ms.length : Int)) = false := by simp[hlm]
   have HLM:Hid (ns.length=ms.length):=hlm;clear hlm
   go_enter Tryz.func13,Tryz.ntmps13
   go_wp2_with fail
   generalize ((w.alloc (.cells #[.slice a ns.length ca] 24)).alloc (.cells #[.slice b ms.length cb] 24))=W1 at *
   go_loopg [18] ns.length (fun g j wr=>∃ (i:Nat),i+g=ns.length∧j=.int .i64 (i:Int)∧Below W1.heap.size W1 wr∧ndsB ns ms=ndsB (ns.drop i) (ms.drop i))
   case atStart => exact ⟨0,by omega,rfl,Below.refl _ _,rfl⟩
   case round =>
    obtain ⟨i,hi,rfl,hB,hT⟩:=hrel;have HT:Hid (ndsB ns ms=ndsB (ns.drop i) (ms.drop i)):=hT;clear hT;have hBw:Below w.heap.size w wr:=hb0.trans (hB.mono hb0.size);have hxr:=(hB.block _ (qh hx0)).trans hx0;have hyr:=(hB.block _ (qh hy0)).trans hy0;have dx:wr.cell? ⟨w.heap.size,0,none⟩=some (.slice a ns.length ca):=by rw[cH9 hxr];rfl
    have dy:wr.cell? ⟨w.heap.size+1,0,none⟩=some (.slice b ms.length cb):=by rw[cH9 hyr];rfl
    by_cases hil:i<ns.length
    · have him : i < ms.length := by have := HLM.out;omega
      obtain ⟨x,hx⟩:∃ x,ns[i]?=some x:=⟨ns[i],by simp[hil]⟩
      obtain ⟨y,hy⟩:∃ y,ms[i]?=some y:=⟨ms[i],by simp[him]⟩
      obtain ⟨b1,o1,c1,xva,xvk,hv1,_,_,_,hbw1,p0,p1,p2,p3,p4,hxA,hxK⟩:=(H1.out.later hBw).at hx
      injection hv1 with hv1 hvl hv2
      subst hv1 hv2;clear hvl;obtain ⟨b2,o2,c2,yva,yvk,hv3,_,_,_,hbw2,q0,q1,q2,q3,q4,hyA,hyK⟩:=(H2.out.later hBw).at hy
      injection hv3 with hv3 hvl hv4
      subst hv3 hv4;clear hvl;obtain ⟨xaa,xac,rfl⟩:=hxA.shape;obtain ⟨xka,xkc,rfl,_,_⟩:=hxK.shape;obtain ⟨yaa,yac,rfl⟩:=hyA.shape;obtain ⟨yka,ykc,rfl,_,_⟩:=hyK.shape;have HTD:Hid _:=XH hx hy;have hili:(i:Int)<(ns.length:Int):=by omega
      have himi:(i:Int)<(ms.length:Int):=by omega
      have hlt0:w.heap.size<wr.heap.size:=qh hxr;have hlt1:w.heap.size+1<wr.heap.size:=qh hyr;have hne0:wr.heap.size≠w.heap.size:=by omega
      have hne1:wr.heap.size≠w.heap.size+1:=by omega
      have hne2:wr.heap.size≠b1:=by omega
      have hne3:wr.heap.size≠b2:=by omega
      clear hx hy hxr hyr;go_wp2_with fail
      go_region
      · have hW2 : Below wr.heap.size wr ((wr.alloc (.cells #[.bool x.text, .string x.s, .slice xaa x.attrs.length xac, .int .i64 x.parent, .slice xka x.kids.length xkc] 43)).alloc (.cells #[.bool y.text, .string y.s, .slice yaa y.attrs.length yac, .int .i64 y.parent, .slice yka y.kids.length ykc] 43)).drew := (((Below.refl _ wr).alloc (nR9 _) _).alloc (by simp) _).drew
        have hF:(((wr.alloc (.cells #[.bool x.text,.string x.s,.slice xaa x.attrs.length xac,.int .i64 x.parent,.slice xka x.kids.length xkc] 43)).alloc (.cells #[.bool y.text,.string y.s,.slice yaa y.attrs.length yac,.int .i64 y.parent,.slice yka y.kids.length ykc] 43)).drew).heap[wr.heap.size]?=some (.cells #[.bool x.text,.string x.s,.slice xaa x.attrs.length xac,.int .i64 x.parent,.slice xka x.kids.length xkc] 43 (0,0)):=by
         show ((wr.alloc (.cells #[.bool x.text,.string x.s,.slice xaa x.attrs.length xac,.int .i64 x.parent,.slice xka x.kids.length xkc] 43)).alloc (.cells #[.bool y.text,.string y.s,.slice yaa y.attrs.length yac,.int .i64 y.parent,.slice yka y.kids.length ykc] 43)).heap[wr.heap.size]?=_
         rw[Lib.alloc_old _ _ _ (by simp)];exact heap_alloc_new _ _
        have hG:(((wr.alloc (.cells #[.bool x.text,.string x.s,.slice xaa x.attrs.length xac,.int .i64 x.parent,.slice xka x.kids.length xkc] 43)).alloc (.cells #[.bool y.text,.string y.s,.slice yaa y.attrs.length yac,.int .i64 y.parent,.slice yka y.kids.length ykc] 43)).drew).heap[wr.heap.size+1]?=some (.cells #[.bool y.text,.string y.s,.slice yaa y.attrs.length yac,.int .i64 y.parent,.slice yka y.kids.length ykc] 43 (0,0)):=by
         show ((wr.alloc (.cells #[.bool x.text,.string x.s,.slice xaa x.attrs.length xac,.int .i64 x.parent,.slice xka x.kids.length xkc] 43)).alloc (.cells #[.bool y.text,.string y.s,.slice yaa y.attrs.length yac,.int .i64 y.parent,.slice yka y.kids.length ykc] 43)).heap[wr.heap.size+1]?=_
         have e:=heap_alloc_new (wr.alloc (.cells #[.bool x.text,.string x.s,.slice xaa x.attrs.length xac,.int .i64 x.parent,.slice xka x.kids.length xkc] 43)) (.cells #[.bool y.text,.string y.s,.slice yaa y.attrs.length yac,.int .i64 y.parent,.slice yka y.kids.length ykc] 43);rw[World.size_alloc]at e
         exact e
        generalize ((wr.alloc (.cells #[.bool x.text,.string x.s,.slice xaa x.attrs.length xac,.int .i64 x.parent,.slice xka x.kids.length xkc] 43)).alloc (.cells #[.bool y.text,.string y.s,.slice yaa y.attrs.length yac,.int .i64 y.parent,.slice yka y.kids.length ykc] 43)).drew=W2 at *
        have x0:W2.cell? ⟨wr.heap.size,0,none⟩=some (.bool x.text):=by rw[cH9 hF];rfl
        have x1:W2.cell? ⟨wr.heap.size,1,none⟩=some (.string x.s):=by rw[cH9 hF];rfl
        have x2:W2.cell? ⟨wr.heap.size,2,none⟩=some (.slice xaa x.attrs.length xac):=by rw[cH9 hF];rfl
        have x3:W2.cell? ⟨wr.heap.size,3,none⟩=some (.int .i64 x.parent):=by rw[cH9 hF];rfl
        have x4:W2.cell? ⟨wr.heap.size,4,none⟩=some (.slice xka x.kids.length xkc):=by rw[cH9 hF];rfl
        have y0:W2.cell? ⟨wr.heap.size+1,0,none⟩=some (.bool y.text):=by rw[cH9 hG];rfl
        have y1:W2.cell? ⟨wr.heap.size+1,1,none⟩=some (.string y.s):=by rw[cH9 hG];rfl
        have y2:W2.cell? ⟨wr.heap.size+1,2,none⟩=some (.slice yaa y.attrs.length yac):=by rw[cH9 hG];rfl
        have y3:W2.cell? ⟨wr.heap.size+1,3,none⟩=some (.int .i64 y.parent):=by rw[cH9 hG];rfl
        have y4:W2.cell? ⟨wr.heap.size+1,4,none⟩=some (.slice yka y.kids.length ykc):=by rw[cH9 hG];rfl
        have HAT:Hid (∀ W,Below W2.heap.size W2 W→Calls Tryz.prog 29 #[.slice xaa x.attrs.length xac,.slice yaa y.attrs.length yac] W fun e w'=>e=.returned (.bool (decide (x.attrs=y.attrs)))∧Below W.heap.size W w'):=fun W h=>xT _ _ _ _ x.attrs y.attrs W ((hxA.later hW2).later h) ((hyA.later hW2).later h)
        have HKN:Hid (∀ W,Below W2.heap.size W2 W→Calls Tryz.prog 30 #[.slice xka x.kids.length xkc,.slice yka y.kids.length ykc] W fun e w'=>e=.returned (.bool (decide (x.kids=y.kids)))∧Below W.heap.size W w'):=fun W h=>jP _ _ _ _ x.kids y.kids W ((hxK.later hW2).later h) ((hyK.later hW2).later h)
        have hBW2:Below w.heap.size w W2:=hBw.trans (hW2.mono hBw.size);have hB12:Below W1.heap.size W1 W2:=hB.trans (hW2.mono hB.size)
        have KF:ndB x y=false→Hid (ndsB ns ms=false):=by
         intro hq
         show _=_
         rw[HT.out,HTD.out,hq];rfl
        clear p0 p1 p2 p3 p4 q0 q1 q2 q3 q4 dx dy hne0 hne1 hne2 hne3 hlt0 hlt1
        by_cases k1:x.text=y.text
        · have k1b : (x.text == y.text) = true := by simp[k1]
          by_cases k2:x.s=y.s
          · have k2b : (x.s.toList == y.s.toList) = true := by rw[k2];simp
            by_cases k3:x.parent=y.parent
            · have k3b : (x.parent != y.parent) = false := by simp[k3]
              have k3c:(x.parent==y.parent)=true:=by simp[k3]
              by_cases k4:x.attrs=y.attrs
              · have HAT2:Hid (∀ W,Below W2.heap.size W2 W→Calls Tryz.prog 29 #[.slice xaa x.attrs.length xac,.slice yaa y.attrs.length yac] W fun e w'=>e=.returned (.bool true)∧Below W.heap.size W w'):=by
                 intro W h;have:=HAT.out W h;rw[decide_eq_true k4]at this;exact this
                by_cases k5:x.kids=y.kids
                · have HKN2:Hid (∀ W,Below W2.heap.size W2 W→Calls Tryz.prog 30 #[.slice xka x.kids.length xkc,.slice yka y.kids.length ykc] W fun e w'=>e=.returned (.bool true)∧Below W.heap.size W w'):=by
                   intro W h;have:=HKN.out W h;rw[decide_eq_true k5]at this;exact this
                  have HN:Hid (ndsB ns ms=ndsB (ns.drop (i+1)) (ms.drop (i+1))):=by
                   show _=_
                   rw[HT.out,HTD.out,show ndB x y=true by unfold ndB;simp[k1,k2,k3,k4,k5]];rfl
                  clear KF k1 k2 k3 k4 k5 HAT HKN;go_wp2_with fail;refine (Calls.mono (HAT2.out _ (Below.refl _ _)) ?_);rintro e w3 ⟨rfl,hb3⟩;have hX3:=(hb3.block _ (qh hF)).trans hF;have hY3:=(hb3.block _ (qh hG)).trans hG;have hu4:w3.cell? ⟨wr.heap.size,4,none⟩=some (.slice xka x.kids.length xkc):=by rw[cH9 hX3];rfl
                  have hv4:w3.cell? ⟨wr.heap.size+1,4,none⟩=some (.slice yka y.kids.length ykc):=by rw[cH9 hY3];rfl
                  go_wp2_with fail;refine (Calls.mono (HKN2.out _ hb3) ?_);rintro e w4 ⟨rfl,hb4⟩;go_wp2_with fail
                  go_roundg (ns.length-(i+1))
                  case measure => omega
                  case rel => exact ⟨i+1,by omega,by go_num,hB12.trans ((hb3.trans (hb4.mono hb3.size)).mono hB12.size),HN.out⟩
                · have HKN2:Hid (∀ W,Below W2.heap.size W2 W→Calls Tryz.prog 30 #[.slice xka x.kids.length xkc,.slice yka y.kids.length ykc] W fun e w'=>e=.returned (.bool false)∧Below W.heap.size W w'):=by
                   intro W h;have:=HKN.out W h;rw[decide_eq_false k5]at this;exact this
                  have HE:=KF (by unfold ndB;simp[k5])
                  clear KF k1 k2 k3 k4 k5 HAT HKN;go_wp2_with fail;refine (Calls.mono (HAT2.out _ (Below.refl _ _)) ?_);rintro e w3 ⟨rfl,hb3⟩;have hX3:=(hb3.block _ (qh hF)).trans hF;have hY3:=(hb3.block _ (qh hG)).trans hG;have hu4:w3.cell? ⟨wr.heap.size,4,none⟩=some (.slice xka x.kids.length xkc):=by rw[cH9 hX3];rfl
                  have hv4:w3.cell? ⟨wr.heap.size+1,4,none⟩=some (.slice yka y.kids.length ykc):=by rw[cH9 hY3];rfl
                  go_wp2_with fail;refine (Calls.mono (HKN2.out _ hb3) ?_);rintro e w4 ⟨rfl,hb4⟩;go_wp2_with fail;go_ret;exact ⟨by rw[HE.out];rfl,hBW2.trans ((hb3.trans (hb4.mono hb3.size)).mono hBW2.size)⟩
              · have HAT2:Hid (∀ W,Below W2.heap.size W2 W→Calls Tryz.prog 29 #[.slice xaa x.attrs.length xac,.slice yaa y.attrs.length yac] W fun e w'=>e=.returned (.bool false)∧Below W.heap.size W w'):=by
                 intro W h;have:=HAT.out W h;rw[decide_eq_false k4]at this;exact this
                have HE:=KF (by unfold ndB;simp[k4])
                clear KF k1 k2 k3 k4 HAT HKN;go_wp2_with fail;refine (Calls.mono (HAT2.out _ (Below.refl _ _)) ?_);rintro e w3 ⟨rfl,hb3⟩;go_wp2_with fail;go_ret;exact ⟨by rw[HE.out];rfl,hBW2.trans (hb3.mono hBW2.size)⟩
            · have k3b : (x.parent != y.parent) = true := by simpa using k3
              have k3c:(x.parent==y.parent)=false:=by simpa using k3
              have HE:=KF (by unfold ndB;simp[k3])
              clear KF k1 k2 k3 HAT HKN;go_wp2_with fail;go_ret;exact ⟨by rw[HE.out];rfl,hBW2⟩
          · have k2b : (x.s.toList == y.s.toList) = false := jD k2;have HE:=KF (by unfold ndB;simp[k2])
            clear KF k1 k2 HAT HKN;go_wp2_with fail;go_ret;exact ⟨by rw[HE.out];rfl,hBW2⟩
        · have k1b : (x.text == y.text) = false := by simpa using k1
          have HE:=KF (by unfold ndB;simp[k1])
          clear KF k1 HAT HKN;go_wp2_with fail;go_ret;exact ⟨by rw[HE.out];rfl,hBW2⟩
      · have hW2 : Below wr.heap.size wr ((wr.alloc (.cells #[.bool y.text, .string y.s, .slice yaa y.attrs.length yac, .int .i64 y.parent, .slice yka y.kids.length ykc] 43)).alloc (.cells #[.bool x.text, .string x.s, .slice xaa x.attrs.length xac, .int .i64 x.parent, .slice xka x.kids.length xkc] 43)).drew := (((Below.refl _ wr).alloc (nR9 _) _).alloc (by simp) _).drew
        have hF:(((wr.alloc (.cells #[.bool y.text,.string y.s,.slice yaa y.attrs.length yac,.int .i64 y.parent,.slice yka y.kids.length ykc] 43)).alloc (.cells #[.bool x.text,.string x.s,.slice xaa x.attrs.length xac,.int .i64 x.parent,.slice xka x.kids.length xkc] 43)).drew).heap[wr.heap.size]?=some (.cells #[.bool y.text,.string y.s,.slice yaa y.attrs.length yac,.int .i64 y.parent,.slice yka y.kids.length ykc] 43 (0,0)):=by
         show ((wr.alloc (.cells #[.bool y.text,.string y.s,.slice yaa y.attrs.length yac,.int .i64 y.parent,.slice yka y.kids.length ykc] 43)).alloc (.cells #[.bool x.text,.string x.s,.slice xaa x.attrs.length xac,.int .i64 x.parent,.slice xka x.kids.length xkc] 43)).heap[wr.heap.size]?=_
         rw[Lib.alloc_old _ _ _ (by simp)];exact heap_alloc_new _ _
        have hG:(((wr.alloc (.cells #[.bool y.text,.string y.s,.slice yaa y.attrs.length yac,.int .i64 y.parent,.slice yka y.kids.length ykc] 43)).alloc (.cells #[.bool x.text,.string x.s,.slice xaa x.attrs.length xac,.int .i64 x.parent,.slice xka x.kids.length xkc] 43)).drew).heap[wr.heap.size+1]?=some (.cells #[.bool x.text,.string x.s,.slice xaa x.attrs.length xac,.int .i64 x.parent,.slice xka x.kids.length xkc] 43 (0,0)):=by
         show ((wr.alloc (.cells #[.bool y.text,.string y.s,.slice yaa y.attrs.length yac,.int .i64 y.parent,.slice yka y.kids.length ykc] 43)).alloc (.cells #[.bool x.text,.string x.s,.slice xaa x.attrs.length xac,.int .i64 x.parent,.slice xka x.kids.length xkc] 43)).heap[wr.heap.size+1]?=_
         have e:=heap_alloc_new (wr.alloc (.cells #[.bool y.text,.string y.s,.slice yaa y.attrs.length yac,.int .i64 y.parent,.slice yka y.kids.length ykc] 43)) (.cells #[.bool x.text,.string x.s,.slice xaa x.attrs.length xac,.int .i64 x.parent,.slice xka x.kids.length xkc] 43);rw[World.size_alloc]at e
         exact e
        generalize ((wr.alloc (.cells #[.bool y.text,.string y.s,.slice yaa y.attrs.length yac,.int .i64 y.parent,.slice yka y.kids.length ykc] 43)).alloc (.cells #[.bool x.text,.string x.s,.slice xaa x.attrs.length xac,.int .i64 x.parent,.slice xka x.kids.length xkc] 43)).drew=W2 at *
        have x0:W2.cell? ⟨wr.heap.size+1,0,none⟩=some (.bool x.text):=by rw[cH9 hG];rfl
        have x1:W2.cell? ⟨wr.heap.size+1,1,none⟩=some (.string x.s):=by rw[cH9 hG];rfl
        have x2:W2.cell? ⟨wr.heap.size+1,2,none⟩=some (.slice xaa x.attrs.length xac):=by rw[cH9 hG];rfl
        have x3:W2.cell? ⟨wr.heap.size+1,3,none⟩=some (.int .i64 x.parent):=by rw[cH9 hG];rfl
        have x4:W2.cell? ⟨wr.heap.size+1,4,none⟩=some (.slice xka x.kids.length xkc):=by rw[cH9 hG];rfl
        have y0:W2.cell? ⟨wr.heap.size,0,none⟩=some (.bool y.text):=by rw[cH9 hF];rfl
        have y1:W2.cell? ⟨wr.heap.size,1,none⟩=some (.string y.s):=by rw[cH9 hF];rfl
        have y2:W2.cell? ⟨wr.heap.size,2,none⟩=some (.slice yaa y.attrs.length yac):=by rw[cH9 hF];rfl
        have y3:W2.cell? ⟨wr.heap.size,3,none⟩=some (.int .i64 y.parent):=by rw[cH9 hF];rfl
        have y4:W2.cell? ⟨wr.heap.size,4,none⟩=some (.slice yka y.kids.length ykc):=by rw[cH9 hF];rfl
        have HAT:Hid (∀ W,Below W2.heap.size W2 W→Calls Tryz.prog 29 #[.slice xaa x.attrs.length xac,.slice yaa y.attrs.length yac] W fun e w'=>e=.returned (.bool (decide (x.attrs=y.attrs)))∧Below W.heap.size W w'):=fun W h=>xT _ _ _ _ x.attrs y.attrs W ((hxA.later hW2).later h) ((hyA.later hW2).later h)
        have HKN:Hid (∀ W,Below W2.heap.size W2 W→Calls Tryz.prog 30 #[.slice xka x.kids.length xkc,.slice yka y.kids.length ykc] W fun e w'=>e=.returned (.bool (decide (x.kids=y.kids)))∧Below W.heap.size W w'):=fun W h=>jP _ _ _ _ x.kids y.kids W ((hxK.later hW2).later h) ((hyK.later hW2).later h)
        have hBW2:Below w.heap.size w W2:=hBw.trans (hW2.mono hBw.size);have hB12:Below W1.heap.size W1 W2:=hB.trans (hW2.mono hB.size)
        have KF:ndB x y=false→Hid (ndsB ns ms=false):=by
         intro hq
         show _=_
         rw[HT.out,HTD.out,hq];rfl
        clear p0 p1 p2 p3 p4 q0 q1 q2 q3 q4 dx dy hne0 hne1 hne2 hne3 hlt0 hlt1
        by_cases k1:x.text=y.text
        · have k1b : (x.text == y.text) = true := by simp[k1]
          by_cases k2:x.s=y.s
          · have k2b : (x.s.toList == y.s.toList) = true := by rw[k2];simp
            by_cases k3:x.parent=y.parent
            · have k3b : (x.parent != y.parent) = false := by simp[k3]
              have k3c:(x.parent==y.parent)=true:=by simp[k3]
              by_cases k4:x.attrs=y.attrs
              · have HAT2:Hid (∀ W,Below W2.heap.size W2 W→Calls Tryz.prog 29 #[.slice xaa x.attrs.length xac,.slice yaa y.attrs.length yac] W fun e w'=>e=.returned (.bool true)∧Below W.heap.size W w'):=by
                 intro W h;have:=HAT.out W h;rw[decide_eq_true k4]at this;exact this
                by_cases k5:x.kids=y.kids
                · have HKN2:Hid (∀ W,Below W2.heap.size W2 W→Calls Tryz.prog 30 #[.slice xka x.kids.length xkc,.slice yka y.kids.length ykc] W fun e w'=>e=.returned (.bool true)∧Below W.heap.size W w'):=by
                   intro W h;have:=HKN.out W h;rw[decide_eq_true k5]at this;exact this
                  have HN:Hid (ndsB ns ms=ndsB (ns.drop (i+1)) (ms.drop (i+1))):=by
                   show _=_
                   rw[HT.out,HTD.out,show ndB x y=true by unfold ndB;simp[k1,k2,k3,k4,k5]];rfl
                  clear KF k1 k2 k3 k4 k5 HAT HKN;go_wp2_with fail;refine (Calls.mono (HAT2.out _ (Below.refl _ _)) ?_);rintro e w3 ⟨rfl,hb3⟩;have hX3:=(hb3.block _ (qh hG)).trans hG;have hY3:=(hb3.block _ (qh hF)).trans hF;have hu4:w3.cell? ⟨wr.heap.size+1,4,none⟩=some (.slice xka x.kids.length xkc):=by rw[cH9 hX3];rfl
                  have hv4:w3.cell? ⟨wr.heap.size,4,none⟩=some (.slice yka y.kids.length ykc):=by rw[cH9 hY3];rfl
                  go_wp2_with fail;refine (Calls.mono (HKN2.out _ hb3) ?_);rintro e w4 ⟨rfl,hb4⟩;go_wp2_with fail
                  go_roundg (ns.length-(i+1))
                  case measure => omega
                  case rel => exact ⟨i+1,by omega,by go_num,hB12.trans ((hb3.trans (hb4.mono hb3.size)).mono hB12.size),HN.out⟩
                · have HKN2:Hid (∀ W,Below W2.heap.size W2 W→Calls Tryz.prog 30 #[.slice xka x.kids.length xkc,.slice yka y.kids.length ykc] W fun e w'=>e=.returned (.bool false)∧Below W.heap.size W w'):=by
                   intro W h;have:=HKN.out W h;rw[decide_eq_false k5]at this;exact this
                  have HE:=KF (by unfold ndB;simp[k5])
                  clear KF k1 k2 k3 k4 k5 HAT HKN;go_wp2_with fail;refine (Calls.mono (HAT2.out _ (Below.refl _ _)) ?_);rintro e w3 ⟨rfl,hb3⟩;have hX3:=(hb3.block _ (qh hG)).trans hG;have hY3:=(hb3.block _ (qh hF)).trans hF;have hu4:w3.cell? ⟨wr.heap.size+1,4,none⟩=some (.slice xka x.kids.length xkc):=by rw[cH9 hX3];rfl
                  have hv4:w3.cell? ⟨wr.heap.size,4,none⟩=some (.slice yka y.kids.length ykc):=by rw[cH9 hY3];rfl
                  go_wp2_with fail;refine (Calls.mono (HKN2.out _ hb3) ?_);rintro e w4 ⟨rfl,hb4⟩;go_wp2_with fail;go_ret;exact ⟨by rw[HE.out];rfl,hBW2.trans ((hb3.trans (hb4.mono hb3.size)).mono hBW2.size)⟩
              · have HAT2:Hid (∀ W,Below W2.heap.size W2 W→Calls Tryz.prog 29 #[.slice xaa x.attrs.length xac,.slice yaa y.attrs.length yac] W fun e w'=>e=.returned (.bool false)∧Below W.heap.size W w'):=by
                 intro W h;have:=HAT.out W h;rw[decide_eq_false k4]at this;exact this
                have HE:=KF (by unfold ndB;simp[k4])
                clear KF k1 k2 k3 k4 HAT HKN;go_wp2_with fail;refine (Calls.mono (HAT2.out _ (Below.refl _ _)) ?_);rintro e w3 ⟨rfl,hb3⟩;go_wp2_with fail;go_ret;exact ⟨by rw[HE.out];rfl,hBW2.trans (hb3.mono hBW2.size)⟩
            · have k3b : (x.parent != y.parent) = true := by simpa using k3
              have k3c:(x.parent==y.parent)=false:=by simpa using k3
              have HE:=KF (by unfold ndB;simp[k3])
              clear KF k1 k2 k3 HAT HKN;go_wp2_with fail;go_ret;exact ⟨by rw[HE.out];rfl,hBW2⟩
          · have k2b : (x.s.toList == y.s.toList) = false := jD k2;have HE:=KF (by unfold ndB;simp[k2])
            clear KF k1 k2 HAT HKN;go_wp2_with fail;go_ret;exact ⟨by rw[HE.out];rfl,hBW2⟩
        · have k1b : (x.text == y.text) = false := by simpa using k1
          have HE:=KF (by unfold ndB;simp[k1])
          clear KF k1 HAT HKN;go_wp2_with fail;go_ret;exact ⟨by rw[HE.out];rfl,hBW2⟩
    · have hili : ¬ ((i : Int) < (ns.length : Int)) := by omega
      have HE:Hid (ndsB ns ms=true):=by
       show _=_
       rw[HT.out,List.drop_of_length_le (by omega),List.drop_of_length_le (by have:=HLM.out;omega)]
       rfl
      go_wp2_with fail;go_ret;exact ⟨by rw[HE.out];rfl,hBw⟩
 · have hne : ((ns.length : Int) != (ms.length : Int)) = true := by simp;omega
   have HE:Hid (ndsB ns ms=false):=ndsB_len hlm;clear hlm
   go_enter Tryz.func13,Tryz.ntmps13
   go_wp2_with fail;go_ret;exact ⟨by rw[HE.out];rfl,hb0⟩
end
end Go.Proofs.YtnppmdpmippcoaaGreatDoor
namespace Go.Proofs.YtnppmdpmippcoaaGreatDoor
open Go.RowKit
set_option maxRecDepth 100000
def yV (g:Nat→Nat):Nat→Nat
 | 0=>0
 | n+1=>yV g n+g n
theorem YZ (g h:Nat→Nat):∀ n,yV (fun k=>g k+h k) n=yV g n+yV h n:=by
 intro n
 induction n with
 | zero=>rfl
 | succ n ih=>simp only[yV];rw[ih];omega
theorem VK {g h:Nat→Nat}(hl:∀ k,g k≤h k):∀ n,yV g n≤yV h n:=by
 intro n
 induction n with
 | zero=>exact nR9 _
 | succ n ih=>simp only[yV];have:=hl n;omega
theorem VJ (g:Nat→Nat):∀ (n k:Nat),k<n→g k≤yV g n:=by
 intro n
 induction n with
 | zero=>intro k h;omega
 | succ n ih =>
   intro k h;simp only[yV]
   by_cases hk:k=n
   · subst hk;omega
   · have:=ih k (by omega);omega
theorem xw (c:Nat):∀ n,yV (fun _=>c) n=n*c:=by
 intro n
 induction n with
 | zero=>simp[yV]
 | succ n ih=>simp only[yV];rw[ih,Nat.add_mul];omega
theorem Jx (ns:List Nd)(m a:Nat):∀ N,yV (fun n=>if n<m∧QN ns n m=true then a else 0) N≤a:=by
 intro N
 induction N with
 | zero=>exact nZ9 _
 | succ N ih =>
   simp only[yV]
   by_cases hc:N<m∧QN ns N m=true
   · have hz:∀ M,M≤N→yV (fun n=>if n<m∧QN ns n m=true then a else 0) M=0:=by
      intro M
      induction M with
      | zero=>intro _;rfl
      | succ M ihM =>
        intro hM;simp only[yV];rw[ihM (by omega),if_neg]
        rintro ⟨_,h2⟩;have h1:=hc.2;unfold QN at h1 h2
        cases hy:ns[m]? with
        | none=>simp[hy]at h1
        | some y=>simp[hy]at h1 h2;omega
     rw[hz N (nR9 _),if_pos hc];omega
   · rw[if_neg hc];omega
theorem KT (ns:List Nd)(h:Nat→Nat)(N:Nat):∀ m,yV (fun n=>((zb ns n m).map fun u=>h u.toNat).sum) N≤yV h m:=by
 intro m
 induction m with
 | zero =>
   have:yV (fun n=>((zb ns n 0).map fun u=>h u.toNat).sum) N=0:=by
    have:=xw 0 N
    simpa[zb] using this
   rw[this];exact nZ9 _
 | succ m ih =>
   have e:(fun n=>((zb ns n (m+1)).map fun u=>h u.toNat).sum)=fun n=>((zb ns n m).map fun u=>h u.toNat).sum+(if n<m∧QN ns n m=true then h m else 0):=by
    funext n
    rw[zb,List.map_append,List.sum_append]
    split
    · simp
    · simp
   rw[e,YZ];simp only[yV];have:=Jx ns m (h m) N;omega
theorem Ki (f:Nat)(g:Int→Tr)(l:List Int):cnt (f+1) (l.map g)=(l.map fun k=>cnt (f+1) [g k]).sum:=by
 induction l with
 | nil=>rfl
 | cons x l ih=>rw[List.map_cons,qG,ih,List.map_cons,List.sum_cons]
theorem KX (ns:List Nd):∀ f,yV (fun n=>cnt (f+1) [treeF f ns n]) ns.length≤ns.length*(f+1):=by
 intro f
 induction f with
 | zero =>
   have e:(fun n=>cnt (0+1) [treeF 0 ns n])=fun _=>1:=by
    funext n
    simp[cnt]
   rw[e,xw];omega
 | succ f ih =>
   have hle:∀ n,cnt (f+1+1) [treeF (f+1) ns n]≤1+((zb ns n ns.length).map fun u=>cnt (f+1) [treeF f ns u.toNat]).sum:=by
    intro n;rw[qt,treeF];cases hx:ns[n]? with
    | none=>simp[qx]
    | some x =>
      show 1+cnt (f+1) ((zb ns n ns.length).map fun k=>treeF f ns k.toNat)≤_
      rw[Ki];exact nR9 _
   have h1:=VK hle ns.length;rw[YZ,xw]at h1
   have h2:=KT ns (fun k=>cnt (f+1) [treeF f ns k]) ns.length ns.length
   have e:ns.length*(f+1+1)=ns.length*(f+1)+ns.length:=by rw[Nat.mul_add];omega
   rw[e];omega
theorem KW {ns:List Nd}{f n:Nat}(hn:n<ns.length)(h80:ns.length≤80)(hf:f≤80):cnt (f+1) [treeF f ns n]≤1048576:=by
 have h1:=VJ (fun n=>cnt (f+1) [treeF f ns n]) ns.length n hn
 have h2:=KX ns f;have h3:ns.length*(f+1)≤80*81:=Nat.mul_le_mul h80 (by omega)
 omega
end Go.Proofs.YtnppmdpmippcoaaGreatDoor
