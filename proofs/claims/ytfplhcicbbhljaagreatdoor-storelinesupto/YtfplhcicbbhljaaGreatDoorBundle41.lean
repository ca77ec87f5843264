/- Bundled: StosC SLinJ. What each says stands ahead of it. -/
import Derived.Test.YtfplhcicbbhljaaGreatDoorBundle40
import Derived.Test.YtfplhcicbbhljaaGreatDoorBundle37
namespace Go.Proofs.YtfplhcicbbhljaaGreatDoor
open Go.ChangeShapes Go.WideShapes Go.ChangeAt Go.RowKit
set_option maxRecDepth 100000
section
attribute [local go_sem] qd
def treeC:Tr:=⟨false,⟨#[100,111,99]⟩,[],[⟨false,⟨#[97]⟩,[],[⟨true,⟨#[120]⟩,[],[]⟩]⟩]⟩
def opC:Opn:=⟨2,0,treeC.kids,⟨#[]⟩,⟨#[]⟩⟩
def docC:List Nd:=[⟨false,⟨#[100,111,99]⟩,[],-1,[1]⟩,⟨false,⟨#[97]⟩,[],0,[2]⟩,⟨true,⟨#[120]⟩,[],1,[]⟩]
theorem st_chg:ye newD [⟨#[108,97,115,116,32,47,100,111,99,32,60,97,62,120,60,47,97,62]⟩]=([opC],0):=by kernel_rfl
theorem st_put:xV 8 newD 0 0 opC.content=docC:=by kernel_rfl
theorem st_lay:layF 3 treeC (-1) 0=docC:=by kernel_rfl
theorem st_fit:FitG 3 docC 0:=⟨_,rfl,fun k hk=>⟨1,by simpa using hk,_,rfl,fun k hk=>⟨2,by simpa using hk,_,rfl,fun k hk=>by cases hk⟩⟩⟩
theorem st_show:(Jp docC).2.2=⟨#[60,100,111,99,62,60,97,62,120,60,47,97,62,60,47,100,111,99,62]⟩:=by decide +kernel
theorem qc9 (S:Nat→Prop)(vn vl:Value)(w:World)(hN:qB S w vn newD)(hS:∀ b,S b→b<w.heap.size)(hO:Ops S w 9 vl [opC]):Calls Tryz.prog 78 #[.agg #[vn],vl] w fun e w'=>∃ v',e=.returned (.tuple #[.agg #[v'],.int .i64 0])∧qB (fun b=>w.heap.size≤b) w' v' docC∧Below w.heap.size w w':=by
 have h:=qfx S 3 0 vn vl newD [opC] opC ⟨false,⟨#[100,111,99]⟩,[],-1,[]⟩ treeC treeC w rfl hN hS (by unfold newD;simp) (by simp[Qq,newD,maxLen];decide +kernel) hO (by simp[XJ,TextsN,YC,opC,treeC,maxLen];decide +kernel) (by decide +kernel) rfl rfl rfl (by decide +kernel) (nZ9 _) (by unfold Bnd;decide +kernel) (by simp[newD])
  (by rw[show (⟨false,⟨#[100,111,99]⟩,[],-1,[]⟩:Nd).kids.length=0 from rfl,st_put];unfold Bnd;decide +kernel) (st_put.symm ▸ st_fit) (by kernel_rfl) (by kernel_rfl) (by simp[Small,treeC,catL];decide +kernel) (by decide +kernel) (by simp[TextsN,YC,treeC,maxLen];decide +kernel) (by decide +kernel)
 rw[st_lay]at h
 exact h
theorem qag (a:Option Addr)(n c:Nat)(w:World):(Instr.field 60 (.agg #[.slice a n c]) 0).run Tryz.prog w=.ok (.slice a n c) w:=by
 simp[Instr.field,part,asAgg,go_sem]
theorem YJ {sb:Nat}{w0 w w':World}(h:Below w0.heap.size w0 w)(hF:CFr sb w w')(hs:w0.heap.size≤sb):Below w0.heap.size w0 w' :=
 ⟨hF.below.os.trans h.os,hF.below.tape.trans h.tape,hF.below.output.trans h.output,Nat.le_trans h.size hF.below.size,fun k hk=>(hF.frame k (Nat.lt_of_lt_of_le hk h.size) (by omega)).trans (h.block k hk)⟩
set_option maxHeartbeats 2000000 in
theorem qa9 (w:World)(hE:jp w):Calls Tryz.prog 8 #[] w fun e w'=>e=.returned (.bool true)∧Below w.heap.size w w':=by
 have HN:Hid _:=qeX w;have HE:Hid _:=hE;clear hE
 go_enter Tryz.func8,Tryz.ntmps8
 go_wp2_with fail;refine Calls.mono HN.out ?_;rintro e w1 ⟨sb,S,rfl,hsb,hsl,hS,hSt,hb1⟩;clear HN;have HST:Hid _:=hSt;have HB1:Hid _:=hb1;have HS:Hid _:=hS;clear hSt hb1 hS;have hbL:=Below.alloc1 w1 (.cells #[.string ⟨#[108,97,115,116,32,47,100,111,99,32,60,97,62,120,60,47,97,62]⟩] 9);have HB2:Hid _:=HB1.out.trans (hbL.mono HB1.out.size)
 have HSL:Hid (Strs (fun b=>b=w1.heap.size) (w1.alloc (.cells #[.string ⟨#[108,97,115,116,32,47,100,111,99,32,60,97,62,120,60,47,97,62]⟩] 9)) (.slice (some ⟨w1.heap.size,0,none⟩) 1 1) [⟨#[108,97,115,116,32,47,100,111,99,32,60,97,62,120,60,47,97,62]⟩]):=by
  refine ⟨_,1,rfl,nR9 _,by unfold maxLen;omega,fun _=>⟨w1.heap.size,0,rfl,rfl,fun i x hx=>?_⟩⟩
  have hi:=yx hx;have h0:i=0:=by simpa using hi
  subst h0
  injection hx with hx
  subst hx;rw[cH9 (heap_alloc_new w1 _)];rfl
 have HDO:Hid _:=doC S (fun b=>b=w1.heap.size) sb 0 newD docC (.slice (some ⟨w1.heap.size,0,none⟩) 1 1) 2 [⟨#[108,97,115,116,32,47,100,111,99,32,60,97,62,120,60,47,97,62]⟩] (0,1,⟨#[]⟩) w _ (HST.out.later hbL) HSL.out (fun b hb=>by omega) HE.out HB2.out hsb (by omega) (Or.inl ⟨rfl,fun W h1 h2 h3=>qfw S _ sb 1 newD docC [opC] _ _ W h1 h2 h3 (fun s hs=>by rw[List.mem_singleton]at hs;subst hs;unfold maxLen;decide) (by simp) st_chg (by simp[opC,treeC,Deep]) (by decide +kernel) qc9⟩)
 go_wp2_with fail;refine Calls.mono HDO.out ?_;rintro e w3 ⟨rfl,⟨S3,hS3,hSt3⟩,hF3⟩;have HB3:Hid _:=YJ HB2.out hF3 hsb;have HST3:Hid _:=hSt3;clear HDO HSL hSt3;have hbA:=Below.alloc1 w3 (.cells #[.int .i64 0,.int .i64 1,.string ⟨#[]⟩] 54);have HB4:Hid _:=HB3.out.trans (hbA.mono HB3.out.size);have hxA:=heap_alloc_new w3 (.cells #[.int .i64 0,.int .i64 1,.string ⟨#[]⟩] 54)
 have hs3:sb<w3.heap.size:=by
  obtain ⟨a,c,hb,_⟩:=HST3.out.box;exact xm hb
 obtain ⟨⟨c2,n2,x2⟩,hr2⟩:∃ r,Jp docC=r:=⟨_,rfl⟩;have f1:=st_show;rw[hr2]at f1
 simp only at f1
 subst f1;have HDO:Hid _:=doC S3 (fun _=>False) sb 1 docC docC (.slice none 0 0) 3 [] _ w _ (HST3.out.later hbA) Strs.nil (fun b hb=>hb.elim) HE.out HB4.out hsb (by omega) (Or.inr ⟨rfl,fun W h1 _ h3=>hr2 ▸ qea S3 sb 2 docC W h1 h3⟩)
 clear hr2;go_wp2_with fail;refine Calls.mono HDO.out ?_;rintro e w5 ⟨rfl,⟨S5,hS5,hSt5⟩,hF5⟩;have HB5:Hid _:=YJ HB4.out hF5 hsb;have hxA5:=(hF5.frame _ (xm hxA) (by omega)).trans hxA
 have HST5:Hid _:=hSt5;clear HDO hSt5 hF5 hF3 hxA;have hbC:=Below.alloc1 w5 (.cells #[.int .i64 c2,.int .i64 n2,.string ⟨#[60,100,111,99,62,60,97,62,120,60,47,97,62,60,47,100,111,99,62]⟩] 54);have HB6:Hid _:=HB5.out.trans (hbC.mono HB5.out.size);have hyC:=heap_alloc_new w5 (.cells #[.int .i64 c2,.int .i64 n2,.string ⟨#[60,100,111,99,62,60,97,62,120,60,47,97,62,60,47,100,111,99,62]⟩] 54);have hxC:=(hbC.block _ (xm hxA5)).trans hxA5;have p0:=cH9 hxC 0;have p1:=cH9 hxC 1;have q2:=cH9 hyC 2;simp only[List.getElem?_toArray,List.getElem?_cons_zero,List.getElem?_cons_succ]at p0 p1 q2
 have HDC:Hid _:=qeG S5 sb 2 docC _ (HST5.out.later hbC);clear hxC hyC hxA5;go_wp2_with fail;refine Calls.mono HDC.out ?_;rintro e w7 ⟨vd,rfl,hN,hb7⟩;obtain ⟨da,dc,rfl,_,_⟩:=hN.shape;rw[show docC.length=3 from rfl]
 have hfd:=qag da 3 dc w7;clear hN HDC;go_wp2_with fail;go_ret;exact ⟨rfl,HB6.out.trans (hb7.mono HB6.out.size)⟩
end
theorem Js (x:ByteArray)(w:World)(hE:jp w)(hs:x.size≤1048576) :
 Calls Tryz.prog 3 #[.string x] w fun e w'=>e=.returned (.bool true)∧Below w.heap.size w w' :=
 J1 qa9 x.data.toList w hE hE.path.max (by rw[Array.length_toList];exact hs)
end Go.Proofs.YtfplhcicbbhljaaGreatDoor
