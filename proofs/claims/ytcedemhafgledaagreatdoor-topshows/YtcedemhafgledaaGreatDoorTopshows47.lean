/- topiarytop.TopShows says true. Condition: the variables hold what their texts lay; lines of a size that can be read. -/
import Derived.Test.YtcedemhafgledaaGreatDoorBundle39
namespace Go.Proofs.YtcedemhafgledaaGreatDoor
open Go.ChangeShapes Go.WideShapes Go.ChangeAt Go.RowKit
set_option maxRecDepth 100000
section
attribute [local go_sem] qd
set_option linter.unusedSimpArgs false in
set_option maxHeartbeats 2000000 in
theorem Kg (S0:Nat→Prop)(vl:Value)(l:List Ac)(w:World)(hL:QH S0 w vl l)(hS0:∀ b,S0 b→b<w.heap.size)(hz:ZG l)(hE:yz w) :
 Calls Tryz.prog 3 #[vl] w fun e w'=>e=.returned (.bool true)∧Below w.heap.size w w':=by
 obtain ⟨la,lc,rfl,_,_⟩:=hL.shape;have HP:Hid _:=Q8 S0 _ l w hL hS0 hz hE;have HE:Hid _:=hE;have hn50:=Xr l;clear hL hE hS0 hz
 go_enter Tryz.func3,Tryz.ntmps3
 go_wp2_with fail;refine Calls.mono HP.out ?_;rintro e w2 ⟨sb,S,rfl,hsb,hSw,hSt,hb2⟩
 generalize (qQ (l.take 50)).1=ns0 at *
 generalize (qQ (l.take 50)).2=n0 at *
 have HG0:Hid _:=hSt.good;have HST:Hid _:=hSt;obtain ⟨_,_,hbx,_,_⟩:=hSt.box;have hsbl:=qe hbx;have HDC:Hid _:=jF S sb n0 ns0 w2 hSt;clear hSt HP hbx;go_wp2_with fail;refine Calls.mono HDC.out ?_;rintro e w3 ⟨v3,rfl,hN3,hb3⟩;obtain ⟨a3,c3,rfl,_,_⟩:=hN3.shape;have hb4:=Below.alloc1 w3 (.cells #[.slice a3 ns0.length c3] 29);have hb24:=hb3.trans (hb4.mono hb3.size);have hB4:=hb2.trans (hb24.mono hb2.size);have HD4:Hid _:=heap_alloc_new w3 (.cells #[.slice a3 ns0.length c3] 29);have HN4:Hid _:=qp.later hN3 hb4;have d4:(w3.alloc (.cells #[.slice a3 ns0.length c3] 29)).cell? ⟨w3.heap.size,0,none⟩=some (.slice a3 ns0.length c3):=by rw[cH9 HD4.out];rfl
 have hs23:=hb3.size;obtain ⟨htd,hgt⟩:=yh HG0.out;have HTR:Hid _:=xD _ _ ns0 0 _ (yn HN4.out HG0.out);rw[htd]at HTR
 simp only at HTR
 have HSB:Hid (∀ n,n<100→Deep ns0.length (growF ns0.length ns0 0).kids→(qO ns0.length (growF ns0.length ns0 0)).2=0→zG ⟨1,[(qO ns0.length (growF ns0.length ns0 0)).1]⟩ ns0 n=((0,(ns0.length:Int),⟨#[]⟩),ns0,n+1)∧(qO ns0.length (growF ns0.length ns0 0)).1.size≤2500):=fun n hn hd hp=>qb4 HG0.out hd hn hp ns0
 have HSI:Hid (∀ n,n<100→zG ⟨3,[]⟩ ns0 n=((if (qO ns0.length (growF ns0.length ns0 0)).2≠0 then ((qO ns0.length (growF ns0.length ns0 0)).2,0,⟨#[]⟩) else (0,(ns0.length:Int),(qO ns0.length (growF ns0.length ns0 0)).1)),ns0,n+1)):=fun n hn=>qeD HG0.out hn
 have HGT:Hid _:=hgt
 generalize growF ns0.length ns0 0=t at *
 clear HDC hN3 hb3 hb4 htd hgt;go_wp2_with fail
 generalize w3.alloc (.cells #[.slice a3 ns0.length c3] 29)=W4 at *
 refine Calls.mono HTR.out ?_;rintro e w5 ⟨va,vk,rfl,hA5,hK5,hb5⟩;have hdeep:=qa.deep ns0.length hK5;obtain ⟨aa,ac,rfl⟩:=hA5.shape;obtain ⟨ka,kc,rfl,_,_⟩:=qa.shape ns0.length hK5;have hb6:=Below.alloc1 w5 (.cells #[.bool t.text,.string t.s,.slice aa t.attrs.length ac,.slice ka t.kids.length kc] 34);have hb46:=hb5.trans (hb6.mono hb5.size);have hb26:=hb24.trans (hb46.mono hb24.size);have hB6:=hb2.trans (hb26.mono hb2.size);have HT6:Hid _:=heap_alloc_new w5 (.cells #[.bool t.text,.string t.s,.slice aa t.attrs.length ac,.slice ka t.kids.length kc] 34);have HD6:Hid _:=(hb46.block _ (qe HD4.out)).trans HD4.out;have HN6:Hid _:=qp.later HN4.out hb46;have HPR:Hid _:=Yc _ ns0.length _ _ t _ (qj.later hA5 hb6) (qa.later hb6 ns0.length hK5) (HE.out.later hB6).marks (Q2 HGT.out _);have t0:(w5.alloc (.cells #[.bool t.text,.string t.s,.slice aa t.attrs.length ac,.slice ka t.kids.length kc] 34)).cell? ⟨w5.heap.size,0,none⟩=some (.bool t.text):=by rw[cH9 HT6.out];rfl
 have t1:(w5.alloc (.cells #[.bool t.text,.string t.s,.slice aa t.attrs.length ac,.slice ka t.kids.length kc] 34)).cell? ⟨w5.heap.size,1,none⟩=some (.string t.s):=by rw[cH9 HT6.out];rfl
 have t2:(w5.alloc (.cells #[.bool t.text,.string t.s,.slice aa t.attrs.length ac,.slice ka t.kids.length kc] 34)).cell? ⟨w5.heap.size,2,none⟩=some (.slice aa t.attrs.length ac):=by rw[cH9 HT6.out];rfl
 have t3:(w5.alloc (.cells #[.bool t.text,.string t.s,.slice aa t.attrs.length ac,.slice ka t.kids.length kc] 34)).cell? ⟨w5.heap.size,3,none⟩=some (.slice ka t.kids.length kc):=by rw[cH9 HT6.out];rfl
 obtain ⟨ps,hps⟩:∃ ps,(qO ns0.length t).1=ps:=⟨_,rfl⟩;obtain ⟨pe,hpe⟩:∃ pe,(qO ns0.length t).2=pe:=⟨_,rfl⟩;rw[hps,hpe]at HPR HSB HSI
 clear hA5 hK5 HTR hb6 HD4 HN4 d4 hps hpe hb5;go_wp2_with fail
 generalize w5.alloc (.cells #[.bool t.text,.string t.s,.slice aa t.attrs.length ac,.slice ka t.kids.length kc] 34)=W6 at *
 refine Calls.mono HPR.out ?_;rintro e w7 ⟨rfl,hb7⟩;have hb27:=hb26.trans (hb7.mono hb26.size);have hB7:=hb2.trans (hb27.mono hb2.size);have HD7:Hid _:=(hb7.block _ (qe HD6.out)).trans HD6.out;have HN7:Hid _:=qp.later HN6.out hb7;have HDO:Hid _:=Qi S (fun _=>False) sb n0 ns0 (.slice none 0 0) ⟨3,[]⟩ w w7 (HST.out.later hb27) Strs.nil (fun _ h=>h.elim) HE.out hB7 hsb (by intro s hs;cases hs)
 rw[HSI.out n0 (by omega)]at HDO
 have hs24:=hb24.size;clear HPR HD6 HN6 HT6 t0 t1 t2 t3 HST hb26 hb46 hb24 HSI
 by_cases hp:pe=0
 · subst hp;rw[if_neg (by simp)]at HDO
   obtain ⟨hload,hsz⟩:=HSB.out (n0+1) (by omega) hdeep rfl
   have hzs1:∀ x∈[ps],x.size≤maxLen:=fun x hx=>by rw[List.mem_singleton.1 hx];unfold maxLen;omega
   have HLD:Hid _:=hload;clear HSB hload hdeep;simp only at HDO
   go_wp2_with fail;refine Calls.mono HDO.out ?_;rintro e w8 ⟨rfl,⟨S8,hS8,hSt8⟩,hF8⟩;have hB8:=z7 hB7 hF8 hsb;have hb9:=Below.alloc1 w8 (.cells #[.int .i64 0,.int .i64 (ns0.length:Int),.string ps] 41);have hB9:=hB8.trans (hb9.mono hB8.size);have HR9:Hid _:=heap_alloc_new w8 (.cells #[.int .i64 0,.int .i64 (ns0.length:Int),.string ps] 41);have r0:(w8.alloc (.cells #[.int .i64 0,.int .i64 (ns0.length:Int),.string ps] 41)).cell? ⟨w8.heap.size,0,none⟩=some (.int .i64 0):=by rw[cH9 HR9.out];rfl
   have r1:(w8.alloc (.cells #[.int .i64 0,.int .i64 (ns0.length:Int),.string ps] 41)).cell? ⟨w8.heap.size,1,none⟩=some (.int .i64 (ns0.length:Int)):=by rw[cH9 HR9.out];rfl
   have r2:(w8.alloc (.cells #[.int .i64 0,.int .i64 (ns0.length:Int),.string ps] 41)).cell? ⟨w8.heap.size,2,none⟩=some (.string ps):=by rw[cH9 HR9.out];rfl
   have HD9:Hid _:=(hb9.block _ (Nat.lt_of_lt_of_le (qe HD7.out) hF8.below.size)).trans ((hF8.frame _ (qe HD7.out) (by omega)).trans HD7.out)
   have d9:(w8.alloc (.cells #[.int .i64 0,.int .i64 (ns0.length:Int),.string ps] 41)).cell? ⟨w3.heap.size,0,none⟩=some (.slice a3 ns0.length c3):=by rw[cH9 HD9.out];rfl
   have HN9:Hid (qp (fun b=>w2.heap.size≤b) (w8.alloc (.cells #[.int .i64 0,.int .i64 (ns0.length:Int),.string ps] 41)) (.slice a3 ns0.length c3) ns0):=qp.later ((qp.bounded HN7.out).carry fun b hb=>⟨hb.1,hF8.frame b hb.2 (by omega)⟩) hb9
   have HS9:Hid _:=hSt8.later hb9;have hb10:=Below.alloc1 (w8.alloc (.cells #[.int .i64 0,.int .i64 (ns0.length:Int),.string ps] 41)) (.cells #[.string ps] 9);have hB10:=hB9.trans (hb10.mono hB9.size);have HSS:Hid _:=K9 (w8.alloc (.cells #[.int .i64 0,.int .i64 (ns0.length:Int),.string ps] 41)) ps;have HD10:Hid _:=(hb10.block _ (qe HD9.out)).trans HD9.out;have HN10:Hid _:=qp.later HN9.out hb10;rw[World.size_alloc]at HSS
   have hs28:w2.heap.size≤w8.heap.size:=by have:=hF8.below.size;have:=hb27.size;omega
   have HDO2:Hid _:=Qi S8 _ sb (n0+1) ns0 _ ⟨1,[ps]⟩ w _ (HS9.out.later hb10) HSS.out (fun b hb=>by omega) HE.out hB10 hsb hzs1
   rw[HLD.out]at HDO2
   simp only at HDO2
   clear HDO hSt8 hF8 HN7 HD7 hb9 HR9 hzs1 HLD HSS HN9 HD9 hb10;go_wp2_with fail
   generalize (w8.alloc (.cells #[.int .i64 0,.int .i64 (ns0.length:Int),.string ps] 41)).alloc (.cells #[.string ps] 9)=W10 at *
   refine Calls.mono HDO2.out ?_;rintro e w10 ⟨rfl,⟨S10,hS10,hSt10⟩,hF10⟩;have hB10b:=z7 hB10 hF10 hsb;have hb11:=Below.alloc1 w10 (.cells #[.int .i64 0,.int .i64 (ns0.length:Int),.string ⟨#[]⟩] 41);have hB11:=hB10b.trans (hb11.mono hB10b.size);have HR11:Hid _:=heap_alloc_new w10 (.cells #[.int .i64 0,.int .i64 (ns0.length:Int),.string ⟨#[]⟩] 41);have HD11:Hid _:=(hb11.block _ (Nat.lt_of_lt_of_le (qe HD10.out) hF10.below.size)).trans ((hF10.frame _ (qe HD10.out) (by omega)).trans HD10.out)
   have HN11:Hid (qp (fun b=>w2.heap.size≤b) (w10.alloc (.cells #[.int .i64 0,.int .i64 (ns0.length:Int),.string ⟨#[]⟩] 41)) (.slice a3 ns0.length c3) ns0):=qp.later ((qp.bounded HN10.out).carry fun b hb=>⟨hb.1,hF10.frame b hb.2 (by omega)⟩) hb11
   have HS11:Hid _:=hSt10.later hb11;clear HDO2 hSt10 hF10 HN10 HD10 hb11 r0 r1 r2 d9
   have HC:Hid (∀ W,Below (w10.alloc (.cells #[.int .i64 0,.int .i64 (ns0.length:Int),.string ⟨#[]⟩] 41)).heap.size (w10.alloc (.cells #[.int .i64 0,.int .i64 (ns0.length:Int),.string ⟨#[]⟩] 41)) W→Below (w10.alloc (.cells #[.int .i64 0,.int .i64 (ns0.length:Int),.string ⟨#[]⟩] 41)).heap.size (w10.alloc (.cells #[.int .i64 0,.int .i64 (ns0.length:Int),.string ⟨#[]⟩] 41)) W∧W.cell? ⟨w3.heap.size,0,none⟩=some (.slice a3 ns0.length c3)∧W.cell? ⟨w10.heap.size,0,none⟩=some (.int .i64 0)∧W.cell? ⟨w10.heap.size,1,none⟩=some (.int .i64 (ns0.length:Int))):=by
    intro W hW;have h1:=(hW.block _ (qe HD11.out)).trans HD11.out;have h2:=(hW.block _ (qe HR11.out)).trans HR11.out;refine ⟨hW,?_,?_,?_⟩
    · rw[cH9 h1];rfl
    · rw[cH9 h2];rfl
    · rw[cH9 h2];rfl
   have HDD:Hid (∀ W,Below (w10.alloc (.cells #[.int .i64 0,.int .i64 (ns0.length:Int),.string ⟨#[]⟩] 41)).heap.size (w10.alloc (.cells #[.int .i64 0,.int .i64 (ns0.length:Int),.string ⟨#[]⟩] 41)) W→Calls Tryz.prog 8 #[.pointer (some ⟨sb,0,none⟩)] W fun e w'=>∃ aq cq,e=.returned (.agg #[.slice aq ns0.length cq])∧qp (fun b=>W.heap.size≤b) w' (.slice aq ns0.length cq) ns0∧Below W.heap.size W w'):=by
    intro W hW;refine (jF S10 sb _ ns0 W (HS11.out.later hW)).mono ?_;rintro e w' ⟨v,rfl,h1,h2⟩;obtain ⟨aq,cq,rfl,_,_⟩:=h1.shape;exact ⟨aq,cq,rfl,h1,h2⟩
   have HSD:Hid (∀ W aq cq U,Below (w10.alloc (.cells #[.int .i64 0,.int .i64 (ns0.length:Int),.string ⟨#[]⟩] 41)).heap.size (w10.alloc (.cells #[.int .i64 0,.int .i64 (ns0.length:Int),.string ⟨#[]⟩] 41)) W→qp U W (.slice aq ns0.length cq) ns0→Calls Tryz.prog 12 #[.agg #[.slice a3 ns0.length c3],.agg #[.slice aq ns0.length cq]] W fun e w'=>e=.returned (.bool true)∧Below W.heap.size W w'):=by
    intro W aq cq U hW hN;exact Qt _ _ _ _ ns0 W (yn (qp.later HN11.out hW) HG0.out) (yn hN HG0.out) HG0.out
   go_wp2_with fail
   generalize w10.alloc (.cells #[.int .i64 0,.int .i64 (ns0.length:Int),.string ⟨#[]⟩] 41)=W11 at *
   have hbn:Below W11.heap.size W11 W11.drew:=(Below.refl _ W11).drew
   go_region_held3 (fun W:World=>Below W11.heap.size W11 W∧W.cell? ⟨w3.heap.size,0,none⟩=some (.slice a3 ns0.length c3)∧W.cell? ⟨w10.heap.size,0,none⟩=some (.int .i64 0)∧W.cell? ⟨w10.heap.size,1,none⟩=some (.int .i64 (ns0.length:Int)))
    (with_reducible exact HC.out _ hbn)
    (first
     | (go_at_call 8;refine (Calls.mono (HDD.out _ hbn) ?_);clear HDD;rintro e W7 ⟨aq,cq,rfl,hNq,hb7⟩;have hbn:=hbn.trans (hb7.mono hbn.size))
     | (go_at_call 12;refine (Calls.mono (HSD.out _ _ _ _ hbn hNq) ?_);rintro e W8 ⟨rfl,hb8⟩;have hbn:=hbn.trans (hb8.mono hbn.size)))
   all_goals
    have hBn:=hB11.trans (hbn.mono hB11.size);go_wp2_with fail;go_ret;exact ⟨rfl,hBn⟩
 · rw[if_pos hp]at HDO
   have hpb:(pe==0)=false:=by simpa using hp
   clear HSB hdeep hp;simp only at HDO
   go_wp2_with fail;refine Calls.mono HDO.out ?_;rintro e w8 ⟨rfl,⟨S8,hS8,hSt8⟩,hF8⟩;have hB8:=z7 hB7 hF8 hsb;have hb9:=Below.alloc1 w8 (.cells #[.int .i64 pe,.int .i64 0,.string ⟨#[]⟩] 41);have hB9:=hB8.trans (hb9.mono hB8.size);have HR9:Hid _:=heap_alloc_new w8 (.cells #[.int .i64 pe,.int .i64 0,.string ⟨#[]⟩] 41);have r0:(w8.alloc (.cells #[.int .i64 pe,.int .i64 0,.string ⟨#[]⟩] 41)).cell? ⟨w8.heap.size,0,none⟩=some (.int .i64 pe):=by rw[cH9 HR9.out];rfl
   have r1:(w8.alloc (.cells #[.int .i64 pe,.int .i64 0,.string ⟨#[]⟩] 41)).cell? ⟨w8.heap.size,1,none⟩=some (.int .i64 0):=by rw[cH9 HR9.out];rfl
   have r2:(w8.alloc (.cells #[.int .i64 pe,.int .i64 0,.string ⟨#[]⟩] 41)).cell? ⟨w8.heap.size,2,none⟩=some (.string ⟨#[]⟩):=by rw[cH9 HR9.out];rfl
   clear HDO hSt8 hF8 HN7 HD7 hb9 HR9;go_wp2_with fail;go_ret;exact ⟨rfl,hB9⟩
end
end Go.Proofs.YtcedemhafgledaaGreatDoor
