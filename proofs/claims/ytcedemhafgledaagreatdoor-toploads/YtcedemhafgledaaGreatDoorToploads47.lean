/- topiarytop.TopLoads says true. Condition: the variables hold what their texts lay; lines of a size that can be read. -/
import Derived.Test.YtcedemhafgledaaGreatDoorBundle39
namespace Go.Proofs.YtcedemhafgledaaGreatDoor
open Go.ChangeShapes Go.WideShapes Go.ChangeAt Go.RowKit
set_option maxRecDepth 100000
section
attribute [local go_sem] qd
set_option linter.unusedSimpArgs false in
set_option maxHeartbeats 2000000 in
theorem Kd (S0:Nat→Prop)(vl:Value)(l:List Ac)(s:ByteArray)(w:World)(hL:QH S0 w vl l)(hS0:∀ b,S0 b→b<w.heap.size)(hz:ZG l)(hzs:s.size≤maxLen)(hE:yz w) :
    Calls Tryz.prog 4 #[vl,.string s] w fun e w'=>e=.returned (.bool true)∧Below w.heap.size w w':=by
  obtain ⟨la,lc,rfl,_,_⟩:=hL.shape;have HP:Hid _:=Q8 S0 _ l w hL hS0 hz hE;have HE:Hid _:=hE;have hn50:=Xr l;have hs63:s.data.toList.length≤9223372036854775807:=by rw[yx];unfold maxLen at hzs;omega
  have hzs1:∀ x∈[s],x.size≤maxLen:=fun x hx=>by rw[List.mem_singleton.1 hx];exact hzs
  have HPA:Hid (∀ W,Below w.heap.size w W→Calls Tryz.prog 13 #[.string s] W fun e w' =>
      ∃ va vk, e = .returned (.tuple #[.agg #[.bool (qu s.data.toList).1.text, .string (qu s.data.toList).1.s, va, vk], .int .i64 (qu s.data.toList).2]) ∧
        qj (fun b=>W.heap.size≤b) w' va (qu s.data.toList).1.attrs∧qa (fun b=>W.heap.size≤b) w' s.data.toList.length vk (qu s.data.toList).1.kids∧Below W.heap.size W w') :=
    fun W hW=>Xo s.data.toList W (HE.out.later hW).marks hs63
  have HB:Hid (∀ ns n,n<100→(qu s.data.toList).2≠0→zG ⟨1,[s]⟩ ns n=(((qu s.data.toList).2,0,⟨#[]⟩),ns,n+1)):=fun ns n hn hp=>qdb hn hp
  have HG:Hid (∀ ns n,n<100→(qu s.data.toList).2=0→Deep s.data.toList.length (qu s.data.toList).1.kids→∃ ms,zG ⟨1,[s]⟩ ns n=((0,(ms.length:Int),⟨#[]⟩),ms,n+1)∧qq ms=true∧growF ms.length ms 0=(qu s.data.toList).1):=fun ns n hn hp hd=>by
    obtain ⟨ms,h1,h2,h3,_⟩:=Xe (ns:=ns) hn hp hd;exact ⟨ms,h1,h2,h3⟩
  obtain ⟨t,ht⟩:∃ t,(qu s.data.toList).1=t:=⟨_,rfl⟩;obtain ⟨pe,hpe⟩:∃ pe,(qu s.data.toList).2=pe:=⟨_,rfl⟩;obtain ⟨D,hD⟩:∃ D,s.data.toList.length=D:=⟨_,rfl⟩;rw[ht,hpe,hD]at HPA HG
  rw[hpe]at HB
  clear hL hE hS0 hz ht hpe hD hs63
  go_enter Tryz.func4,Tryz.ntmps4
  go_wp2_with fail;refine Calls.mono HP.out ?_;rintro e w2 ⟨sb,S,rfl,hsb,hSw,hSt,hb2⟩
  generalize (qQ (l.take 50)).1=ns0 at *
  generalize (qQ (l.take 50)).2=n0 at *
  have HG0:Hid _:=hSt.good;have HST:Hid _:=hSt;obtain ⟨_,_,hbx,_,_⟩:=hSt.box;have hsbl:=qe hbx;clear hSt HP hbx;go_wp2_with fail;refine Calls.mono (HPA.out w2 hb2) ?_;rintro e w3 ⟨va,vk,rfl,hA3,hK3,hb3⟩;have hdeep:=qa.deep D hK3;obtain ⟨aa,ac,rfl⟩:=hA3.shape;obtain ⟨ka,kc,rfl,_,_⟩:=qa.shape D hK3;have hb4:=Below.alloc1 w3 (.cells #[.bool t.text,.string t.s,.slice aa t.attrs.length ac,.slice ka t.kids.length kc] 34);have hb24:=hb3.trans (hb4.mono hb3.size);have hB4:=hb2.trans (hb24.mono hb2.size);have HT4:Hid _:=heap_alloc_new w3 (.cells #[.bool t.text,.string t.s,.slice aa t.attrs.length ac,.slice ka t.kids.length kc] 34);have HA4:Hid _:=qj.later hA3 hb4;have HK4:Hid _:=qa.later hb4 D hK3;have HDC:Hid _:=jF S sb n0 ns0 _ (HST.out.later hb24);have hs34:w3.heap.size<(w3.alloc (.cells #[.bool t.text,.string t.s,.slice aa t.attrs.length ac,.slice ka t.kids.length kc] 34)).heap.size:=by simp
  have hs23:=hb3.size;clear hA3 hK3 HPA hb4;go_wp2_with fail
  generalize w3.alloc (.cells #[.bool t.text,.string t.s,.slice aa t.attrs.length ac,.slice ka t.kids.length kc] 34)=W4 at *
  refine Calls.mono HDC.out ?_;rintro e w5 ⟨v5,rfl,hN5,hb5⟩;obtain ⟨a5,c5,rfl,_,_⟩:=hN5.shape;have hb6:Below w5.heap.size w5 ((w5.alloc (.cells #[.slice a5 ns0.length c5] 29)).alloc (.cells #[.string s] 9)):=(Below.alloc1 w5 _).alloc (by simp) _
  have hb46:=hb5.trans (hb6.mono hb5.size);have hb26:=hb24.trans (hb46.mono hb24.size);have hB6:=hb2.trans (hb26.mono hb2.size)
  have HD6:Hid (((w5.alloc (.cells #[.slice a5 ns0.length c5] 29)).alloc (.cells #[.string s] 9)).heap[w5.heap.size]?=some (.cells #[.slice a5 ns0.length c5] 29 (0,0))):=by
    have h1:=heap_alloc_new w5 (.cells #[.slice a5 ns0.length c5] 29);exact ((Below.alloc1 (w5.alloc (.cells #[.slice a5 ns0.length c5] 29)) (.cells #[.string s] 9)).block _ (qe h1)).trans h1
  have HT6:Hid _:=(hb46.block _ (qe HT4.out)).trans HT4.out;have HA6:Hid _:=qj.later HA4.out hb46;have HK6:Hid _:=qa.later hb46 D HK4.out;have HN6:Hid _:=qp.later hN5 hb6;have HSS:Hid _:=K9 (w5.alloc (.cells #[.slice a5 ns0.length c5] 29)) s;have hs56:w5.heap.size<((w5.alloc (.cells #[.slice a5 ns0.length c5] 29)).alloc (.cells #[.string s] 9)).heap.size:=by simp;omega
  have hs45:=hb5.size;have hs24:=hb24.size;rw[World.size_alloc]at HSS
  have HDO:Hid _:=Qi S _ sb n0 ns0 _ ⟨1,[s]⟩ w _ (HST.out.later hb26) HSS.out (fun b hb=>by omega) HE.out hB6 hsb hzs1
  clear HT4 HA4 HK4 hN5 hb5 hb6 HDC HST HSS hb24 hb46 hzs1
  by_cases hp:pe=0
  · obtain ⟨ms, hdo, hgm, hgr⟩ := HG.out ns0 n0 (by omega) hp hdeep
    subst hp;rw[hdo]at HDO
    obtain ⟨htd,hgt⟩:=yh hgm;rw[hgr]at htd hgt
    simp only at HDO
    clear hdo HB HG;go_wp2_with fail
    generalize (w5.alloc (.cells #[.slice a5 ns0.length c5] 29)).alloc (.cells #[.string s] 9)=W6 at *
    refine Calls.mono HDO.out ?_;rintro e w8 ⟨rfl,⟨S8,hS8,hSt8⟩,hF8⟩;have hB8:=z7 hB6 hF8 hsb;have hb9:=Below.alloc1 w8 (.cells #[.int .i64 0,.int .i64 (ms.length:Int),.string ⟨#[]⟩] 41);have hB9:=hB8.trans (hb9.mono hB8.size);have HR9:Hid _:=heap_alloc_new w8 (.cells #[.int .i64 0,.int .i64 (ms.length:Int),.string ⟨#[]⟩] 41);have HS9:Hid _:=hSt8.later hb9;have HT9:Hid _:=(hb9.block _ (Nat.lt_of_lt_of_le (qe HT6.out) hF8.below.size)).trans ((hF8.frame _ (qe HT6.out) (by omega)).trans HT6.out)
    have HA9:Hid (qj (fun b=>w2.heap.size≤b) (w8.alloc (.cells #[.int .i64 0,.int .i64 (ms.length:Int),.string ⟨#[]⟩] 41)) (.slice aa t.attrs.length ac) t.attrs):=qj.later ((qj.bounded HA6.out).carry fun b hb=>⟨hb.1,hF8.frame b hb.2 (by omega)⟩) hb9
    have HK9:Hid (qa (fun b=>w2.heap.size≤b) (w8.alloc (.cells #[.int .i64 0,.int .i64 (ms.length:Int),.string ⟨#[]⟩] 41)) D (.slice ka t.kids.length kc) t.kids):=qa.later hb9 D (qa.carry (fun b hb=>⟨hb.1,hF8.frame b hb.2 (by omega)⟩) D (qa.bounded D HK6.out))
    have HDC:Hid _:=jF S8 sb (n0+1) ms _ HS9.out;have HGM:Hid _:=hgm;have HTD:Hid _:=htd;have HGT:Hid _:=hgt;clear HDO hSt8 hF8 HN6 HD6 hb9 HT6 HA6 HK6 hdeep hgm htd hgt hgr HG0;have r0:(w8.alloc (.cells #[.int .i64 0,.int .i64 (ms.length:Int),.string ⟨#[]⟩] 41)).cell? ⟨w8.heap.size,0,none⟩=some (.int .i64 0):=by rw[cH9 HR9.out];rfl
    go_wp2_with fail
    generalize w8.alloc (.cells #[.int .i64 0,.int .i64 (ms.length:Int),.string ⟨#[]⟩] 41)=W9 at *
    refine Calls.mono HDC.out ?_;rintro e w10 ⟨v10,rfl,hN10,hb10⟩;obtain ⟨a10,c10,rfl,_,_⟩:=hN10.shape;have HTR:Hid _:=xD _ _ ms 0 w10 (yn hN10 HGM.out);rw[HTD.out]at HTR
    simp only at HTR
    clear HDC hN10 r0;go_wp2_with fail;refine Calls.mono HTR.out ?_;rintro e w11 ⟨va11,vk11,rfl,hA11,hK11,hb11⟩;obtain ⟨a11,c11,rfl⟩:=hA11.shape;obtain ⟨k11,d11,rfl,_,_⟩:=qa.shape ms.length hK11;have hb12:=Below.alloc1 w11 (.cells #[.bool t.text,.string t.s,.slice a11 t.attrs.length c11,.slice k11 t.kids.length d11] 34);have hb9_11:=hb10.trans (hb11.mono hb10.size);have hb9_12:=hb9_11.trans (hb12.mono hb9_11.size);have hB12:=hB9.trans (hb9_12.mono hB9.size);have HT12:Hid _:=(hb9_12.block _ (qe HT9.out)).trans HT9.out;have HR12:Hid _:=(hb9_12.block _ (qe HR9.out)).trans HR9.out;have x0:(w11.alloc (.cells #[.bool t.text,.string t.s,.slice a11 t.attrs.length c11,.slice k11 t.kids.length d11] 34)).cell? ⟨w3.heap.size,0,none⟩=some (.bool t.text):=by rw[cH9 HT12.out];rfl
    have x1:(w11.alloc (.cells #[.bool t.text,.string t.s,.slice a11 t.attrs.length c11,.slice k11 t.kids.length d11] 34)).cell? ⟨w3.heap.size,1,none⟩=some (.string t.s):=by rw[cH9 HT12.out];rfl
    have x2:(w11.alloc (.cells #[.bool t.text,.string t.s,.slice a11 t.attrs.length c11,.slice k11 t.kids.length d11] 34)).cell? ⟨w3.heap.size,2,none⟩=some (.slice aa t.attrs.length ac):=by rw[cH9 HT12.out];rfl
    have x3:(w11.alloc (.cells #[.bool t.text,.string t.s,.slice a11 t.attrs.length c11,.slice k11 t.kids.length d11] 34)).cell? ⟨w3.heap.size,3,none⟩=some (.slice ka t.kids.length kc):=by rw[cH9 HT12.out];rfl
    have r0:(w11.alloc (.cells #[.bool t.text,.string t.s,.slice a11 t.attrs.length c11,.slice k11 t.kids.length d11] 34)).cell? ⟨w8.heap.size,0,none⟩=some (.int .i64 0):=by rw[cH9 HR12.out];rfl
    have HK12:=qa.wide' (qa.later hb9_12 D HK9.out) ms.length;have HQ12:=qa.wide' (qa.later hb12 ms.length hK11) D;rw[Nat.add_comm ms.length D]at HQ12
    have hcn:cnt (D+ms.length+1) [t]≤1048576:=by
      have hg2:=HGT.out;rw[yL (qa.deep _ HK12)]at hg2
      simp only[Bool.and_eq_true,decide_eq_true_eq]at hg2
      omega
    have HSM:Hid _:=Vm _ _ (D+ms.length) _ _ _ _ t t _ (qj.later HA9.out hb9_12) HK12 (qj.later hA11 hb12) HQ12 hcn;rw[like_refl _ _ (show Deep (D+ms.length+1) [t] from fun u hu=>by rw[List.mem_singleton.1 hu];exact qa.deep _ HK12)]at HSM
    clear hA11 hK11 hb10 hb11 hb12 hb9_11 hb9_12 HT9 HA9 HK9 HTR HK12 HQ12 hcn HT12 HR12 HR9;go_wp2_with fail;refine Calls.mono HSM.out ?_;rintro e w13 ⟨rfl,hb13⟩;go_wp2_with fail;go_ret;exact ⟨rfl,hB12.trans (hb13.mono hB12.size)⟩
  · have hdo := HB.out ns0 n0 (by omega) hp
    rw[hdo]at HDO
    have hpb:(pe==0)=false:=by simpa using hp
    simp only at HDO
    clear hdo HB HG;go_wp2_with fail
    generalize (w5.alloc (.cells #[.slice a5 ns0.length c5] 29)).alloc (.cells #[.string s] 9)=W6 at *
    refine Calls.mono HDO.out ?_;rintro e w8 ⟨rfl,⟨S8,hS8,hSt8⟩,hF8⟩;have hB8:=z7 hB6 hF8 hsb;have hb9:=Below.alloc1 w8 (.cells #[.int .i64 pe,.int .i64 0,.string ⟨#[]⟩] 41);have hB9:=hB8.trans (hb9.mono hB8.size);have HR9:Hid _:=heap_alloc_new w8 (.cells #[.int .i64 pe,.int .i64 0,.string ⟨#[]⟩] 41);have HS9:Hid _:=hSt8.later hb9;have HD9:Hid _:=(hb9.block _ (Nat.lt_of_lt_of_le (qe HD6.out) hF8.below.size)).trans ((hF8.frame _ (qe HD6.out) (by omega)).trans HD6.out)
    have HN9:Hid (qp (fun b=>W4.heap.size≤b) (w8.alloc (.cells #[.int .i64 pe,.int .i64 0,.string ⟨#[]⟩] 41)) (.slice a5 ns0.length c5) ns0):=qp.later ((qp.bounded HN6.out).carry fun b hb=>⟨hb.1,hF8.frame b hb.2 (by omega)⟩) hb9
    clear HDO hSt8 hF8 HN6 HD6 hb9 HT6 HA6 HK6 hp hdeep
    have HC:Hid (∀ W,Below (w8.alloc (.cells #[.int .i64 pe,.int .i64 0,.string ⟨#[]⟩] 41)).heap.size (w8.alloc (.cells #[.int .i64 pe,.int .i64 0,.string ⟨#[]⟩] 41)) W→Below (w8.alloc (.cells #[.int .i64 pe,.int .i64 0,.string ⟨#[]⟩] 41)).heap.size (w8.alloc (.cells #[.int .i64 pe,.int .i64 0,.string ⟨#[]⟩] 41)) W∧W.cell? ⟨w5.heap.size,0,none⟩=some (.slice a5 ns0.length c5)∧W.cell? ⟨w8.heap.size,0,none⟩=some (.int .i64 pe)):=by
      intro W hW;have h1:=(hW.block _ (qe HD9.out)).trans HD9.out;have h2:=(hW.block _ (qe HR9.out)).trans HR9.out;refine ⟨hW,?_,?_⟩
      · rw[cH9 h1];rfl
      · rw[cH9 h2];rfl
    have HDD:Hid (∀ W,Below (w8.alloc (.cells #[.int .i64 pe,.int .i64 0,.string ⟨#[]⟩] 41)).heap.size (w8.alloc (.cells #[.int .i64 pe,.int .i64 0,.string ⟨#[]⟩] 41)) W→Calls Tryz.prog 8 #[.pointer (some ⟨sb,0,none⟩)] W fun e w'=>∃ aq cq,e=.returned (.agg #[.slice aq ns0.length cq])∧qp (fun b=>W.heap.size≤b) w' (.slice aq ns0.length cq) ns0∧Below W.heap.size W w'):=by
      intro W hW;refine (jF S8 sb (n0+1) ns0 W (HS9.out.later hW)).mono ?_;rintro e w' ⟨v,rfl,h1,h2⟩;obtain ⟨aq,cq,rfl,_,_⟩:=h1.shape;exact ⟨aq,cq,rfl,h1,h2⟩
    have HSD:Hid (∀ W aq cq U,Below (w8.alloc (.cells #[.int .i64 pe,.int .i64 0,.string ⟨#[]⟩] 41)).heap.size (w8.alloc (.cells #[.int .i64 pe,.int .i64 0,.string ⟨#[]⟩] 41)) W→qp U W (.slice aq ns0.length cq) ns0→Calls Tryz.prog 12 #[.agg #[.slice a5 ns0.length c5],.agg #[.slice aq ns0.length cq]] W fun e w'=>e=.returned (.bool true)∧Below W.heap.size W w'):=by
      intro W aq cq U hW hN;exact Qt _ _ _ _ ns0 W (yn (qp.later HN9.out hW) HG0.out) (yn hN HG0.out) HG0.out
    go_wp2_with fail
    generalize w8.alloc (.cells #[.int .i64 pe,.int .i64 0,.string ⟨#[]⟩] 41)=W9 at *
    have hbn:Below W9.heap.size W9 W9.drew:=(Below.refl _ W9).drew
    go_region_held3 (fun W:World=>Below W9.heap.size W9 W∧W.cell? ⟨w5.heap.size,0,none⟩=some (.slice a5 ns0.length c5)∧W.cell? ⟨w8.heap.size,0,none⟩=some (.int .i64 pe))
      (with_reducible exact HC.out _ hbn)
      (first
        | (go_at_call 8;refine (Calls.mono (HDD.out _ hbn) ?_);clear HDD;rintro e W7 ⟨aq,cq,rfl,hNq,hb7⟩;have hbn:=hbn.trans (hb7.mono hbn.size))
        | (go_at_call 12;refine (Calls.mono (HSD.out _ _ _ _ hbn hNq) ?_);rintro e W8 ⟨rfl,hb8⟩;have hbn:=hbn.trans (hb8.mono hbn.size)))
    all_goals
      have hBn:=hB9.trans (hbn.mono hB9.size);go_wp2_with fail;go_ret;exact ⟨rfl,hBn⟩
end
end Go.Proofs.YtcedemhafgledaaGreatDoor
