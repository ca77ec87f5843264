/- Bundled: ReadD MparK. What each says stands ahead of it. -/
import Derived.Test.YtkbhckhbgalaoaaGreatDoorBundle21
import Derived.Test.YtkbhckhbgalaoaaGreatDoorBundle30
namespace Go.Proofs.YtkbhckhbgalaoaaGreatDoor
open Go.ChangeShapes Go.WideShapes Go.ChangeAt Go.RowKit
set_option maxRecDepth 100000
section
attribute [local go_sem] qi
set_option maxHeartbeats 2000000 in
theorem xO (s:List UInt8)(w:World)(hm:yh w)(hs:s.length≤9223372036854775807) :
 Calls Tryz.prog 12 #[.string (qa s)] w fun e w'=>e=.returned (.tuple #[.string (qa (jP s).1),.int .i64 (jP s).2])∧Below w.heap.size w w':=by
 have hz:=qc s
 by_cases hl:2500<s.length
 · have HV : Hid (jP s = ([], 2)) := by show _ = _;unfold jP;rw[if_pos hl]
   go_enter Tryz.func12,Tryz.ntmps12
   go_wp2_with fail;refine bodyPost_ret (v:=.tuple #[.string ⟨#[]⟩,.int .i64 2]) (by simp[results,Tryz.results12,go_sem]) rfl ?_
   exact ⟨by rw[HV.out];rfl,Below.refl _ _⟩
 · have HC : Hid _ := jr s false w hm (by omega)
   obtain ⟨x,f,hx⟩:∃ x f,qF false s=(x,f):=⟨_,_,rfl⟩;have HV:Hid (jP s=if f&&qA (qa x) then (x,0) else ([],1)):=by show _=_;unfold jP;rw[if_neg hl,hx]
   have hxl:f=true→(qa x).size≤maxLen:=fun hf=>by
    unfold qF qJ at hx
    cases hq:qI false (s.length+1) s with
    | none=>rw[hq]at hx;injection hx with _ h2;rw[←h2]at hf;cases hf
    | some y =>
      rw[hq]at hx
      injection hx with h1 _
      subst h1;have:=js false _ _ _ hq;exact yy _ (by omega)
   rw[hx]at HC
   clear hx
   go_enter Tryz.func12,Tryz.ntmps12
   go_wp2_with fail;refine Calls.mono HC.out ?_;rintro e w1 ⟨rfl,hb1⟩;clear HC;cases f with
   | false =>
     go_wp2_with fail;refine bodyPost_ret (v:=.tuple #[.string ⟨#[]⟩,.int .i64 1]) (by simp[results,Tryz.results12,go_sem]) rfl ?_
     exact ⟨by rw[HV.out];rfl,hb1⟩
   | true =>
     have HP:Hid _:=yZ (qa x) w1 (hxl rfl);clear hxl;go_wp2_with fail;refine Calls.mono HP.out ?_;rintro e w2 ⟨rfl,hb2⟩;have HB2:Hid _:=hb1.trans (hb2.mono hb1.size);clear HP;cases hp:qA (qa x) with
     | false =>
       rw[hp]at HV
       clear hp;go_wp2_with fail;refine bodyPost_ret (v:=.tuple #[.string ⟨#[]⟩,.int .i64 1]) (by simp[results,Tryz.results12,go_sem]) rfl ?_
       exact ⟨by rw[HV.out];rfl,HB2.out⟩
     | true =>
       rw[hp]at HV
       clear hp;go_wp2_with fail;refine bodyPost_ret (v:=.tuple #[.string (qa x),.int .i64 0]) (by simp[results,Tryz.results12,go_sem]) rfl ?_
       exact ⟨by rw[HV.out];rfl,HB2.out⟩
set_option maxHeartbeats 2000000 in
theorem xN (s:List UInt8)(w:World)(hm:yh w)(hs:s.length≤9223372036854775807) :
 Calls Tryz.prog 10 #[.string (qa s)] w fun e w'=>∃ v,e=.returned (.tuple #[v,.int .i64 (yX s).2])∧qb (fun b=>w.heap.size≤b) w' 9 v (yX s).1∧Below w.heap.size w w':=by
 have hz:=qc s;have hnil:∀ W,qb (fun b=>w.heap.size≤b) W 9 (.slice none 0 0) []:=fun W=>qb.nil 9 ⟨none,0,rfl,nZ9 _⟩
 by_cases hl:2500<s.length
 · have HV : Hid (yX s = ([], 2)) := by show _ = _;unfold yX;rw[if_pos hl]
   go_enter Tryz.func10,Tryz.ntmps10
   go_wp2_with fail;refine bodyPost_ret (v:=.tuple #[.slice none 0 0,.int .i64 2]) (by simp[results,Tryz.results10,go_sem]) rfl ?_
   rw[HV.out];exact ⟨_,rfl,hnil _,Below.refl _ _⟩
 · have HC : Hid _ := xy s w hm (by omega)
   have hsl:s.length≤1048576:=by omega
   have HV:Hid (yX s=match qx s with
    | none=>([],1)
    | some l=>if qy l then (l,0) else ([],1)):=by show _=_;unfold yX;rw[if_neg hl];rfl
   go_enter Tryz.func10,Tryz.ntmps10
   go_wp2_with fail;refine Calls.mono HC.out ?_;rintro e w1 ⟨hb1,v,b,rfl,hf⟩;clear HC;cases hfo:qx s with
   | none =>
     rw[hfo]at hf HV
     subst hf;clear hfo;go_wp2_with fail;refine bodyPost_ret (v:=.tuple #[.slice none 0 0,.int .i64 1]) (by simp[results,Tryz.results10,go_sem]) rfl ?_
     rw[HV.out];exact ⟨_,rfl,hnil _,hb1⟩
   | some l =>
     rw[hfo]at hf HV
     obtain ⟨rfl,hT⟩:=hf;obtain ⟨hc,hx⟩:=xz hfo hsl;have HP:Hid _:=Qb _ 8 v l w1 hT (hc 8) (hx 9);have HT:Hid _:=hT;obtain ⟨a,c,rfl,_,_⟩:=qb.shape 9 hT;clear hT hc hx hfo;go_wp2_with fail;refine Calls.mono HP.out ?_;rintro e w2 ⟨rfl,hb2⟩;have HB2:Hid _:=hb1.trans (hb2.mono hb1.size);have HT2:Hid _:=qb.later hb2 9 HT.out;clear HP HT;cases hg:qy l with
     | false =>
       have HV2:Hid (yX s=([],1)):=by show _=_;rw[HV.out];simp[hg]
       clear hg HV;go_wp2_with fail;refine bodyPost_ret (v:=.tuple #[.slice none 0 0,.int .i64 1]) (by simp[results,Tryz.results10,go_sem]) rfl ?_
       rw[HV2.out];exact ⟨_,rfl,hnil _,HB2.out⟩
     | true =>
       have HV2:Hid (yX s=(l,0)):=by show _=_;rw[HV.out];simp[hg]
       clear hg HV;go_wp2_with fail;refine bodyPost_ret (v:=.tuple #[.slice a l.length c,.int .i64 0]) (by simp[results,Tryz.results10,go_sem]) rfl ?_
       rw[HV2.out];exact ⟨_,rfl,HT2.out,HB2.out⟩
set_option maxHeartbeats 4000000 in
theorem xP (s:List UInt8)(w:World)(hm:yh w)(hs:s.length≤9223372036854775807) :
 Calls Tryz.prog 6 #[.string (qa s)] w fun e w'=>∃ va vk,e=.returned (.tuple #[.agg #[.bool (zm s).1.text,.string (zm s).1.s,va,vk],.int .i64 (zm s).2])∧qf (fun b=>w.heap.size≤b) w' va (zm s).1.attrs∧qb (fun b=>w.heap.size≤b) w' 8 vk (zm s).1.kids∧Below w.heap.size w w':=by
 have hz:=qc s;have hres:=heap_alloc_new w (.cells #[.bool false,.string ⟨#[]⟩,.slice none 0 0,.slice none 0 0] 25);have HB0:Hid _:=Below.alloc1 w (.cells #[.bool false,.string ⟨#[]⟩,.slice none 0 0,.slice none 0 0] 25)
 by_cases hl:2500<s.length
 · have HV : Hid (zm s = (zeroT, 2)) := by show _ = _;unfold zm;rw[if_pos hl]
   go_enter Tryz.func6,Tryz.ntmps6
   clear hres;go_wp2_with fail;refine bodyPost_ret (v:=.tuple #[.agg #[.bool false,.string ⟨#[]⟩,.slice none 0 0,.slice none 0 0],.int .i64 2]) (by simp[results,Tryz.results6,go_sem]) rfl ?_
   rw[HV.out];exact ⟨_,_,rfl,⟨none,0,rfl,nR9 _,nZ9 _,fun h=>absurd rfl h⟩,qb.nil 8 ⟨none,0,rfl,nZ9 _⟩,HB0.out⟩
 · have HC : Hid _ := xy s (w.alloc (.cells #[.bool false, .string ⟨#[]⟩, .slice none 0 0, .slice none 0 0] 25)) (hm.later HB0.out) (by omega)
   have hsl:s.length≤1048576:=by omega
   have HV:Hid (zm s=match qx s with
    | some [t]=>if qR t then (t,0) else (zeroT,1)
    | _=>(zeroT,1)):=by show _=_;unfold zm;rw[if_neg hl];rfl
   go_enter Tryz.func6,Tryz.ntmps6
   go_wp2_with fail;refine Calls.mono HC.out ?_;rintro e w1 ⟨hb1,v,b,rfl,hf⟩;clear HC;have hres1:=(hb1.block _ (xt hres)).trans hres;clear hres;have HB1:Hid _:=HB0.out.trans (hb1.mono HB0.out.size);have hsz:w.heap.size<(w.alloc (.cells #[.bool false,.string ⟨#[]⟩,.slice none 0 0,.slice none 0 0] 25)).heap.size:=by simp
   generalize (w.alloc (.cells #[.bool false,.string ⟨#[]⟩,.slice none 0 0,.slice none 0 0] 25))=w0 at *
   cases hfo:qx s with
   | none =>
     rw[hfo]at hf HV
     subst hf;clear hfo;obtain ⟨q0,q1,q2,q3⟩:=zl hres1;have k0:=fH9 hres1 0;have k1:=fH9 hres1 1;have k2:=fH9 hres1 2;have k3:=fH9 hres1 3;have HRS:Hid _:=hres1;clear hres1;go_wp2_with fail;obtain ⟨r0,r1,r2⟩:=y9 HRS.out (.bool false) (.string ⟨#[]⟩) (.slice none 0 0) (.slice none 0 0);obtain ⟨y0,y1,y2,y3⟩:=zl r0;refine bodyPost_ret (v:=.tuple #[.agg #[.bool false,.string ⟨#[]⟩,.slice none 0 0,.slice none 0 0],.int .i64 1]) (by simp[results,Tryz.results6,go_sem,y0,y1,y2,y3]) rfl ?_
     rw[HV.out];exact ⟨_,_,rfl,⟨none,0,rfl,nR9 _,nZ9 _,fun h=>absurd rfl h⟩,qb.nil 8 ⟨none,0,rfl,nZ9 _⟩,r2 (nR9 _) HB1.out⟩
   | some l =>
     rw[hfo]at hf HV
     obtain ⟨rfl,hT⟩:=hf;obtain ⟨a,c,rfl,_,_⟩:=qb.shape 9 hT
     by_cases h1:l.length=1
     · obtain ⟨t, rfl⟩ : ∃ t, l = [t] := List.length_eq_one_iff.1 h1;obtain ⟨hc,hx⟩:=xz hfo hsl;obtain ⟨a',c',hv,_,_,h4⟩:=hT;obtain ⟨tb,to,ha,hS,hcell⟩:=h4 (by simp)
       injection hv with hv1 _ hv3
       subst hv1 hv3;subst ha;obtain ⟨va,vk,e0,e1,e2,e3,hA,hK⟩:=hcell 0 t rfl;rw[Nat.zero_mul,Nat.add_zero]at e0 e1 e2 e3
       obtain ⟨aa,ac,rfl,_,_⟩:=hA.shape2;obtain ⟨ka,kc,rfl,_,_⟩:=qb.shape 8 hK;have HP:Hid _:=Z0 _ 8 (.slice aa t.attrs.length ac) (.slice ka t.kids.length kc) t w1 hA hK (hc 8) (hx 9);have HA:Hid _:=hA;have HK:Hid _:=hK;have htb:tb<w1.heap.size:=World.block_lt_of_cell? w1 _ e0;have HV1:Hid (zm s=if qR t then (t,0) else (zeroT,1)):=HV.out
       clear hA hK hc hx hfo HV h1 hcell h4;go_wp2_with fail;refine Calls.mono HP.out ?_;rintro e w2 ⟨rfl,hb2⟩;have hres2:=(hb2.block _ (xt hres1)).trans hres1;clear hres1;have HB2:Hid _:=HB1.out.trans (hb2.mono HB1.out.size);have HA2:Hid _:=qf.later HA.out hb2;have HK2:Hid _:=qb.later hb2 8 HK.out;have f0:=(hb2.cell (p:=⟨tb,to,none⟩) htb).trans e0;have f1:=(hb2.cell (p:=⟨tb,to+1,none⟩) htb).trans e1;have f2:=(hb2.cell (p:=⟨tb,to+2,none⟩) htb).trans e2;have f3:=(hb2.cell (p:=⟨tb,to+3,none⟩) htb).trans e3;clear HP HA HK;cases hg:qR t with
       | false =>
         have HV:Hid (zm s=(zeroT,1)):=by show _=_;rw[HV1.out,hg];rfl
         clear hg HV1;obtain ⟨q0,q1,q2,q3⟩:=zl hres2;have k0:=fH9 hres2 0;have k1:=fH9 hres2 1;have k2:=fH9 hres2 2;have k3:=fH9 hres2 3;have HRS:Hid _:=hres2;clear hres2;go_wp2_with fail;obtain ⟨r0,r1,r2⟩:=y9 HRS.out (.bool false) (.string ⟨#[]⟩) (.slice none 0 0) (.slice none 0 0);obtain ⟨y0,y1,y2,y3⟩:=zl r0;refine bodyPost_ret (v:=.tuple #[.agg #[.bool false,.string ⟨#[]⟩,.slice none 0 0,.slice none 0 0],.int .i64 1]) (by simp[results,Tryz.results6,go_sem,y0,y1,y2,y3]) rfl ?_
         rw[HV.out];exact ⟨_,_,rfl,⟨none,0,rfl,nR9 _,nZ9 _,fun h=>absurd rfl h⟩,qb.nil 8 ⟨none,0,rfl,nZ9 _⟩,r2 (nR9 _) HB2.out⟩
       | true =>
         have HV:Hid (zm s=(t,0)):=by show _=_;rw[HV1.out,hg];rfl
         clear hg HV1;obtain ⟨q0,q1,q2,q3⟩:=zl hres2;have k0:=fH9 hres2 0;have k1:=fH9 hres2 1;have k2:=fH9 hres2 2;have k3:=fH9 hres2 3;have HRS:Hid _:=hres2;clear hres2;go_wp2_with fail;obtain ⟨r0,r1,r2⟩:=y9 HRS.out (.bool t.text) (.string t.s) (.slice aa t.attrs.length ac) (.slice ka t.kids.length kc);obtain ⟨y0,y1,y2,y3⟩:=zl r0;refine bodyPost_ret (v:=.tuple #[.agg #[.bool t.text,.string t.s,.slice aa t.attrs.length ac,.slice ka t.kids.length kc],.int .i64 0]) (by simp[results,Tryz.results6,go_sem,y0,y1,y2,y3]) rfl ?_
         rw[HV.out];refine ⟨_,_,rfl,qf.carry (S:=fun b=>w0.heap.size≤b) HA2.out (fun b hb=>⟨by omega,r1 b (by omega)⟩),qb.carry (S:=fun b=>w0.heap.size≤b) (fun b hb=>⟨by omega,r1 b (by omega)⟩) 8 HK2.out,r2 (nR9 _) HB2.out⟩
     · have hne : (l.length : Int) ≠ 1 := by omega
       have hnb:((l.length:Int)==1)=false:=by rw[beq_eq_false_iff_ne];exact hne
       have HV1:Hid (zm s=(zeroT,1)):=by
        show _=_
        rw[HV.out];cases l with
        | nil=>rfl
        | cons x r =>
          cases r with
          | nil=>exact absurd rfl h1
          | cons y r=>rfl
       clear HV hT hfo;obtain ⟨q0,q1,q2,q3⟩:=zl hres1;have k0:=fH9 hres1 0;have k1:=fH9 hres1 1;have k2:=fH9 hres1 2;have k3:=fH9 hres1 3;have HRS:Hid _:=hres1;clear hres1;go_wp2_with fail;obtain ⟨r0,r1,r2⟩:=y9 HRS.out (.bool false) (.string ⟨#[]⟩) (.slice none 0 0) (.slice none 0 0);obtain ⟨y0,y1,y2,y3⟩:=zl r0;refine bodyPost_ret (v:=.tuple #[.agg #[.bool false,.string ⟨#[]⟩,.slice none 0 0,.slice none 0 0],.int .i64 1]) (by simp[results,Tryz.results6,go_sem,y0,y1,y2,y3]) rfl ?_
       rw[HV1.out];exact ⟨_,_,rfl,⟨none,0,rfl,nR9 _,nZ9 _,fun h=>absurd rfl h⟩,qb.nil 8 ⟨none,0,rfl,nZ9 _⟩,r2 (nR9 _) HB1.out⟩
end
section
attribute [local go_sem] qi
theorem like_reflD:∀ (n:Nat)(ts:List Tr),Deep n ts→likeB n ts ts=true:=by
 intro n
 induction n with
 | zero=>intro ts h;have e:ts=[]:=h;subst e;exact Qt 0
 | succ n ih =>
   intro ts h;rw[Qu rfl];unfold xh;rw[List.all_eq_true];intro p hp;have hz:=List.mem_of_mem_take hp;obtain ⟨i,hi⟩:=List.mem_iff_getElem?.1 hz;rw[List.getElem?_zip_eq_some]at hi
   have e:p.1=p.2:=by
    have h1:=hi.1;have h2:=hi.2;rw[h1]at h2
    exact Option.some.inj h2
   rw[←e,ih p.1.kids (h p.1 (List.mem_of_getElem? hi.1)),Bool.and_true];simp[zT]
theorem yg {S:Nat→Prop}{w:World}{n m:Nat}{v:Value}{ts:List Tr}(h:qb S w n v ts)(hm:n≤m):qb S w m v ts:=by
  induction m with
  | zero => have : n = 0 := by omega
            subst this;exact h
  | succ m ih =>
    by_cases e:n=m+1
    · subst e;exact h
    · exact qb.deeper m (ih (by omega))
set_option maxHeartbeats 2000000 in
theorem xG (s:List UInt8)(w:World)(hM:qu w)(hm:yh w)(hs:s.length≤9223372036854775807) :
 Calls Tryz.prog 3 #[.string (qa s)] w fun e w'=>e=.returned (.bool true)∧Below w.heap.size w w':=by
 have HP:Hid _:=QD s w hM hs
 have HR:Hid (∀ W,Below w.heap.size w W→Calls Tryz.prog 6 #[.string (qa s)] W fun e w'=>∃ va vk,e=.returned (.tuple #[.agg #[.bool (qw s).1.text,.string (qw s).1.s,va,vk],.int .i64 (qw s).2])∧qf (fun b=>W.heap.size≤b) w' va (qw s).1.attrs∧qb (fun b=>W.heap.size≤b) w' 8 vk (qw s).1.kids∧Below W.heap.size W w'):=by
  intro W hW;have:=xP s W (hm.later hW) hs;rw[←ZB]at this
  exact this
 have HMK:Hid (∀ W,Below w.heap.size w W→Calls Tryz.prog 8 #[] W fun e w'=>e=.returned (.bool true)∧Below W.heap.size W w'):=fun W hW=>xJ W (hM.later hW hM.lt)
 obtain ⟨t,c,htc⟩:∃ t c,qw s=(t,c):=⟨_,_,rfl⟩;rw[htc]at HP HR
 dsimp only at HP HR
 clear hM hm htc
 go_enter Tryz.func3,Tryz.ntmps3
 go_wp2_with fail;refine Calls.mono HP.out ?_;rintro e w1 ⟨va,vk,rfl,hA1,hK1,hb1⟩;obtain ⟨aa,ac,rfl,_,_⟩:=hA1.shape2;obtain ⟨ka,kc,rfl,_,_⟩:=qb.shape _ hK1;have hbx:=Below.alloc1 w1 (.cells #[.bool t.text,.string t.s,.slice aa t.attrs.length ac,.slice ka t.kids.length kc] 25);have HB1:Hid _:=hb1.trans (hbx.mono hb1.size);have hx1:=heap_alloc_new w1 (.cells #[.bool t.text,.string t.s,.slice aa t.attrs.length ac,.slice ka t.kids.length kc] 25);have HA1:Hid _:=hA1.later hbx;have HK1:Hid _:=qb.later hbx _ hK1;clear HP hA1 hK1;go_wp2_with fail;refine Calls.mono (HR.out _ HB1.out) ?_;rintro e w2 ⟨va2,vk2,rfl,hA2,hK2,hb2⟩;obtain ⟨aa2,ac2,rfl,_,_⟩:=hA2.shape2;obtain ⟨ka2,kc2,rfl,_,_⟩:=qb.shape _ hK2;have hby:=Below.alloc1 w2 (.cells #[.bool t.text,.string t.s,.slice aa2 t.attrs.length ac2,.slice ka2 t.kids.length kc2] 25);have hb3:=hb2.trans (hby.mono hb2.size);have HB3:Hid _:=HB1.out.trans (hb3.mono HB1.out.size);have hy3:=heap_alloc_new w2 (.cells #[.bool t.text,.string t.s,.slice aa2 t.attrs.length ac2,.slice ka2 t.kids.length kc2] 25);have hx3:=(hb3.block _ (xt hx1)).trans hx1;have HS:Hid _:=JB (s.length+8) _ _ _ _ _ _ t t _ (qf.later HA1.out hb3) (hA2.later hby) (yg (qb.later hb3 _ HK1.out) (Nat.le_add_right _ _)) (yg (qb.later hby _ hK2) (by omega))
 have hlk:(zT t t&&likeB (s.length+8) t.kids t.kids)=true:=by
  rw[like_reflD _ _ (qb.deep _ (yg HK1.out (Nat.le_add_right _ 8)))];simp[zT]
 rw[hlk]at HS
 obtain ⟨p0,p1,p2,p3⟩:=zl hx3;obtain ⟨q0,q1,q2,q3⟩:=zl hy3;clear HA1 HK1 hA2 hK2 hlk HR hx1 hx3 hy3 hb2 hby hb3;go_wp2_with fail;refine Calls.mono HS.out ?_;rintro e w4 ⟨rfl,hb4⟩;have HB4:Hid _:=HB3.out.trans (hb4.mono HB3.out.size);clear HS;go_wp2_with fail;refine Calls.mono (HMK.out _ HB4.out) ?_;rintro e w5 ⟨rfl,hb5⟩;go_wp2_with fail;go_ret;exact ⟨rfl,HB4.out.trans (hb5.mono HB4.out.size)⟩
set_option maxHeartbeats 2000000 in
theorem Qd (s:List UInt8)(w:World)(hM:qu w)(hm:yh w)(hs:s.length≤9223372036854775807) :
 Calls Tryz.prog 4 #[.string (qa s)] w fun e w'=>e=.returned (.bool true)∧Below w.heap.size w w':=by
 have HP:Hid _:=x6 s w hM hs
 have HR:Hid (∀ W,Below w.heap.size w W→Calls Tryz.prog 10 #[.string (qa s)] W fun e w'=>∃ v,e=.returned (.tuple #[v,.int .i64 (zR s).2])∧qb (fun b=>W.heap.size≤b) w' 9 v (zR s).1∧Below W.heap.size W w'):=by
  intro W hW;have:=xN s W (hm.later hW) hs;rw[←ZX]at this
  exact this
 have HT:Hid (∀ W,Below w.heap.size w W→Calls Tryz.prog 11 #[.string (qa s)] W fun e w'=>e=.returned (.tuple #[.string (qa (zy s).1),.int .i64 (zy s).2])∧Below W.heap.size W w'):=fun W hW=>Yn s W (hM.later hW hM.lt) hs
 have HU:Hid (∀ W,Below w.heap.size w W→Calls Tryz.prog 12 #[.string (qa s)] W fun e w'=>e=.returned (.tuple #[.string (qa (zy s).1),.int .i64 (zy s).2])∧Below W.heap.size W w'):=by
  intro W hW;have:=xO s W (hm.later hW) hs;rw[←Yo]at this
  exact this
 have HMK:Hid (∀ W,Below w.heap.size w W→Calls Tryz.prog 8 #[] W fun e w'=>e=.returned (.bool true)∧Below W.heap.size W w'):=fun W hW=>xJ W (hM.later hW hM.lt)
 obtain ⟨l,c,htc⟩:∃ l c,zR s=(l,c):=⟨_,_,rfl⟩;rw[htc]at HP HR
 obtain ⟨x,g,hxg⟩:∃ x g,zy s=(x,g):=⟨_,_,rfl⟩;rw[hxg]at HT HU
 dsimp only at HP HR HT HU
 clear hM hm htc hxg
 go_enter Tryz.func4,Tryz.ntmps4
 go_wp2_with fail;refine Calls.mono HP.out ?_;rintro e w1 ⟨v1,rfl,hK1,hb1⟩;obtain ⟨ka,kc,rfl,_,_⟩:=qb.shape _ hK1;have HK1:Hid (qb (fun b=>w.heap.size≤b) w1 (s.length+1) (.slice ka l.length kc) l):=hK1
 clear HP hK1;go_wp2_with fail;refine Calls.mono (HR.out _ hb1) ?_;rintro e w2 ⟨v2,rfl,hK2,hb2⟩;obtain ⟨ka2,kc2,rfl,_,_⟩:=qb.shape _ hK2;have HB2:Hid _:=hb1.trans (hb2.mono hb1.size);have HK2:Hid (qb (fun b=>w1.heap.size≤b) w2 9 (.slice ka2 l.length kc2) l):=hK2
 have HK1b:Hid (qb (fun b=>w.heap.size≤b) w2 (s.length+1) (.slice ka l.length kc) l):=qb.later hb2 (s.length+1) HK1.out
 clear HR hK2;go_wp2_with fail;refine Calls.mono (HT.out _ HB2.out) ?_;rintro e w3 ⟨rfl,hb3⟩;have HB3:Hid _:=HB2.out.trans (hb3.mono HB2.out.size);clear HT;go_wp2_with fail;refine Calls.mono (HU.out _ HB3.out) ?_;rintro e w4 ⟨rfl,hb4⟩;have HB4:Hid _:=HB3.out.trans (hb4.mono HB3.out.size);have hb34:=hb3.trans (hb4.mono hb3.size);have HS:Hid _:=Qv (s.length+9) _ _ _ _ l l w4 (yg (n:=s.length+1) (qb.later hb34 (s.length+1) HK1b.out) (by omega)) (yg (n:=9) (qb.later hb34 9 HK2.out) (by omega))
 rw[like_reflD _ _ (qb.deep (s.length+9) (yg (n:=s.length+1) HK1.out (by omega)))]at HS
 clear HU HK1 HK1b HK2 hb34;go_wp2_with fail;refine Calls.mono HS.out ?_;rintro e w5 ⟨rfl,hb5⟩;have HB5:Hid _:=HB4.out.trans (hb5.mono HB4.out.size);clear HS;go_wp2_with fail;refine Calls.mono (HMK.out _ HB5.out) ?_;rintro e w6 ⟨rfl,hb6⟩;go_wp2_with fail;go_ret;exact ⟨rfl,HB5.out.trans (hb6.mono HB5.out.size)⟩
theorem Qo {x:ByteArray}(h:x.size≤maxLen):x.data.toList.length≤9223372036854775807:=by
 rw[Array.length_toList];unfold maxLen at h
 have:x.data.size=x.size:=rfl;omega
theorem xF (x:ByteArray)(w:World)(hE:qu w∧yh w)(hs:x.size≤maxLen) :
 Calls Tryz.prog 3 #[.string x] w fun e w'=>e=.returned (.bool true)∧Below w.heap.size w w' :=
 xG x.data.toList w hE.1 hE.2 (Qo hs)
theorem Qc (x:ByteArray)(w:World)(hE:qu w∧yh w)(hs:x.size≤maxLen) :
 Calls Tryz.prog 4 #[.string x] w fun e w'=>e=.returned (.bool true)∧Below w.heap.size w w' :=
 Qd x.data.toList w hE.1 hE.2 (Qo hs)
end
end Go.Proofs.YtkbhckhbgalaoaaGreatDoor
