/- Bundled: ParseC TextW ParseT MarksK. What each says stands ahead of it. -/
import Derived.Test.YtchkbffgancidaaGreatDoorBundle19
namespace Go.Proofs.YtchkbffgancidaaGreatDoor
open Go.ChangeShapes Go.WideShapes Go.ChangeAt Go.RowKit
set_option maxRecDepth 100000
section
attribute [local go_sem] qd
set_option maxHeartbeats 2000000 in
theorem Xl (s:List UInt8)(B rb:Nat)(w:World)(h:Rd B rb ⟨s,false⟩ w)(hM:qO w)(hgB:1<B)(hBw:B≤w.heap.size)(hs:s.length≤9223372036854775807) :
 Calls Tryz.prog 143 #[.pointer (some ⟨rb,0,none⟩),.func (.func 94) #[.pointer (some ⟨rb,0,none⟩)] #[],.func (.func 32) #[] #[]] w fun e w' =>
  ∃ v,e=.returned (.tuple #[v,.int .i64 (qN s).2])∧qa (fun b=>w.heap.size≤b) w' (s.length+1) v (qN s).1∧RFr B rb w w':=by
 have HP:Hid (qN s=if 2500<s.length then ([],2) else if (treesF (s.length+1) ⟨s,false⟩).2.wrong||decide ((treesF (s.length+1) ⟨s,false⟩).2.rest≠[])||!qG (treesF (s.length+1) ⟨s,false⟩).1 then ([],1) else ((treesF (s.length+1) ⟨s,false⟩).1,0)):=rfl
 have hrb:=h.lt;have c0:w.cell? ⟨rb,0,none⟩=some (.string (qc s)):=h.c0;have hz:=ql s
 go_enter Tryz.func143,Tryz.ntmps143
 by_cases hlong:2500<s.length
 · have HE : Hid (qN s = ([], 2)) := by show _ = _;rw[HP.out, if_pos hlong]
   have hli:(2500:Int)<(s.length:Int):=by omega
   clear HP hM h;go_wp2_with fail
   go_ret2
   exact ⟨.slice none 0 0,by rw[HE.out];rfl,by rw[HE.out];exact qa.nil _ ⟨none,0,rfl,nZ9 _⟩,RFr.refl _ _ _⟩
 · have HP2 : Hid (qN s = if (treesF (s.length + 1) ⟨s, false⟩).2.wrong || decide ((treesF (s.length + 1) ⟨s, false⟩).2.rest ≠ []) || !qG (treesF (s.length + 1) ⟨s, false⟩).1 then ([], 1) else ((treesF (s.length + 1) ⟨s, false⟩).1, 0)) := by show _ = _;rw[HP.out, if_neg hlong]
   have hli:¬ (2500:Int)<(s.length:Int):=by omega
   have hln:s.length≤2500:=by omega
   have HC:Hid _:=Xa (s.length+1) B rb ⟨s,false⟩ w h hM hgB hBw (by show s.length≤_;omega) (by show s.length<_;omega)
   clear HP hlong h hM;go_wp2_with fail;refine (Calls.mono HC.out ?_);rintro e w2 ⟨v,rfl,hK2,hR2,k2⟩;obtain ⟨ka,kc,rfl,_,_⟩:=qa.shape (s.length+1) hK2;have HTX:Hid (TextsN (s.length+1) (treesF (s.length+1) ⟨s,false⟩).1):=yV.texts (M:=2501) (by unfold maxLen;omega) _ _ (Zp 2500 (s.length+1) _ hln)
   obtain ⟨p,hp⟩:∃ p,treesF (s.length+1) ⟨s,false⟩=p:=⟨_,rfl⟩;rw[hp]at HP2 hK2 hR2 HTX ⊢
   clear hp HC c0;obtain ⟨l,r2⟩:=p;simp only at HP2 hK2 hR2 HTX ⊢
   have d0:=hR2.c0;have d1:=hR2.c1;have hem:=jJ r2.rest;have HG:Hid _:=xY _ (s.length+1) _ l _ hK2 HTX.out;have hsz2:=k2.below.size;clear hR2 HTX;obtain ⟨q,hq⟩:∃ q,r2.wrong=q:=⟨_,rfl⟩;rw[hq]at HP2 d1
   clear hq;cases q with
   | true =>
     have HE:Hid (qN s=([],1)):=by show _=_;rw[HP2.out];rfl
     clear HP2 HG;go_wp2_with fail
     go_ret2
     exact ⟨.slice none 0 0,by rw[HE.out];rfl,by rw[HE.out];exact qa.nil _ ⟨none,0,rfl,nZ9 _⟩,k2⟩
   | false =>
     cases hr:r2.rest with
     | cons c m =>
       have HE:Hid (qN s=([],1)):=by show _=_;rw[HP2.out,hr];rfl
       rw[hr]at hem d0
       simp only[List.isEmpty_cons]at hem
       clear HP2 HG hr;go_wp2_with fail
       go_ret2
       exact ⟨.slice none 0 0,by rw[HE.out];rfl,by rw[HE.out];exact qa.nil _ ⟨none,0,rfl,nZ9 _⟩,k2⟩
     | nil =>
       have HP3:Hid (qN s=if !qG l then ([],1) else (l,0)):=by show _=_;rw[HP2.out,hr];rfl
       rw[hr]at hem d0
       simp only[List.isEmpty_nil]at hem
       clear HP2 hr;go_wp2_with fail;refine (Calls.mono HG.out ?_);rintro e w4 ⟨rfl,hb4⟩;have hK4:=qa.later hb4 (s.length+1) hK2;have hF4:RFr B rb w w4:=k2.own (hb4.mono (by omega)) hBw
       clear HG hK2 d0 d1;obtain ⟨q,hq⟩:∃ q,qG l=q:=⟨_,rfl⟩;rw[hq]at HP3 ⊢
       clear hq;cases q with
       | false =>
         have HE:Hid (qN s=([],1)):=by show _=_;rw[HP3.out];rfl
         clear HP3;go_wp2_with fail
         go_ret2
         exact ⟨.slice none 0 0,by rw[HE.out];rfl,by rw[HE.out];exact qa.nil _ ⟨none,0,rfl,nZ9 _⟩,hF4⟩
       | true =>
         have HE:Hid (qN s=(l,0)):=by show _=_;rw[HP3.out];rfl
         clear HP3;go_wp2_with fail
         go_ret2
         exact ⟨.slice ka l.length kc,by rw[HE.out];rfl,by rw[HE.out];exact hK4,hF4⟩
set_option maxHeartbeats 1000000 in
theorem yx (s:List UInt8)(w:World)(hM:qO w)(hs:s.length≤9223372036854775807) :
 Calls Tryz.prog 100 #[.string (qc s)] w fun e w'=>∃ v,e=.returned (.tuple #[v,.int .i64 (qN s).2])∧qa (fun b=>w.heap.size≤b) w' (s.length+1) v (qN s).1∧Below w.heap.size w w':=by
 have hb1:=Below.alloc1 w (.cells #[.string (qc s),.bool false] 90);have hR1:Rd w.heap.size w.heap.size ⟨s,false⟩ (w.alloc (.cells #[.string (qc s),.bool false] 90)):=⟨nR9 _,heap_alloc_new _ _⟩;have HC:Hid _:=Xl s w.heap.size w.heap.size _ hR1 (hM.later hb1 hM.lt) hM.lt hb1.size hs;have hz:=ql s;clear hM
 go_enter Tryz.func100,Tryz.ntmps100
 go_wp2_with fail;refine (Calls.mono HC.out ?_);rintro e w2 ⟨v,rfl,hK2,k2⟩;have hB2:Below w.heap.size w w2:=hb1.trans k2.below;obtain ⟨ka,kc,rfl,_,_⟩:=qa.shape (s.length+1) hK2;go_wp2_with fail
 go_ret2
 exact ⟨_,rfl,hK2.wider hb1.size,hB2⟩
end
section
attribute [local go_sem] qd
def zI (s:List UInt8):List UInt8 × Int :=
 if 2500<s.length then ([],2) else if ((⟨s,false⟩:Rs).text textEnds).2.wrong||decide (((⟨s,false⟩:Rs).text textEnds).2.rest≠[])||!zo (qc ((⟨s,false⟩:Rs).text textEnds).1) then ([],1) else (((⟨s,false⟩:Rs).text textEnds).1,0)
set_option maxHeartbeats 1000000 in
theorem X2 (s:List UInt8)(B rb:Nat)(w:World)(h:Rd B rb ⟨s,false⟩ w)(hM:qO w)(hgB:1<B)(hBw:B≤w.heap.size)(hs:s.length≤9223372036854775807) :
 Calls Tryz.prog 144 #[.pointer (some ⟨rb,0,none⟩),.func (.func 53) #[.pointer (some ⟨rb,0,none⟩)] #[],.func (.func 125) #[] #[]] w fun e w' =>
  e=.returned (.tuple #[.string (qc (zI s).1),.int .i64 (zI s).2])∧RFr B rb w w':=by
 have HP:Hid (zI s=if 2500<s.length then ([],2) else if ((⟨s,false⟩:Rs).text textEnds).2.wrong||decide (((⟨s,false⟩:Rs).text textEnds).2.rest≠[])||!zo (qc ((⟨s,false⟩:Rs).text textEnds).1) then ([],1) else (((⟨s,false⟩:Rs).text textEnds).1,0)):=rfl
 have hrb:=h.lt;have c0:w.cell? ⟨rb,0,none⟩=some (.string (qc s)):=h.c0;have hz:=ql s;have hn:qc []=⟨#[]⟩:=rfl;have HN:Hid _:=hn;clear hn
 go_enter Tryz.func144,Tryz.ntmps144
 by_cases hlong:2500<s.length
 · have HE : Hid (zI s = ([], 2)) := by show _ = _;rw[HP.out, if_pos hlong]
   have hli:(2500:Int)<(s.length:Int):=by omega
   clear HP hM h;go_wp2_with fail
   go_ret2
   exact ⟨by rw[HE.out,HN.out];rfl,RFr.refl _ _ _⟩
 · have HP2 : Hid (zI s = if ((⟨s, false⟩ : Rs).text textEnds).2.wrong || decide (((⟨s, false⟩ : Rs).text textEnds).2.rest ≠ []) || !zo (qc ((⟨s, false⟩ : Rs).text textEnds).1) then ([], 1) else (((⟨s, false⟩ : Rs).text textEnds).1, 0)) := by show _ = _;rw[HP.out, if_neg hlong]
   have hli:¬ (2500:Int)<(s.length:Int):=by omega
   have hln:s.length≤2500:=by omega
   have HC:Hid _:=J9 B rb ⟨s,false⟩ w h hM hgB hBw (by show s.length≤_;omega)
   have hlen:((⟨s,false⟩:Rs).text textEnds).1.length≤2501:=Nat.le_trans (ZB textEnds _ _) (by unfold Rs.left;simp;omega)
   clear HP hlong h hM;go_wp2_with fail;refine (Calls.mono HC.out ?_);rintro e w2 ⟨rfl,hR2,k2⟩;obtain ⟨p,hp⟩:∃ p,(⟨s,false⟩:Rs).text textEnds=p:=⟨_,rfl⟩;rw[hp]at HP2 hR2 hlen ⊢
   clear hp HC c0;obtain ⟨t,r2⟩:=p;simp only at HP2 hR2 hlen ⊢
   have d0:=hR2.c0;have d1:=hR2.c1;have hem:=jJ r2.rest;have hzt:=ql t;have HG:Hid (∀ W,Calls Tryz.prog 125 #[.string (qc t)] W fun e w'=>e=.returned (.bool (zo (qc t)))∧w'=W):=fun W=>zV (qc t) W (by rw[hzt];unfold maxLen;omega)
   clear hR2;obtain ⟨q,hq⟩:∃ q,r2.wrong=q:=⟨_,rfl⟩;rw[hq]at HP2 d1
   clear hq;cases q with
   | true =>
     have HE:Hid (zI s=([],1)):=by show _=_;rw[HP2.out];rfl
     clear HP2 HG;go_wp2_with fail
     go_ret2
     exact ⟨by rw[HE.out,HN.out];rfl,k2⟩
   | false =>
     cases hr:r2.rest with
     | cons c m =>
       have HE:Hid (zI s=([],1)):=by show _=_;rw[HP2.out,hr];rfl
       rw[hr]at hem d0
       simp only[List.isEmpty_cons]at hem
       clear HP2 HG hr;go_wp2_with fail
       go_ret2
       exact ⟨by rw[HE.out,HN.out];rfl,k2⟩
     | nil =>
       have HP3:Hid (zI s=if !zo (qc t) then ([],1) else (t,0)):=by show _=_;rw[HP2.out,hr];rfl
       rw[hr]at hem d0
       simp only[List.isEmpty_nil]at hem
       clear HP2 hr;go_wp2_with fail;refine (Calls.mono (HG.out _) ?_);rintro e w4 ⟨rfl,rfl⟩;clear HG d0 d1;obtain ⟨q,hq⟩:∃ q,zo (qc t)=q:=⟨_,rfl⟩;rw[hq]at HP3 ⊢
       clear hq;cases q with
       | false =>
         have HE:Hid (zI s=([],1)):=by show _=_;rw[HP3.out];rfl
         clear HP3;go_wp2_with fail
         go_ret2
         exact ⟨by rw[HE.out,HN.out];rfl,k2⟩
       | true =>
         have HE:Hid (zI s=(t,0)):=by show _=_;rw[HP3.out];rfl
         clear HP3;go_wp2_with fail
         go_ret2
         exact ⟨by rw[HE.out];rfl,k2⟩
set_option maxHeartbeats 1000000 in
theorem Y3 (s:List UInt8)(w:World)(hM:qO w)(hs:s.length≤9223372036854775807) :
 Calls Tryz.prog 101 #[.string (qc s)] w fun e w'=>e=.returned (.tuple #[.string (qc (zI s).1),.int .i64 (zI s).2])∧Below w.heap.size w w':=by
 have hb1:=Below.alloc1 w (.cells #[.string (qc s),.bool false] 90);have hR1:Rd w.heap.size w.heap.size ⟨s,false⟩ (w.alloc (.cells #[.string (qc s),.bool false] 90)):=⟨nR9 _,heap_alloc_new _ _⟩;have HC:Hid _:=X2 s w.heap.size w.heap.size _ hR1 (hM.later hb1 hM.lt) hM.lt hb1.size hs;have hz:=ql s;clear hM
 go_enter Tryz.func101,Tryz.ntmps101
 go_wp2_with fail;refine (Calls.mono HC.out ?_);rintro e w2 ⟨rfl,k2⟩;have hB2:Below w.heap.size w w2:=hb1.trans k2.below;go_wp2_with fail
 go_ret2
 exact ⟨rfl,hB2⟩
end
section
attribute [local go_sem] qd
set_option maxHeartbeats 2000000 in
theorem X3 (s:List UInt8)(B rb:Nat)(w:World)(h:Rd B rb ⟨s,false⟩ w)(hM:qO w)(hgB:1<B)(hBw:B≤w.heap.size)(hs:s.length≤9223372036854775807) :
    Calls Tryz.prog 34 #[.pointer (some ⟨rb,0,none⟩),.func (.func 35) #[.pointer (some ⟨rb,0,none⟩)] #[],.func (.func 21) #[] #[]] w fun e w' =>
      ∃ va vk, e = .returned (.tuple #[.agg #[.bool (qA s).1.text, .string (qA s).1.s, va, vk], .int .i64 (qA s).2]) ∧
        qj (fun b=>w.heap.size≤b) w' va (qA s).1.attrs∧qa (fun b=>w.heap.size≤b) w' s.length vk (qA s).1.kids∧RFr B rb w w':=by
  have hrb:=h.lt;have hb1:Below w.heap.size w ((w.alloc (.cells #[.bool false,.string ⟨#[]⟩,.slice none 0 0,.slice none 0 0] 51)).alloc (.cells #[.bool false,.string ⟨#[]⟩,.slice none 0 0,.slice none 0 0] 51)):=(Below.alloc1 w _).alloc (by simp) _
  have hx1:((w.alloc (.cells #[.bool false,.string ⟨#[]⟩,.slice none 0 0,.slice none 0 0] 51)).alloc (.cells #[.bool false,.string ⟨#[]⟩,.slice none 0 0,.slice none 0 0] 51)).heap[w.heap.size]?=some (.cells #[.bool false,.string ⟨#[]⟩,.slice none 0 0,.slice none 0 0] 51 (0,0)):=by
    rw[Lib.alloc_old _ _ _ (by simp)];exact heap_alloc_new _ _
  have hy1:((w.alloc (.cells #[.bool false,.string ⟨#[]⟩,.slice none 0 0,.slice none 0 0] 51)).alloc (.cells #[.bool false,.string ⟨#[]⟩,.slice none 0 0,.slice none 0 0] 51)).heap[w.heap.size+1]?=some (.cells #[.bool false,.string ⟨#[]⟩,.slice none 0 0,.slice none 0 0] 51 (0,0)):=by
    have e:=heap_alloc_new (w.alloc (.cells #[.bool false,.string ⟨#[]⟩,.slice none 0 0,.slice none 0 0] 51)) (.cells #[.bool false,.string ⟨#[]⟩,.slice none 0 0,.slice none 0 0] 51);rw[World.size_alloc]at e
    exact e
  have hz1:((w.alloc (.cells #[.bool false,.string ⟨#[]⟩,.slice none 0 0,.slice none 0 0] 51)).alloc (.cells #[.bool false,.string ⟨#[]⟩,.slice none 0 0,.slice none 0 0] 51)).heap.size=w.heap.size+2:=by simp
  have hR1:=h.later hb1;have hF1:RFr B rb w _:=RFr.later hBw hb1;have hM1:=hM.later hb1 hM.lt;have HP:Hid (qA s=if 2500<s.length then (zeroT,2) else if ((⟨s,false⟩:Rs).one (treesF s.length)).2.wrong||decide (((⟨s,false⟩:Rs).one (treesF s.length)).2.rest≠[])||!qS ((⟨s,false⟩:Rs).one (treesF s.length)).1 then (zeroT,1) else (((⟨s,false⟩:Rs).one (treesF s.length)).1,0)):=rfl
  have c0:((w.alloc (.cells #[.bool false,.string ⟨#[]⟩,.slice none 0 0,.slice none 0 0] 51)).alloc (.cells #[.bool false,.string ⟨#[]⟩,.slice none 0 0,.slice none 0 0] 51)).cell? ⟨rb,0,none⟩=some (.string (qc s)):=hR1.c0;have hz:=ql s;clear h hM
  go_enter Tryz.func34,Tryz.ntmps34
  by_cases hlong:2500<s.length
  · have HE : Hid (qA s = (zeroT, 2)) := by show _ = _;rw[HP.out, if_pos hlong]
    have hli:(2500:Int)<(s.length:Int):=by omega
    clear HP hM1;go_wp2_with fail
    generalize ((w.alloc (.cells #[.bool false,.string ⟨#[]⟩,.slice none 0 0,.slice none 0 0] 51)).alloc (.cells #[.bool false,.string ⟨#[]⟩,.slice none 0 0,.slice none 0 0] 51))=W1 at hb1 hx1 hy1 hz1 hR1 hF1 c0 ⊢
    have p0:W1.cell? ⟨w.heap.size,0,none⟩=some (.bool false):=by rw[cH9 hx1];rfl
    have p1:W1.cell? ⟨w.heap.size,1,none⟩=some (.string ⟨#[]⟩):=by rw[cH9 hx1];rfl
    have p2:W1.cell? ⟨w.heap.size,2,none⟩=some (.slice none 0 0):=by rw[cH9 hx1];rfl
    have p3:W1.cell? ⟨w.heap.size,3,none⟩=some (.slice none 0 0):=by rw[cH9 hx1];rfl
    refine bodyPost_ret (v:=.tuple #[.agg #[.bool false,.string ⟨#[]⟩,.slice none 0 0,.slice none 0 0],.int .i64 2]) (by simp[results,Tryz.results34,go_sem,p0,p1,p2,p3]) rfl ⟨.slice none 0 0,.slice none 0 0,?_,?_,?_,?_⟩
    · rw[HE.out];rfl
    · rw[HE.out];exact qj.nil
    · rw[HE.out];exact qa.nil _ ⟨none,0,rfl,nZ9 _⟩
    · exact hF1
  · have HP2 : Hid (qA s = if ((⟨s, false⟩ : Rs).one (treesF s.length)).2.wrong || decide (((⟨s, false⟩ : Rs).one (treesF s.length)).2.rest ≠ []) || !qS ((⟨s, false⟩ : Rs).one (treesF s.length)).1 then (zeroT, 1) else (((⟨s, false⟩ : Rs).one (treesF s.length)).1, 0)) := by show _ = _;rw[HP.out, if_neg hlong]
    have hli:¬ (2500:Int)<(s.length:Int):=by omega
    have hln:s.length≤2500:=by omega
    clear HP hlong;go_wp2_with fail
    generalize ((w.alloc (.cells #[.bool false,.string ⟨#[]⟩,.slice none 0 0,.slice none 0 0] 51)).alloc (.cells #[.bool false,.string ⟨#[]⟩,.slice none 0 0,.slice none 0 0] 51))=W1 at hb1 hx1 hy1 hz1 hR1 hF1 c0 hM1 ⊢
    refine (Calls.mono (qcA s.length (Xa s.length) B rb ⟨s,false⟩ W1 hR1 hM1 hgB (by omega) (by show s.length≤_;omega) (nR9 _)) ?_)
    rintro e w2 ⟨va,vk,rfl,hA2,hK2,hR2,k2⟩;have hx2:=k2.box hx1 (by omega)
    have hy2:=k2.box hy1 (by omega)
    have hF2:=hF1.trans k2;have hsz2:=k2.below.size;obtain ⟨aa,ac,rfl⟩:=hA2.shape;obtain ⟨ka,kc,rfl,_,_⟩:=qa.shape s.length hK2
    have HTX:Hid (TextsN (s.length+1) [((⟨s,false⟩:Rs).one (treesF s.length)).1]):=by
      refine yV.texts (M:=2501) (by unfold maxLen;omega) _ _ ?_
      intro t ht;simp only[List.mem_singleton]at ht
      subst ht;exact J4 (M:=2500) (Zp 2500 s.length) _ hln
    obtain ⟨p,hp⟩:∃ p,(⟨s,false⟩:Rs).one (treesF s.length)=p:=⟨_,rfl⟩;rw[hp]at HP2 hA2 hK2 hR2 HTX ⊢
    clear hp k2 hR1 hx1 hy1 hF1 hM1 c0 hb1;obtain ⟨t,r2⟩:=p;simp only at HP2 hA2 hK2 hR2 HTX ⊢
    have c0:=hR2.c0;have c1:=hR2.c1;have hem:=jJ r2.rest;have hb3:=Below.alloc1 w2 (.cells #[.bool t.text,.string t.s,.slice aa t.attrs.length ac,.slice ka t.kids.length kc] 51);have hv3:=heap_alloc_new w2 (.cells #[.bool t.text,.string t.s,.slice aa t.attrs.length ac,.slice ka t.kids.length kc] 51);have hR3:=hR2.later hb3;have hx3:=(hb3.block _ (yf hx2)).trans hx2;have hy3:=(hb3.block _ (yf hy2)).trans hy2;have hA3:=hA2.later hb3;have hK3:=qa.later hb3 s.length hK2;have hF3:RFr B rb w _:=hF2.own (hb3.mono (by omega)) hBw
    have hw2:w.heap.size+1<w2.heap.size:=by omega
    have d0:=hR3.c0;have d1:=hR3.c1;have HG:Hid _:=Q4 _ s.length _ _ t _ hA3 hK3 HTX.out;have hsz3:=hb3.size;clear hR2 hx2 hy2 hA2 hK2 hF2 c0 c1 HTX;obtain ⟨q,hq⟩:∃ q,r2.wrong=q:=⟨_,rfl⟩;rw[hq]at HP2 d1
    clear hq;cases q with
    | true =>
      have HE:Hid (qA s=(zeroT,1)):=by show _=_;rw[HP2.out];rfl
      clear HP2 HG;have p0:(w2.alloc (.cells #[.bool t.text,.string t.s,.slice aa t.attrs.length ac,.slice ka t.kids.length kc] 51)).cell? ⟨w.heap.size,0,none⟩=some (.bool false):=by rw[cH9 hx3];rfl
      have p1:(w2.alloc (.cells #[.bool t.text,.string t.s,.slice aa t.attrs.length ac,.slice ka t.kids.length kc] 51)).cell? ⟨w.heap.size,1,none⟩=some (.string ⟨#[]⟩):=by rw[cH9 hx3];rfl
      have p2:(w2.alloc (.cells #[.bool t.text,.string t.s,.slice aa t.attrs.length ac,.slice ka t.kids.length kc] 51)).cell? ⟨w.heap.size,2,none⟩=some (.slice none 0 0):=by rw[cH9 hx3];rfl
      have p3:(w2.alloc (.cells #[.bool t.text,.string t.s,.slice aa t.attrs.length ac,.slice ka t.kids.length kc] 51)).cell? ⟨w.heap.size,3,none⟩=some (.slice none 0 0):=by rw[cH9 hx3];rfl
      have f0:(w2.alloc (.cells #[.bool t.text,.string t.s,.slice aa t.attrs.length ac,.slice ka t.kids.length kc] 51)).frozen? ⟨w.heap.size,0,none⟩=false:=fH9 hx3 0;have f1:(w2.alloc (.cells #[.bool t.text,.string t.s,.slice aa t.attrs.length ac,.slice ka t.kids.length kc] 51)).frozen? ⟨w.heap.size,1,none⟩=false:=fH9 hx3 1;have f2:(w2.alloc (.cells #[.bool t.text,.string t.s,.slice aa t.attrs.length ac,.slice ka t.kids.length kc] 51)).frozen? ⟨w.heap.size,2,none⟩=false:=fH9 hx3 2;have f3:(w2.alloc (.cells #[.bool t.text,.string t.s,.slice aa t.attrs.length ac,.slice ka t.kids.length kc] 51)).frozen? ⟨w.heap.size,3,none⟩=false:=fH9 hx3 3;have q0:(w2.alloc (.cells #[.bool t.text,.string t.s,.slice aa t.attrs.length ac,.slice ka t.kids.length kc] 51)).cell? ⟨w.heap.size+1,0,none⟩=some (.bool false):=by rw[cH9 hy3];rfl
      have q1:(w2.alloc (.cells #[.bool t.text,.string t.s,.slice aa t.attrs.length ac,.slice ka t.kids.length kc] 51)).cell? ⟨w.heap.size+1,1,none⟩=some (.string ⟨#[]⟩):=by rw[cH9 hy3];rfl
      have q2:(w2.alloc (.cells #[.bool t.text,.string t.s,.slice aa t.attrs.length ac,.slice ka t.kids.length kc] 51)).cell? ⟨w.heap.size+1,2,none⟩=some (.slice none 0 0):=by rw[cH9 hy3];rfl
      have q3:(w2.alloc (.cells #[.bool t.text,.string t.s,.slice aa t.attrs.length ac,.slice ka t.kids.length kc] 51)).cell? ⟨w.heap.size+1,3,none⟩=some (.slice none 0 0):=by rw[cH9 hy3];rfl
      go_wp2_with fail;refine bodyPost_ret (v:=.tuple #[.agg #[.bool false,.string ⟨#[]⟩,.slice none 0 0,.slice none 0 0],.int .i64 1]) (by simp[results,Tryz.results34,go_sem,qd,p0,p1,p2,p3,World.cell?_setCell_other]) rfl ⟨.slice none 0 0,.slice none 0 0,?_,?_,?_,?_⟩
      · rw[HE.out];rfl
      · rw[HE.out];exact qj.nil
      · rw[HE.out];exact qa.nil _ ⟨none,0,rfl,nZ9 _⟩
      · exact hF3.own (((((Below.refl _ (w2.alloc (.cells #[.bool t.text,.string t.s,.slice aa t.attrs.length ac,.slice ka t.kids.length kc] 51))).setCell (p:=⟨w.heap.size,0,none⟩) (nR9 _) _).setCell (p:=⟨w.heap.size,1,none⟩) (nR9 _) _).setCell (p:=⟨w.heap.size,2,none⟩) (nR9 _) _).setCell (p:=⟨w.heap.size,3,none⟩) (nR9 _) _) hBw
    | false =>
      cases hr:r2.rest with
      | cons c l =>
        have HE:Hid (qA s=(zeroT,1)):=by show _=_;rw[HP2.out,hr];rfl
        rw[hr]at hem d0
        simp only[List.isEmpty_cons]at hem
        clear HP2 HG hr;have p0:(w2.alloc (.cells #[.bool t.text,.string t.s,.slice aa t.attrs.length ac,.slice ka t.kids.length kc] 51)).cell? ⟨w.heap.size,0,none⟩=some (.bool false):=by rw[cH9 hx3];rfl
        have p1:(w2.alloc (.cells #[.bool t.text,.string t.s,.slice aa t.attrs.length ac,.slice ka t.kids.length kc] 51)).cell? ⟨w.heap.size,1,none⟩=some (.string ⟨#[]⟩):=by rw[cH9 hx3];rfl
        have p2:(w2.alloc (.cells #[.bool t.text,.string t.s,.slice aa t.attrs.length ac,.slice ka t.kids.length kc] 51)).cell? ⟨w.heap.size,2,none⟩=some (.slice none 0 0):=by rw[cH9 hx3];rfl
        have p3:(w2.alloc (.cells #[.bool t.text,.string t.s,.slice aa t.attrs.length ac,.slice ka t.kids.length kc] 51)).cell? ⟨w.heap.size,3,none⟩=some (.slice none 0 0):=by rw[cH9 hx3];rfl
        have f0:(w2.alloc (.cells #[.bool t.text,.string t.s,.slice aa t.attrs.length ac,.slice ka t.kids.length kc] 51)).frozen? ⟨w.heap.size,0,none⟩=false:=fH9 hx3 0;have f1:(w2.alloc (.cells #[.bool t.text,.string t.s,.slice aa t.attrs.length ac,.slice ka t.kids.length kc] 51)).frozen? ⟨w.heap.size,1,none⟩=false:=fH9 hx3 1;have f2:(w2.alloc (.cells #[.bool t.text,.string t.s,.slice aa t.attrs.length ac,.slice ka t.kids.length kc] 51)).frozen? ⟨w.heap.size,2,none⟩=false:=fH9 hx3 2;have f3:(w2.alloc (.cells #[.bool t.text,.string t.s,.slice aa t.attrs.length ac,.slice ka t.kids.length kc] 51)).frozen? ⟨w.heap.size,3,none⟩=false:=fH9 hx3 3;have q0:(w2.alloc (.cells #[.bool t.text,.string t.s,.slice aa t.attrs.length ac,.slice ka t.kids.length kc] 51)).cell? ⟨w.heap.size+1,0,none⟩=some (.bool false):=by rw[cH9 hy3];rfl
        have q1:(w2.alloc (.cells #[.bool t.text,.string t.s,.slice aa t.attrs.length ac,.slice ka t.kids.length kc] 51)).cell? ⟨w.heap.size+1,1,none⟩=some (.string ⟨#[]⟩):=by rw[cH9 hy3];rfl
        have q2:(w2.alloc (.cells #[.bool t.text,.string t.s,.slice aa t.attrs.length ac,.slice ka t.kids.length kc] 51)).cell? ⟨w.heap.size+1,2,none⟩=some (.slice none 0 0):=by rw[cH9 hy3];rfl
        have q3:(w2.alloc (.cells #[.bool t.text,.string t.s,.slice aa t.attrs.length ac,.slice ka t.kids.length kc] 51)).cell? ⟨w.heap.size+1,3,none⟩=some (.slice none 0 0):=by rw[cH9 hy3];rfl
        go_wp2_with fail;refine bodyPost_ret (v:=.tuple #[.agg #[.bool false,.string ⟨#[]⟩,.slice none 0 0,.slice none 0 0],.int .i64 1]) (by simp[results,Tryz.results34,go_sem,qd,p0,p1,p2,p3,World.cell?_setCell_other]) rfl ⟨.slice none 0 0,.slice none 0 0,?_,?_,?_,?_⟩
        · rw[HE.out];rfl
        · rw[HE.out];exact qj.nil
        · rw[HE.out];exact qa.nil _ ⟨none,0,rfl,nZ9 _⟩
        · exact hF3.own (((((Below.refl _ (w2.alloc (.cells #[.bool t.text,.string t.s,.slice aa t.attrs.length ac,.slice ka t.kids.length kc] 51))).setCell (p:=⟨w.heap.size,0,none⟩) (nR9 _) _).setCell (p:=⟨w.heap.size,1,none⟩) (nR9 _) _).setCell (p:=⟨w.heap.size,2,none⟩) (nR9 _) _).setCell (p:=⟨w.heap.size,3,none⟩) (nR9 _) _) hBw
      | nil =>
        have HP3:Hid (qA s=if !qS t then (zeroT,1) else (t,0)):=by show _=_;rw[HP2.out,hr];rfl
        rw[hr]at hem d0
        simp only[List.isEmpty_nil]at hem
        clear HP2 hr;go_wp2_with fail;refine (Calls.mono HG.out ?_);rintro e w4 ⟨rfl,hb4⟩;have hx4:=(hb4.block _ (yf hx3)).trans hx3;have hy4:=(hb4.block _ (yf hy3)).trans hy3;have hv4:=(hb4.block _ (yf hv3)).trans hv3;have hA4:=hA3.later hb4;have hK4:=qa.later hb4 s.length hK3;have hF4:RFr B rb w w4:=hF3.own (hb4.mono (by omega)) hBw
        clear HG hx3 hy3 hv3 hA3 hK3 hF3 d0 d1 hR3 hb3;obtain ⟨q,hq⟩:∃ q,qS t=q:=⟨_,rfl⟩;rw[hq]at HP3 ⊢
        clear hq;cases q with
        | false =>
          have HE:Hid (qA s=(zeroT,1)):=by show _=_;rw[HP3.out];rfl
          clear HP3;have p0:w4.cell? ⟨w.heap.size,0,none⟩=some (.bool false):=by rw[cH9 hx4];rfl
          have p1:w4.cell? ⟨w.heap.size,1,none⟩=some (.string ⟨#[]⟩):=by rw[cH9 hx4];rfl
          have p2:w4.cell? ⟨w.heap.size,2,none⟩=some (.slice none 0 0):=by rw[cH9 hx4];rfl
          have p3:w4.cell? ⟨w.heap.size,3,none⟩=some (.slice none 0 0):=by rw[cH9 hx4];rfl
          have f0:w4.frozen? ⟨w.heap.size,0,none⟩=false:=fH9 hx4 0;have f1:w4.frozen? ⟨w.heap.size,1,none⟩=false:=fH9 hx4 1;have f2:w4.frozen? ⟨w.heap.size,2,none⟩=false:=fH9 hx4 2;have f3:w4.frozen? ⟨w.heap.size,3,none⟩=false:=fH9 hx4 3;have q0:w4.cell? ⟨w.heap.size+1,0,none⟩=some (.bool false):=by rw[cH9 hy4];rfl
          have q1:w4.cell? ⟨w.heap.size+1,1,none⟩=some (.string ⟨#[]⟩):=by rw[cH9 hy4];rfl
          have q2:w4.cell? ⟨w.heap.size+1,2,none⟩=some (.slice none 0 0):=by rw[cH9 hy4];rfl
          have q3:w4.cell? ⟨w.heap.size+1,3,none⟩=some (.slice none 0 0):=by rw[cH9 hy4];rfl
          go_wp2_with fail;refine bodyPost_ret (v:=.tuple #[.agg #[.bool false,.string ⟨#[]⟩,.slice none 0 0,.slice none 0 0],.int .i64 1]) (by simp[results,Tryz.results34,go_sem,qd,p0,p1,p2,p3,World.cell?_setCell_other]) rfl ⟨.slice none 0 0,.slice none 0 0,?_,?_,?_,?_⟩
          · rw[HE.out];rfl
          · rw[HE.out];exact qj.nil
          · rw[HE.out];exact qa.nil _ ⟨none,0,rfl,nZ9 _⟩
          · exact hF4.own (((((Below.refl _ w4).setCell (p:=⟨w.heap.size,0,none⟩) (nR9 _) _).setCell (p:=⟨w.heap.size,1,none⟩) (nR9 _) _).setCell (p:=⟨w.heap.size,2,none⟩) (nR9 _) _).setCell (p:=⟨w.heap.size,3,none⟩) (nR9 _) _) hBw
        | true =>
          have HE:Hid (qA s=(t,0)):=by show _=_;rw[HP3.out];rfl
          clear HP3;have p0:w4.cell? ⟨w.heap.size,0,none⟩=some (.bool false):=by rw[cH9 hx4];rfl
          have p1:w4.cell? ⟨w.heap.size,1,none⟩=some (.string ⟨#[]⟩):=by rw[cH9 hx4];rfl
          have p2:w4.cell? ⟨w.heap.size,2,none⟩=some (.slice none 0 0):=by rw[cH9 hx4];rfl
          have p3:w4.cell? ⟨w.heap.size,3,none⟩=some (.slice none 0 0):=by rw[cH9 hx4];rfl
          have f0:w4.frozen? ⟨w.heap.size,0,none⟩=false:=fH9 hx4 0;have f1:w4.frozen? ⟨w.heap.size,1,none⟩=false:=fH9 hx4 1;have f2:w4.frozen? ⟨w.heap.size,2,none⟩=false:=fH9 hx4 2;have f3:w4.frozen? ⟨w.heap.size,3,none⟩=false:=fH9 hx4 3;have q0:w4.cell? ⟨w2.heap.size,0,none⟩=some (.bool t.text):=by rw[cH9 hv4];rfl
          have q1:w4.cell? ⟨w2.heap.size,1,none⟩=some (.string t.s):=by rw[cH9 hv4];rfl
          have q2:w4.cell? ⟨w2.heap.size,2,none⟩=some (.slice aa t.attrs.length ac):=by rw[cH9 hv4];rfl
          have q3:w4.cell? ⟨w2.heap.size,3,none⟩=some (.slice ka t.kids.length kc):=by rw[cH9 hv4];rfl
          go_wp2_with fail;refine bodyPost_ret (v:=.tuple #[.agg #[.bool t.text,.string t.s,.slice aa t.attrs.length ac,.slice ka t.kids.length kc],.int .i64 0]) (by simp[results,Tryz.results34,go_sem,qd,p0,p1,p2,p3,World.cell?_setCell_other]) rfl ⟨.slice aa t.attrs.length ac,.slice ka t.kids.length kc,?_,?_,?_,?_⟩
          · rw[HE.out]
          · rw[HE.out];exact ((((hA4.set (by omega)).set (by omega)).set (by omega)).set (by omega)).wider (by omega)
          · rw[HE.out];exact ((((hK4.set (by omega)).set (by omega)).set (by omega)).set (by omega)).wider (by omega)
          · exact hF4.own (((((Below.refl _ w4).setCell (p:=⟨w.heap.size,0,none⟩) (nR9 _) _).setCell (p:=⟨w.heap.size,1,none⟩) (nR9 _) _).setCell (p:=⟨w.heap.size,2,none⟩) (nR9 _) _).setCell (p:=⟨w.heap.size,3,none⟩) (nR9 _) _) hBw
set_option maxHeartbeats 1000000 in
theorem qbi (s:List UInt8)(w:World)(hM:qO w)(hs:s.length≤9223372036854775807) :
    Calls Tryz.prog 24 #[.string (qc s)] w fun e w' =>
      ∃ va vk, e = .returned (.tuple #[.agg #[.bool (qA s).1.text, .string (qA s).1.s, va, vk], .int .i64 (qA s).2]) ∧
        qj (fun b=>w.heap.size≤b) w' va (qA s).1.attrs∧qa (fun b=>w.heap.size≤b) w' s.length vk (qA s).1.kids∧Below w.heap.size w w':=by
  have hb1:Below w.heap.size w ((w.alloc (.cells #[.bool false,.string ⟨#[]⟩,.slice none 0 0,.slice none 0 0] 51)).alloc (.cells #[.string (qc s),.bool false] 90)):=(Below.alloc1 w _).alloc (by simp) _
  have hx1:((w.alloc (.cells #[.bool false,.string ⟨#[]⟩,.slice none 0 0,.slice none 0 0] 51)).alloc (.cells #[.string (qc s),.bool false] 90)).heap[w.heap.size]?=some (.cells #[.bool false,.string ⟨#[]⟩,.slice none 0 0,.slice none 0 0] 51 (0,0)):=by
    rw[Lib.alloc_old _ _ _ (by simp)];exact heap_alloc_new _ _
  have hR1:Rd w.heap.size (w.heap.size+1) ⟨s,false⟩ ((w.alloc (.cells #[.bool false,.string ⟨#[]⟩,.slice none 0 0,.slice none 0 0] 51)).alloc (.cells #[.string (qc s),.bool false] 90)):=by
    have e:=heap_alloc_new (w.alloc (.cells #[.bool false,.string ⟨#[]⟩,.slice none 0 0,.slice none 0 0] 51)) (.cells #[.string (qc s),.bool false] 90);rw[World.size_alloc]at e
    exact ⟨by omega,e⟩
  have hz1:((w.alloc (.cells #[.bool false,.string ⟨#[]⟩,.slice none 0 0,.slice none 0 0] 51)).alloc (.cells #[.string (qc s),.bool false] 90)).heap.size=w.heap.size+2:=by simp
  have HC:Hid _:=X3 s w.heap.size (w.heap.size+1) _ hR1 (hM.later hb1 hM.lt) hM.lt (by omega) hs
  have hz:=ql s;clear hM
  go_enter Tryz.func24,Tryz.ntmps24
  go_wp2_with fail;refine (Calls.mono HC.out ?_);rintro e w2 ⟨va,vk,rfl,hA2,hK2,k2⟩;have hx2:=k2.box hx1 (by omega)
  have hB2:Below w.heap.size w w2:=hb1.trans k2.below;rw[hz1]at hA2 hK2
  clear HC hx1 hR1 k2 hb1 hz1;obtain ⟨aa,ac,rfl⟩:=hA2.shape;obtain ⟨ka,kc,rfl,_,_⟩:=qa.shape s.length hK2;obtain ⟨t,ht⟩:∃ t,qA s=t:=⟨_,rfl⟩;rw[ht]at hA2 hK2 ⊢
  have HT:Hid (qA s=t):=ht;clear ht;have p0:w2.cell? ⟨w.heap.size,0,none⟩=some (.bool false):=by rw[cH9 hx2];rfl
  have p1:w2.cell? ⟨w.heap.size,1,none⟩=some (.string ⟨#[]⟩):=by rw[cH9 hx2];rfl
  have p2:w2.cell? ⟨w.heap.size,2,none⟩=some (.slice none 0 0):=by rw[cH9 hx2];rfl
  have p3:w2.cell? ⟨w.heap.size,3,none⟩=some (.slice none 0 0):=by rw[cH9 hx2];rfl
  have f0:w2.frozen? ⟨w.heap.size,0,none⟩=false:=fH9 hx2 0;have f1:w2.frozen? ⟨w.heap.size,1,none⟩=false:=fH9 hx2 1;have f2:w2.frozen? ⟨w.heap.size,2,none⟩=false:=fH9 hx2 2;have f3:w2.frozen? ⟨w.heap.size,3,none⟩=false:=fH9 hx2 3;go_wp2_with fail;refine bodyPost_ret (v:=.tuple #[.agg #[.bool t.1.text,.string t.1.s,.slice aa t.1.attrs.length ac,.slice ka t.1.kids.length kc],.int .i64 t.2]) (by simp[results,Tryz.results24,go_sem,qd,p0,p1,p2,p3,World.cell?_setCell_other]) rfl ⟨.slice aa t.1.attrs.length ac,.slice ka t.1.kids.length kc,by rw[HT.out],?_,?_,?_⟩
  · rw[HT.out];exact ((((hA2.set (by omega)).set (by omega)).set (by omega)).set (by omega)).wider (by omega)
  · rw[HT.out];exact ((((hK2.set (by omega)).set (by omega)).set (by omega)).set (by omega)).wider (by omega)
  · exact hB2.trans (((((Below.refl _ w2).setCell (p:=⟨w.heap.size,0,none⟩) (nR9 _) _).setCell (p:=⟨w.heap.size,1,none⟩) (nR9 _) _).setCell (p:=⟨w.heap.size,2,none⟩) (nR9 _) _).setCell (p:=⟨w.heap.size,3,none⟩) (nR9 _) _)
end
section
attribute [local go_sem] qd
end
end Go.Proofs.YtchkbffgancidaaGreatDoor
