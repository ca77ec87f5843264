/- Bundled: ParseC TextW BndD RefSize PrintT Print. What each says stands ahead of it. -/
import Derived.Test.YtfplhcicbbhljaaGreatDoorBundle17
namespace Go.Proofs.YtfplhcicbbhljaaGreatDoor
open Go.ChangeShapes Go.WideShapes Go.ChangeAt Go.RowKit
set_option maxRecDepth 100000
section
attribute [local go_sem] qd
set_option maxHeartbeats 2000000 in
theorem XK (s:List UInt8)(B rb:Nat)(w:World)(h:Rd B rb ⟨s,false⟩ w)(hM:zn w)(hgB:2<B)(hBw:B≤w.heap.size)(hs:s.length≤9223372036854775807) :
 Calls Tryz.prog 52 #[.pointer (some ⟨rb,0,none⟩),.func (.func 53) #[.pointer (some ⟨rb,0,none⟩)] #[],.func (.func 54) #[] #[]] w fun e w' =>
  ∃ v,e=.returned (.tuple #[v,.int .i64 (zp s).2])∧qb (fun b=>w.heap.size≤b) w' (s.length+1) v (zp s).1∧RFr B rb w w':=by
 have HP:Hid (zp s=if 2500<s.length then ([],2) else if (treesF (s.length+1) ⟨s,false⟩).2.wrong||decide ((treesF (s.length+1) ⟨s,false⟩).2.rest≠[])||!qF (treesF (s.length+1) ⟨s,false⟩).1 then ([],1) else ((treesF (s.length+1) ⟨s,false⟩).1,0)):=rfl
 have hrb:=h.lt;have c0:w.cell? ⟨rb,0,none⟩=some (.string (qa s)):=h.c0;have hz:=qe s
 go_enter Tryz.func52,Tryz.ntmps52
 by_cases hlong:2500<s.length
 · have HE : Hid (zp s = ([], 2)) := by show _ = _;rw[HP.out, if_pos hlong]
   have hli:(2500:Int)<(s.length:Int):=by omega
   clear HP hM h;go_wp2_with fail
   go_ret2
   exact ⟨.slice none 0 0,by rw[HE.out];rfl,by rw[HE.out];exact qb.nil _ ⟨none,0,rfl,nZ9 _⟩,RFr.refl _ _ _⟩
 · have HP2 : Hid (zp s = if (treesF (s.length + 1) ⟨s, false⟩).2.wrong || decide ((treesF (s.length + 1) ⟨s, false⟩).2.rest ≠ []) || !qF (treesF (s.length + 1) ⟨s, false⟩).1 then ([], 1) else ((treesF (s.length + 1) ⟨s, false⟩).1, 0)) := by show _ = _;rw[HP.out, if_neg hlong]
   have hli:¬ (2500:Int)<(s.length:Int):=by omega
   have hln:s.length≤2500:=by omega
   have HC:Hid _:=qcQ (s.length+1) B rb ⟨s,false⟩ w h hM hgB hBw (by show s.length≤_;omega) (by show s.length<_;omega)
   clear HP hlong h hM;go_wp2_with fail;refine (Calls.mono HC.out ?_);rintro e w2 ⟨v,rfl,hK2,hR2,k2⟩;obtain ⟨ka,kc,rfl,_,_⟩:=qb.shape (s.length+1) hK2;have HTX:Hid (TextsN (s.length+1) (treesF (s.length+1) ⟨s,false⟩).1):=jM.texts (M:=2501) (by unfold maxLen;omega) _ _ (Kp 2500 (s.length+1) _ hln)
   obtain ⟨p,hp⟩:∃ p,treesF (s.length+1) ⟨s,false⟩=p:=⟨_,rfl⟩;rw[hp]at HP2 hK2 hR2 HTX ⊢
   clear hp HC c0;obtain ⟨l,r2⟩:=p;simp only at HP2 hK2 hR2 HTX ⊢
   have d0:=hR2.c0;have d1:=hR2.c1;have hem:=xP r2.rest;have HG:Hid _:=Qw _ (s.length+1) _ l _ hK2 HTX.out;have hsz2:=k2.below.size;clear hR2 HTX;obtain ⟨q,hq⟩:∃ q,r2.wrong=q:=⟨_,rfl⟩;rw[hq]at HP2 d1
   clear hq;cases q with
   | true =>
     have HE:Hid (zp s=([],1)):=by show _=_;rw[HP2.out];rfl
     clear HP2 HG;go_wp2_with fail
     go_ret2
     exact ⟨.slice none 0 0,by rw[HE.out];rfl,by rw[HE.out];exact qb.nil _ ⟨none,0,rfl,nZ9 _⟩,k2⟩
   | false =>
     cases hr:r2.rest with
     | cons c m =>
       have HE:Hid (zp s=([],1)):=by show _=_;rw[HP2.out,hr];rfl
       rw[hr]at hem d0
       simp only[List.isEmpty_cons]at hem
       clear HP2 HG hr;go_wp2_with fail
       go_ret2
       exact ⟨.slice none 0 0,by rw[HE.out];rfl,by rw[HE.out];exact qb.nil _ ⟨none,0,rfl,nZ9 _⟩,k2⟩
     | nil =>
       have HP3:Hid (zp s=if !qF l then ([],1) else (l,0)):=by show _=_;rw[HP2.out,hr];rfl
       rw[hr]at hem d0
       simp only[List.isEmpty_nil]at hem
       clear HP2 hr;go_wp2_with fail;refine (Calls.mono HG.out ?_);rintro e w4 ⟨rfl,hb4⟩;have hK4:=qb.later hb4 (s.length+1) hK2;have hF4:RFr B rb w w4:=k2.own (hb4.mono (by omega)) hBw
       clear HG hK2 d0 d1;obtain ⟨q,hq⟩:∃ q,qF l=q:=⟨_,rfl⟩;rw[hq]at HP3 ⊢
       clear hq;cases q with
       | false =>
         have HE:Hid (zp s=([],1)):=by show _=_;rw[HP3.out];rfl
         clear HP3;go_wp2_with fail
         go_ret2
         exact ⟨.slice none 0 0,by rw[HE.out];rfl,by rw[HE.out];exact qb.nil _ ⟨none,0,rfl,nZ9 _⟩,hF4⟩
       | true =>
         have HE:Hid (zp s=(l,0)):=by show _=_;rw[HP3.out];rfl
         clear HP3;go_wp2_with fail
         go_ret2
         exact ⟨.slice ka l.length kc,by rw[HE.out];rfl,by rw[HE.out];exact hK4,hF4⟩
set_option maxHeartbeats 1000000 in
theorem yI (s:List UInt8)(w:World)(hM:zn w)(hs:s.length≤9223372036854775807) :
 Calls Tryz.prog 28 #[.string (qa s)] w fun e w'=>∃ v,e=.returned (.tuple #[v,.int .i64 (zp s).2])∧qb (fun b=>w.heap.size≤b) w' (s.length+1) v (zp s).1∧Below w.heap.size w w':=by
 have hb1:=Below.alloc1 w (.cells #[.string (qa s),.bool false] 101);have hR1:Rd w.heap.size w.heap.size ⟨s,false⟩ (w.alloc (.cells #[.string (qa s),.bool false] 101)):=⟨nR9 _,heap_alloc_new _ _⟩;have HC:Hid _:=XK s w.heap.size w.heap.size _ hR1 (hM.later hb1 hM.lt) hM.lt hb1.size hs;have hz:=qe s;clear hM
 go_enter Tryz.func28,Tryz.ntmps28
 go_wp2_with fail;refine (Calls.mono HC.out ?_);rintro e w2 ⟨v,rfl,hK2,k2⟩;have hB2:Below w.heap.size w w2:=hb1.trans k2.below;obtain ⟨ka,kc,rfl,_,_⟩:=qb.shape (s.length+1) hK2;go_wp2_with fail
 go_ret2
 exact ⟨_,rfl,hK2.wider hb1.size,hB2⟩
end
section
attribute [local go_sem] qd
def yg (s:List UInt8):List UInt8 × Int :=
 if 2500<s.length then ([],2) else if ((⟨s,false⟩:Rs).text textEnds).2.wrong||decide (((⟨s,false⟩:Rs).text textEnds).2.rest≠[])||!qN (qa ((⟨s,false⟩:Rs).text textEnds).1) then ([],1) else (((⟨s,false⟩:Rs).text textEnds).1,0)
set_option maxHeartbeats 1000000 in
theorem Ku (s:List UInt8)(B rb:Nat)(w:World)(h:Rd B rb ⟨s,false⟩ w)(hM:zn w)(hgB:2<B)(hBw:B≤w.heap.size)(hs:s.length≤9223372036854775807) :
 Calls Tryz.prog 55 #[.pointer (some ⟨rb,0,none⟩),.func (.func 56) #[.pointer (some ⟨rb,0,none⟩)] #[],.func (.func 57) #[] #[]] w fun e w' =>
  e=.returned (.tuple #[.string (qa (yg s).1),.int .i64 (yg s).2])∧RFr B rb w w':=by
 have HP:Hid (yg s=if 2500<s.length then ([],2) else if ((⟨s,false⟩:Rs).text textEnds).2.wrong||decide (((⟨s,false⟩:Rs).text textEnds).2.rest≠[])||!qN (qa ((⟨s,false⟩:Rs).text textEnds).1) then ([],1) else (((⟨s,false⟩:Rs).text textEnds).1,0)):=rfl
 have hrb:=h.lt;have c0:w.cell? ⟨rb,0,none⟩=some (.string (qa s)):=h.c0;have hz:=qe s;have hn:qa []=⟨#[]⟩:=rfl;have HN:Hid _:=hn;clear hn
 go_enter Tryz.func55,Tryz.ntmps55
 by_cases hlong:2500<s.length
 · have HE : Hid (yg s = ([], 2)) := by show _ = _;rw[HP.out, if_pos hlong]
   have hli:(2500:Int)<(s.length:Int):=by omega
   clear HP hM h;go_wp2_with fail
   go_ret2
   exact ⟨by rw[HE.out,HN.out];rfl,RFr.refl _ _ _⟩
 · have HP2 : Hid (yg s = if ((⟨s, false⟩ : Rs).text textEnds).2.wrong || decide (((⟨s, false⟩ : Rs).text textEnds).2.rest ≠ []) || !qN (qa ((⟨s, false⟩ : Rs).text textEnds).1) then ([], 1) else (((⟨s, false⟩ : Rs).text textEnds).1, 0)) := by show _ = _;rw[HP.out, if_neg hlong]
   have hli:¬ (2500:Int)<(s.length:Int):=by omega
   have hln:s.length≤2500:=by omega
   have HC:Hid _:=Xx B rb ⟨s,false⟩ w h hM hgB hBw (by show s.length≤_;omega)
   have hlen:((⟨s,false⟩:Rs).text textEnds).1.length≤2501:=Nat.le_trans (Xo textEnds _ _) (by unfold Rs.left;simp;omega)
   clear HP hlong h hM;go_wp2_with fail;refine (Calls.mono HC.out ?_);rintro e w2 ⟨rfl,hR2,k2⟩;obtain ⟨p,hp⟩:∃ p,(⟨s,false⟩:Rs).text textEnds=p:=⟨_,rfl⟩;rw[hp]at HP2 hR2 hlen ⊢
   clear hp HC c0;obtain ⟨t,r2⟩:=p;simp only at HP2 hR2 hlen ⊢
   have d0:=hR2.c0;have d1:=hR2.c1;have hem:=xP r2.rest;have hzt:=qe t;have HG:Hid (∀ W,Calls Tryz.prog 57 #[.string (qa t)] W fun e w'=>e=.returned (.bool (qN (qa t)))∧w'=W):=fun W=>yp (qa t) W (by rw[hzt];unfold maxLen;omega)
   clear hR2;obtain ⟨q,hq⟩:∃ q,r2.wrong=q:=⟨_,rfl⟩;rw[hq]at HP2 d1
   clear hq;cases q with
   | true =>
     have HE:Hid (yg s=([],1)):=by show _=_;rw[HP2.out];rfl
     clear HP2 HG;go_wp2_with fail
     go_ret2
     exact ⟨by rw[HE.out,HN.out];rfl,k2⟩
   | false =>
     cases hr:r2.rest with
     | cons c m =>
       have HE:Hid (yg s=([],1)):=by show _=_;rw[HP2.out,hr];rfl
       rw[hr]at hem d0
       simp only[List.isEmpty_cons]at hem
       clear HP2 HG hr;go_wp2_with fail
       go_ret2
       exact ⟨by rw[HE.out,HN.out];rfl,k2⟩
     | nil =>
       have HP3:Hid (yg s=if !qN (qa t) then ([],1) else (t,0)):=by show _=_;rw[HP2.out,hr];rfl
       rw[hr]at hem d0
       simp only[List.isEmpty_nil]at hem
       clear HP2 hr;go_wp2_with fail;refine (Calls.mono (HG.out _) ?_);rintro e w4 ⟨rfl,rfl⟩;clear HG d0 d1;obtain ⟨q,hq⟩:∃ q,qN (qa t)=q:=⟨_,rfl⟩;rw[hq]at HP3 ⊢
       clear hq;cases q with
       | false =>
         have HE:Hid (yg s=([],1)):=by show _=_;rw[HP3.out];rfl
         clear HP3;go_wp2_with fail
         go_ret2
         exact ⟨by rw[HE.out,HN.out];rfl,k2⟩
       | true =>
         have HE:Hid (yg s=(t,0)):=by show _=_;rw[HP3.out];rfl
         clear HP3;go_wp2_with fail
         go_ret2
         exact ⟨by rw[HE.out];rfl,k2⟩
set_option maxHeartbeats 1000000 in
theorem Jv (s:List UInt8)(w:World)(hM:zn w)(hs:s.length≤9223372036854775807) :
 Calls Tryz.prog 29 #[.string (qa s)] w fun e w'=>e=.returned (.tuple #[.string (qa (yg s).1),.int .i64 (yg s).2])∧Below w.heap.size w w':=by
 have hb1:=Below.alloc1 w (.cells #[.string (qa s),.bool false] 101);have hR1:Rd w.heap.size w.heap.size ⟨s,false⟩ (w.alloc (.cells #[.string (qa s),.bool false] 101)):=⟨nR9 _,heap_alloc_new _ _⟩;have HC:Hid _:=Ku s w.heap.size w.heap.size _ hR1 (hM.later hb1 hM.lt) hM.lt hb1.size hs;have hz:=qe s;clear hM
 go_enter Tryz.func29,Tryz.ntmps29
 go_wp2_with fail;refine (Calls.mono HC.out ?_);rintro e w2 ⟨rfl,k2⟩;have hB2:Below w.heap.size w w2:=hb1.trans k2.below;go_wp2_with fail
 go_ret2
 exact ⟨rfl,hB2⟩
end
end Go.Proofs.YtfplhcicbbhljaaGreatDoor
namespace Go.Proofs.YtfplhcicbbhljaaGreatDoor
open Go.RowKit
set_option maxRecDepth 100000
theorem Zb (v:Bool):∀ (f:Nat)(s x:List UInt8),zt v f s=some x→x.length≤s.length:=by
 intro f
 induction f with
 | zero=>intro s x h;cases h
 | succ f ih =>
   intro s x h;cases s with
   | nil=>injection h with h;subst h;exact nR9 _
   | cons c t =>
     rw[zt]at h
     by_cases hc:c=38
     · rw[if_pos hc]at h
       cases hw:yl t with
       | none=>rw[hw]at h;cases h
       | some p =>
         obtain ⟨y,r⟩:=p;rw[hw]at h
         simp only at h
         cases hm:zt v f r with
         | none=>rw[hm]at h;cases h
         | some z =>
           rw[hm]at h
           injection h with h
           subst h;have:=(jA hw).1;have:=ih r z hm;simp only[List.length_cons];omega
     · rw[if_neg hc]at h
       split at h
       · cases h
       · cases hm : zt v f t with
         | none=>rw[hm]at h;cases h
         | some z =>
           rw[hm]at h
           injection h with h
           subst h;have:=ih t z hm;simp only[List.length_cons];omega
theorem attrsL_len:∀ (f:Nat)(m:List UInt8)(L:List (List UInt8 × List UInt8)),attrsL f m=some L→∀ a∈L,a.1.length≤m.length∧a.2.length≤m.length:=by
 intro f
 induction f with
 | zero=>intro m L h;cases h
 | succ f ih =>
   intro m L h;rw[attrsL]at h
   split at h
   · injection h with h;subst h;intro a ha;cases ha
   · split at h
     · cases h
     · split at h
       · cases h
       · split at h
         · rename_i after hd
           split at h
           · cases h
           · rename_i x next hq
             split at h
             · cases h
             · rename_i vv hv
               have a1:=q6 qg (m.dropWhile qo);have a2:=q6 qo m;have a3:=q6 zC after;have a4:=(List.takeWhile_prefix (l:=m.dropWhile qo) qg).length_le;have a5:=(List.takeWhile_prefix (l:=after) zC).length_le;have a6:=Zb true _ _ _ hv;rw[hd]at a1
               rw[hq]at a3
               simp only[List.length_cons]at a1 a3
               cases hm:attrsL f next with
               | none=>rw[hm]at h;cases h
               | some L' =>
                 rw[hm]at h
                 injection h with h
                 subst h;intro a ha;rw[List.mem_cons]at ha
                 rcases ha with rfl|ha
                 · exact ⟨by simp only;omega,by simp only;omega⟩
                 · have := ih next L' hm a ha;omega
         · cases h
theorem cnt_mono:∀ (n:Nat)(ts:List Tr),cnt n ts≤cnt (n+1) ts:=by
 intro n
 induction n with
 | zero=>intro ts;exact nZ9 _
 | succ n ih =>
   intro ts
   induction ts with
   | nil=>rw[qR,qR];exact nR9 _
   | cons t r ihr =>
     rw[q5,q5];have:=ih t.kids;omega
def VR (n:Nat):List Tr→Nat
 | []=>0
 | t::r=>1+cnt (n+1) t.kids+VR n r
theorem KO (n:Nat)(t:Tr)(h:t.kids=[]):cnt (n+1) [t]=1:=by
 rw[q5,h,qR,qR]
def Tx (t:Tr):Prop:=t.s.size≤maxLen∧(∀ x∈t.attrs,x.1.size≤maxLen∧x.2.size≤maxLen)∧∀ n,TexN n t.kids
theorem Kn {l:List Tr}{k:Tr}(hl:∀ n,TexN n l)(hk:Tx k):∀ n,TexN n (l++[k]):=by
 intro n;cases n with
 | zero=>trivial
 | succ n =>
   intro t ht;rw[List.mem_append,List.mem_singleton]at ht
   rcases ht with ht|rfl
   · exact hl (n+1) t ht
   · exact ⟨hk.1,hk.2.1,hk.2.2 n⟩
theorem tex_nil:∀ n,TexN n []:=by
 intro n;cases n with
 | zero=>trivial
 | succ n=>intro t ht;cases ht
theorem xL (l:List UInt8)(h:l.length≤1048576):(qa l).size≤maxLen:=by
 rw[qe];unfold maxLen;omega
theorem Vt {st st':List Tr}{m:List UInt8}(h:yJ st m=some st')(hm:m.length≤1048576)(n:Nat)(hx:∀ t∈st,Tx t):VR n st'≤VR n st+1∧∀ t∈st',Tx t:=by
 unfold yJ at h
 split at h
 · cases h
 · rename_i nm L e hb
   have hE:Tx ⟨false,qa nm,asB (qW L),[]⟩:=by
    unfold yq at hb
    have hl:(if decide (m.getLast?=some 47) then m.dropLast else m).length≤m.length:=by
     split
     · rw[List.length_dropLast];omega
     · exact nR9 _
    generalize (if decide (m.getLast?=some 47) then m.dropLast else m)=u at *
    split at hb
    · cases hb
    · split at hb
      · cases hb
      · rename_i L' hL
        injection hb with hb
        injection hb with h1 h2
        injection h2 with h2 _
        subst h1 h2;have a1:=(List.takeWhile_prefix (l:=u) qg).length_le;have a2:=q6 qg u;refine ⟨xL _ (by omega),fun x hx=>?_,tex_nil⟩
        unfold asB at hx
        rw[List.mem_map]at hx
        obtain ⟨a,ha,rfl⟩:=hx;have:=attrsL_len _ _ _ hL a ((jZ L').mem_iff.1 ha);exact ⟨xL _ (by omega),xL _ (by omega)⟩
   split at h
   · cases h
   · cases st with
     | nil=>cases h
     | cons T st =>
       simp only at h
       split at h
       · injection h with h
         subst h;refine ⟨?_,fun t ht=>?_⟩
         · show 1 + cnt (n + 1) (T.kids ++ [_]) + _ ≤ 1 + cnt (n + 1) T.kids + _ + 1
           rw[zd,KO n _ rfl];omega
         · rw[List.mem_cons]at ht
           rcases ht with rfl|ht
           · have hT := hx T (List.mem_cons_self ..);exact ⟨hT.1,hT.2.1,Kn hT.2.2 hE⟩
           · exact hx t (List.mem_cons_of_mem _ ht)
       · injection h with h
         subst h;refine ⟨?_,fun t ht=>?_⟩
         · show 1 + cnt (n + 1) [] + _ ≤ _
           rw[qR];omega
         · rw[List.mem_cons]at ht
           rcases ht with rfl|ht
           · exact hE
           · exact hx t ht
theorem qcr {st st':List Tr}{p:List UInt8}(h:QH st p=some st')(hp:p.length≤1048576)(n:Nat)(hx:∀ t∈st,Tx t):VR n st'≤VR n st+1∧∀ t∈st',Tx t:=by
 unfold QH at h
 split at h
 · cases h
 · rename_i c u
   simp only[List.length_cons]at hp
   split at h
   · unfold zG at h
     split at h
     · exact Vt h (by simp) n hx
     · rename_i d v hv
       have hl:(d::v).length≤1048576:=by rw[←hv,List.length_dropLast];omega
       split at h
       · unfold xE at h
         split at h
         · rename_i T T2 st
           split at h
           · injection h with h
             subst h;refine ⟨?_,fun t ht=>?_⟩
             · show 1 + cnt (n + 1) (T2.kids ++ [T]) + _ ≤ 1 + cnt (n + 1) T.kids + (1 + cnt (n + 1) T2.kids + _) + 1
               rw[zd,q5 n T [],qR];have:=cnt_mono n T.kids;omega
             · rw[List.mem_cons]at ht
               rcases ht with rfl|ht
               · have hT2 := hx T2 (List.mem_cons_of_mem _ (List.mem_cons_self ..));exact ⟨hT2.1,hT2.2.1,Kn hT2.2.2 (hx T (List.mem_cons_self ..))⟩
               · exact hx t (List.mem_cons_of_mem _ (List.mem_cons_of_mem _ ht))
           · cases h
         · cases h
       · exact Vt h hl n hx
   · unfold yB at h
     split at h
     · cases h
     · rename_i v hv
       have hl:=Zb false _ _ _ hv;simp only[List.length_cons]at hl
       split at h
       · cases h
       · rename_i T st
         injection h with h
         subst h;refine ⟨?_,fun t ht=>?_⟩
         · show 1 + cnt (n + 1) (T.kids ++ [_]) + _ ≤ 1 + cnt (n + 1) T.kids + _ + 1
           rw[zd,KO n _ rfl];omega
         · rw[List.mem_cons]at ht
           rcases ht with rfl|ht
           · have hT := hx T (List.mem_cons_self ..);exact ⟨hT.1,hT.2.1,Kn hT.2.2 ⟨xL _ (by omega),fun x hx=>(by cases hx),tex_nil⟩⟩
           · exact hx t (List.mem_cons_of_mem _ ht)
theorem qdq (n:Nat):∀ (ps:List (List UInt8))(st st':List Tr),foldD st ps=some st'→(∀ p∈ps,p.length≤1048576)→(∀ t∈st,Tx t)→VR n st'≤VR n st+ps.length∧∀ t∈st',Tx t:=by
 intro ps
 induction ps with
 | nil=>intro st st' h _ hx;injection h with h;subst h;exact ⟨nR9 _,hx⟩
 | cons p ps ih =>
   intro st st' h hp hx;rw[foldD]at h
   cases hq:QH st p with
   | none=>rw[hq]at h;cases h
   | some s1 =>
     rw[hq]at h
     obtain ⟨h1,h2⟩:=qcr hq (hp p (List.mem_cons_self ..)) n hx;obtain ⟨h3,h4⟩:=ih s1 st' h (fun q hq=>hp q (List.mem_cons_of_mem _ hq)) h2
     exact ⟨by simp only[List.length_cons];omega,h4⟩
theorem qak {s:List UInt8}{l:List Tr}(h:ze s=some l)(hs:s.length≤1048576):(∀ n,cnt (n+1) l≤1048576)∧∀ n,TexN n l:=by
 unfold ze at h
 split at h
 · rename_i F hr
   injection h with h
   subst h;rw[Qf]at hr
   cases hp:qT s with
   | none=>rw[hp]at hr;cases hr
   | some ps =>
     rw[hp]at hr
     obtain ⟨hok,hpl⟩:=pieces_ok _ _ _ hp
     have hx:∀ t∈[zeroT],Tx t:=fun t ht=>by
      rw[List.mem_singleton]at ht
      subst ht;exact ⟨nZ9 _,fun x hx=>(by cases hx),tex_nil⟩
     have key:=fun n=>qdq n ps [zeroT] [F] hr (fun p hq=>Nat.le_trans (hok p hq).1 hs) hx
     refine ⟨fun n=>?_,fun n=>((key 0).2 F (List.mem_singleton.2 rfl)).2.2 n⟩
     have:=(key n).1;simp only[VR,zeroT,qR]at this
     omega
 · cases h
def jj (s:List UInt8):List UInt8 × Int :=
 if 2500<s.length then ([],2) else if (zh false s).2&&qN (qa (zh false s).1) then ((zh false s).1,0) else ([],1)
theorem Jw (s:List UInt8):yg s=jj s:=by
 unfold yg jj
 by_cases hl:2500<s.length
 · rw[if_pos hl,if_pos hl]
 · rw[if_neg hl, if_neg hl];have he:textEnds=qE false:=rfl;rw[he];have key:=xe false (s.length+1) s;unfold zh zu
   generalize hq:(⟨s,false⟩:Rs).text (qE false)=q at *
   obtain ⟨out,r⟩:=q;simp only at *
   cases hm:zt false (s.length+1) s with
   | some x =>
     obtain ⟨h1,h2⟩:=(key x (Nat.lt_succ_self _)).1 hm
     injection h1 with h1 h3
     subst h1 h3;simp only[Bool.true_and];cases qN (qa out)<;>simp
   | none =>
     simp only[Bool.false_and,Bool.false_eq_true,if_false]
     by_cases hw:(r.wrong||decide (r.rest≠[])||!qN (qa out))=true
     · rw[if_pos hw]
     · exfalso
       have hw':(r.wrong||decide (r.rest≠[])||!qN (qa out))=false:=by simpa using hw
       rw[Bool.or_eq_false_iff]at hw'
       have hr:=qdY hw'.1;subst hr;have hp:qN (qa out)=true:=by simpa using hw'.2
       have hs:out.all sign=true:=by
        simp only[qN,Bool.and_eq_true]at hp
        simpa[qa] using hp.2
       have:=(key out (Nat.lt_succ_self _)).2 ⟨rfl,hs⟩;rw[hm]at this
       cases this
end Go.Proofs.YtfplhcicbbhljaaGreatDoor
namespace Go.Proofs.YtfplhcicbbhljaaGreatDoor
open Go.ChangeShapes Go.WideShapes Go.ChangeAt Go.RowKit
set_option maxRecDepth 100000
theorem qb.pred {S:Nat→Prop}{w:World}{m:Nat}{v:Value}{ts:List Tr}(h:qb S w m v ts):qb S w (m.pred+1) v ts:=by
 cases m with
 | zero=>exact qb.deeper 0 h
 | succ m=>exact h
theorem qb.back {S:Nat→Prop}{w:World}{m:Nat}{v:Value}{ts:List Tr}(h:qb S w (m.pred+1) v ts)(hd:Deep m ts):qb S w m v ts:=by
 cases m with
 | zero =>
   have:ts=[]:=hd;subst this;obtain ⟨a,c,e,_,hc⟩:=qb.shape 1 h;exact ⟨rfl,a,c,e,hc⟩
 | succ m=>exact h
theorem qa2 (S:Nat→Prop)(n:Nat)(va vk:Value)(t:Tr)(w:World)(h:qm S w va t.attrs)(hk:qb S w n vk t.kids)(hc:cnt (n+1) [t]≤1048576) :
 Calls Tryz.prog 70 #[.agg #[.bool t.text,.string t.s,va,vk]] w fun e w'=>e=.returned (.tuple #[.int .i64 (dep (n+1) [t]:Int),.int .i64 (cnt (n+1) [t]:Int)])∧Below w.heap.size w w':=by
 obtain ⟨aa,ac,rfl⟩:=h.shape;obtain ⟨ka,kc,rfl,_,_⟩:=qb.shape n hk;have hb:∀ X Y,Below w.heap.size w ((w.alloc X).alloc Y):=fun X Y=>(Below.alloc1 w X).alloc (by simp) Y
 have hT:qb (fun _=>True) ((w.alloc (.cells #[.bool t.text,.string t.s,.slice aa t.attrs.length ac,.slice ka t.kids.length kc] 79)).alloc (.cells #[.bool t.text,.string t.s,.slice aa t.attrs.length ac,.slice ka t.kids.length kc] 79)) (n+1) (.slice (some ⟨w.heap.size+1,0,none⟩) 1 1) [t]:=by
  refine qb.carry (fun b _=>⟨trivial,rfl⟩) (n+1) (qb.of_block (S:=S) (e:=79) (fz:=(0,0)) (qs:=[(t.text,t.s,.slice aa t.attrs.length ac,.slice ka t.kids.length kc)]) ?_ rfl rfl rfl (nR9 _) (by unfold maxLen;simp) ?_)
  · have := heap_alloc_new (w.alloc (.cells #[.bool t.text, .string t.s, .slice aa t.attrs.length ac, .slice ka t.kids.length kc] 79)) (.cells #[.bool t.text, .string t.s, .slice aa t.attrs.length ac, .slice ka t.kids.length kc] 79);rw[World.size_alloc]at this
    exact this
  · intro i q t' hq ht';cases i with
    | zero =>
      simp at hq ht'
      subst hq ht';exact ⟨rfl,rfl,h.later (hb _ _),qb.later (hb _ _) n hk⟩
    | succ i=>simp at ht'
 have HT:Hid _:=hT;have HB:Hid (∀ X Y,Below w.heap.size w ((w.alloc X).alloc Y)):=hb;clear hT hb h hk;obtain ⟨D,hD⟩:∃ D,dep (n+1) [t]=D:=⟨_,rfl⟩;obtain ⟨C,hC⟩:∃ C,cnt (n+1) [t]=C:=⟨_,rfl⟩;rw[hD,hC];rw[hC]at hc
 have HD:Hid (dep (n+1) [t]=D):=hD;have HC:Hid (cnt (n+1) [t]=C):=hC;clear hD hC;have hDC:D≤1048576:=by have:=dep_cnt (n+1) [t];rw[HD.out,HC.out]at this;omega
 go_enter Tryz.func70,Tryz.ntmps70
 go_wp2_with fail
 go_loopg [4,5,6] (n+1) (fun g d c v wr=>∃ (dd cc:Nat) (lv:List Tr),d=.int .i64 (dd:Int)∧c=.int .i64 (cc:Int)∧qb (fun _=>True) wr g v lv∧dd+dep g lv=D∧cc+cnt g lv=C∧Below w.heap.size w wr)
 case atStart => exact ⟨0,0,[t],rfl,rfl,HT,by rw[HD.out];omega,by rw[HC.out];omega,HB _ _⟩
 case round =>
  obtain ⟨dd,cc,lv,rfl,rfl,hlv,hd,hcn,hB⟩:=hrel;have hsz:=hB.size
  by_cases hne:lv=[]
  · subst hne;rw[yN]at hd
    rw[qR]at hcn
    obtain ⟨la,lc,rfl,_,_⟩:=qb.shape _ hlv;have hd':dd=D:=by omega
    have hc':cc=C:=by omega
    subst hd' hc';clear hlv HT HD HC;simp only[List.length_nil];go_wp2_with fail
    go_ret2
    exact ⟨rfl,hB⟩
  · cases gk with
    | zero=>exact absurd hlv.1 hne
    | succ m =>
      obtain ⟨wo,hwo⟩:∃ x,x=wr:=⟨_,rfl⟩;subst hwo;rw[qaa m lv hne]at hd
      rw[YN m lv]at hcn
      have hdeep:Deep m (nx lv):=(qb.deep (m+1) hlv).nx;have hlen:=hdeep.len;have HDp:Hid (Deep m (nx lv)):=hdeep;have hlv':=qb.bounded (m+1) hlv;obtain ⟨la,lc,rfl,hlc,hlm⟩:=qb.shape _ hlv;obtain ⟨_,_,hve,_,_,h4⟩:=hlv';have hl0:0<lv.length:=List.length_pos_iff.2 hne;obtain ⟨b,o,hao,hs,hcc⟩:=h4 hne
      injection hve with e1 e2 e3
      subst e1;subst hao;have Hd:Hid (dd+(1+dep m (nx lv))=D):=hd;have Hc:Hid (cc+(lv.length+cnt m (nx lv))=C):=hcn;have HCC:Hid _:=hcc;have hcb:cc+lv.length≤1048576:=by omega
      have hdb:dd≤1048576:=by omega
      have hnb:(nx lv).length≤1048576:=by omega
      clear hdeep h4 e2 hd hcn hcc hlen hs e3 HT HD HC hlv;unfold maxLen at hlm
      go_wp2_with fail
      go_loopg [7,23] lv.length (fun g v i wr=>∃ (k:Nat) (qs:List (Bool × ByteArray × Value × Value)),k+g=lv.length∧i=.int .i64 k∧yh (fun b=>b<wo.heap.size) m.pred wo.heap.size wr v (nx (lv.take k)) qs∧Below wo.heap.size wo wr)
      case atStart => exact ⟨0,[],by omega,rfl,yh.nil _ _ _ _,Below.refl _ _⟩
      case round =>
       obtain ⟨k,qs,hk,rfl,hG,hBq⟩:=hrel;have hszq:=hBq.size
       by_cases hlt:k<lv.length
       · obtain ⟨x, hx⟩ : ∃ x, lv[k]? = some x := ⟨lv[k], by simp[hlt]⟩
         obtain ⟨va,vk,c0,c1,c2,c3,hat,hkt⟩:=HCC.out k x hx;obtain ⟨xa,xc,rfl⟩:=hat.shape;obtain ⟨ya,yc,rfl,_,_⟩:=qb.shape m hkt;have hbl:b<wo.heap.size:=World.block_lt_of_cell? wo _ c0;rw[←hBq.cell (p:=⟨b,o+k*4,none⟩) hbl]at c0
         rw[←hBq.cell (p:=⟨b,o+k*4+1,none⟩) hbl]at c1
         rw[←hBq.cell (p:=⟨b,o+k*4+2,none⟩) hbl]at c2
         rw[←hBq.cell (p:=⟨b,o+k*4+3,none⟩) hbl]at c3
         have hsn:nx (lv.take (k+1))=nx (lv.take k)++x.kids:=by
          have e:lv.take (k+1)=lv.take k++[x]:=by
           rw[List.take_succ_eq_append_getElem hlt];congr 2;simpa[hlt] using hx
          rw[e,xT,Qd,nx_nil,List.append_nil]
         have HS:Hid (nx (lv.take (k+1))=nx (lv.take k)++x.kids):=hsn
         have hle:(nx (lv.take k)++x.kids).length≤1048576:=by
          rw[←hsn];have e:nx lv=nx (lv.take (k+1))++nx (lv.drop (k+1)):=by rw[←xT,List.take_append_drop]
          rw[e,List.length_append]at hnb
          omega
         rw[List.length_append]at hle
         have hblq:b<wr.heap.size:=by omega
         have hG1:=hG.later (Below.alloc1 wr (.cells #[.bool x.text,.string x.s,.slice xa x.attrs.length xc,.slice ya x.kids.length yc] 79));have hB1:Below wo.heap.size wo (wr.alloc (.cells #[.bool x.text,.string x.s,.slice xa x.attrs.length xc,.slice ya x.kids.length yc] 79)):=hBq.alloc hszq _;have hK1:=(qb.later hB1 m hkt).pred;obtain ⟨us,hus⟩:∃ us,nx (lv.take k)=us:=⟨_,rfl⟩;rw[hus]at hG1 hle HS hG
         obtain ⟨ja,jc,rfl⟩:=hG1.shape;clear hx hsn hus hG hat hkt;go_wp2_with (at_builtin;refine QW rfl _ _ rfl (fun b=>b<wo.heap.size) _ m.pred wo.heap.size _ _ us x.kids qs rfl hG1 rfl hK1 ?qc1 hle ?qc2 ?_)
         case qc1 =>
          intro b hb;refine ⟨Or.inl hb.2,Nat.lt_of_lt_of_le hb.2 (by simp;omega),fun e=>?_⟩
          have:=(hG1.own.lt b e).1;have:=hb.2;omega
         case qc2 => simp;omega
         intro v' w2 qs' hG2 hb2;have hB2:Below wo.heap.size wo w2:=hB1.trans hb2;go_wp2_with fail
         go_roundg (lv.length-(k+1))
         case measure => omega
         case rel => exact ⟨k+1,qs',by omega,by go_num,by rw[HS.out];exact hG2,hB2⟩
       · have hkk : k = lv.length := by omega
         subst hkk;rw[List.take_length]at hG
         have hT2:qb (fun _=>True) wr m _ (nx lv):=qb.carry (fun b _=>⟨trivial,rfl⟩) m (hG.done.back HDp.out)
         have hBw:Below w.heap.size w wr:=hB.trans (hBq.mono hsz);go_wp2_with fail
         go_roundg m
         case measure => omega
         case rel => exact ⟨dd+1,cc+lv.length,nx lv,by go_num,by go_num,hT2,by have:=Hd.out;omega,by have:=Hc.out;omega,hBw⟩
theorem data_append (a b:ByteArray):(a++b).data.toList=a.data.toList++b.data.toList:=by
 rw[ByteArray.data_append];simp
theorem Bd.str {B b:Nat}{l m:List UInt8}{s:ByteArray}{v:Value}{w:World}(h:Bd B b (Lib.byteCells l++Lib.strCells s) v w)(hs:s.data.toList=m):Bd B b (Lib.byteCells (l++m)) v w:=by
 rw[Lib.byteCells_append,←hs];exact h
theorem Y6 (v:Bool)(l:List UInt8):l.length≤(yi v l).length:=by
 induction l with
 | nil=>simp
 | cons c r ih =>
   have h1:1≤(jQ v c).length:=by
    unfold jQ
    split
    · simp
    split
    · simp
    split
    · simp
    split
    · simp
    · simp
   have h2:(yi v (c::r)).length=(jQ v c).length+(yi v r).length:=by simp[yi]
   rw[h2,List.length_cons];omega
theorem jy (s:ByteArray):s.data.toList.length=s.size:=rfl
theorem BFr.cell {B b:Nat}{v v':Value}{w w':World}(h:BFr B b v w v' w'){x o:Nat}(hx:x<w.heap.size)(hb:x≠b)(hv:v.ownBlock≠some x):w'.cell? ⟨x,o,none⟩=w.cell? ⟨x,o,none⟩ :=
 World.cell?_of_block (a:=⟨x,o,none⟩) (h.frame x hx hb hv)
def Zm (n:Nat):Prop:=∀ (S:Nat→Prop)(B b:Nat)(bs:List UInt8)(bv:Value)(va vk:Value)(t:Tr)(w:World),(∀ x,S x→x<w.heap.size∧x≠b∧bv.ownBlock≠some x)→qm S w va t.attrs→qb S w n vk t.kids→Bd B b (Lib.byteCells bs) bv w→zn w→2<B→B≤w.heap.size→bs.length+6*(yE (showL n t.kids) t).length≤1099511627776 →
 Calls Tryz.prog 162 #[.pointer (some ⟨b,0,none⟩),.agg #[.bool t.text,.string t.s,va,vk]] w fun e w'=>e=.returned (.tuple #[])∧∃ bv',Bd B b (Lib.byteCells (bs++yE (showL n t.kids) t)) bv' w'∧BFr B b bv w bv' w'
theorem Xh (l:List (ByteArray × ByteArray))(x:ByteArray × ByteArray):(l++[x]).flatMap qP=l.flatMap qP++qP x:=by simp
theorem qeK {l:List (ByteArray × ByteArray)}{k:Nat}:((l.take k).flatMap qP).length≤(l.flatMap qP).length:=by
 have e:l.flatMap qP=(l.take k).flatMap qP++(l.drop k).flatMap qP:=by rw[←List.flatMap_append,List.take_append_drop]
 rw[e,List.length_append];omega
theorem qfb {n:Nat}{l:List Tr}{k:Nat}:(showL (n+1) (l.take k)).length≤(showL (n+1) l).length:=by
 have e:showL (n+1) l=showL (n+1) (l.take k)++showL (n+1) (l.drop k):=by unfold showL;rw[←List.flatMap_append,List.take_append_drop]
 rw[e,List.length_append];omega
theorem J8 (x:ByteArray × ByteArray):(qP x).length=1+x.1.size+2+(yi true x.2.data.toList).length+1:=by
 simp[qP];omega
theorem qaR (n:Nat)(S:Nat→Prop)(B b:Nat)(bs:List UInt8)(bv:Value)(va vk:Value)(s:ByteArray)(l:List (ByteArray × ByteArray))(ks:List Tr)(w:World)(hA:qm S w va l)(hK:qb S w n vk ks)(hBd:Bd B b (Lib.byteCells bs) bv w)(hM:zn w)(hgB:2<B)(hBw:B≤w.heap.size)
 (hlen:bs.length+6*(yi false s.data.toList).length≤1099511627776) :
 Calls Tryz.prog 162 #[.pointer (some ⟨b,0,none⟩),.agg #[.bool true,.string s,va,vk]] w fun e w'=>e=.returned (.tuple #[])∧∃ bv',Bd B b (Lib.byteCells (bs++yi false s.data.toList)) bv' w'∧BFr B b bv w bv' w':=by
 obtain ⟨aa,ac,rfl⟩:=hA.shape;obtain ⟨ka,kc,rfl,_,hkm⟩:=qb.shape n hK;have hb1:=Below.alloc1 w (.cells #[.bool true,.string s,.slice aa l.length ac,.slice ka ks.length kc] 79);have HC:Hid _:=Qk false B b bs s bv (w.alloc (.cells #[.bool true,.string s,.slice aa l.length ac,.slice ka ks.length kc] 79)) (hBd.later hb1) (hM.later hb1 hM.lt) hgB (by simp;omega) (by have:=Y6 false s.data.toList;rw[jy]at this;omega)
 have HF1:Hid (BFr B b bv w bv (w.alloc (.cells #[.bool true,.string s,.slice aa l.length ac,.slice ka ks.length kc] 79))):=BFr.later hBw hb1;clear hA hK hM hBd
 go_enter Tryz.func162,Tryz.ntmps162
 go_wp2_with fail;refine (Calls.mono HC.out ?_);rintro e w2 ⟨rfl,bv2,hBd2,hF2⟩;go_wp2_with fail
 go_returns
 exact ⟨rfl,bv2,hBd2,HF1.out.trans hF2⟩
set_option maxHeartbeats 2000000 in
theorem qaQ (n:Nat)(ih:∀ m,n=m+1→Zm m)(S:Nat→Prop)(B b:Nat)(bs:List UInt8)(bv:Value)(va vk:Value)(s:ByteArray)(l:List (ByteArray × ByteArray))(ks:List Tr)(w:World)(hS:∀ x,S x→x<w.heap.size∧x≠b∧bv.ownBlock≠some x)(hA:qm S w va l)(hK:qb S w n vk ks)(hBd:Bd B b (Lib.byteCells bs) bv w)(hM:zn w)(hgB:2<B)(hBw:B≤w.heap.size)
 (hlen:bs.length+6*(yE (showL n ks) ⟨false,s,l,ks⟩).length≤1099511627776) :
 Calls Tryz.prog 162 #[.pointer (some ⟨b,0,none⟩),.agg #[.bool false,.string s,va,vk]] w fun e w'=>e=.returned (.tuple #[])∧∃ bv',Bd B b (Lib.byteCells (bs++yE (showL n ks) ⟨false,s,l,ks⟩)) bv' w'∧BFr B b bv w bv' w':=by
 have HIH:Hid (∀ m,n=m+1→Zm m):=ih;have HS:Hid (∀ x,S x→x<w.heap.size∧x≠b∧bv.ownBlock≠some x):=hS;have HA:Hid (qm S w va l):=hA;have HK:Hid (qb S w n vk ks):=hK;have HM:Hid (zn w):=hM;have hblt:=hBd.lt;have HROW:Hid (∀ x,bv.ownBlock=some x→x<w.heap.size):=hBd.rowLt
 have hL1:bs.length+6*(1+s.size+(l.flatMap qP).length+2)≤1099511627776:=by
  have:1+s.size+(l.flatMap qP).length+2≤(yE (showL n ks) ⟨false,s,l,ks⟩).length:=by
   simp only[yE,Bool.false_eq_true,if_false,List.length_append,List.length_cons,jy];cases ks with
   | nil=>simp;omega
   | cons k r=>simp;omega
  omega
 obtain ⟨aa,ac,rfl⟩:=hA.shape;obtain ⟨ka,kc,rfl,_,hkm⟩:=qb.shape n hK;obtain ⟨_,_,hae,_,ham,hacells⟩:=hA
 injection hae with hae1 _ hac
 subst hac;subst hae1;have HAC:Hid (l≠[]→∃ b o,aa=some ⟨b,o,none⟩∧S b∧∀ i x,l[i]?=some x→w.cell? ⟨b,o+i*2,none⟩=some (.string x.1)∧w.cell? ⟨b,o+i*2+1,none⟩=some (.string x.2)):=hacells;unfold maxLen at hkm ham
 have hb1:=Below.alloc1 w (.cells #[.bool false,.string s,.slice aa l.length ac,.slice ka ks.length kc] 79);have hX1:=Jz.start w (.bool false) (.string s) (.slice aa l.length ac) (.slice ka ks.length kc) 79;have hsz1:(w.alloc (.cells #[.bool false,.string s,.slice aa l.length ac,.slice ka ks.length kc] 79)).heap.size=w.heap.size+1:=by simp
 have HBd1:Hid (Bd B b (Lib.byteCells bs) bv (w.alloc (.cells #[.bool false,.string s,.slice aa l.length ac,.slice ka ks.length kc] 79))):=hBd.later hb1;have hs40:s.size≤1099511627776:=by omega
 clear ih hS hK hM hBd hacells
 go_enter Tryz.func162,Tryz.ntmps162
 go_wp2_with fail;have HL0:Hid (yE (showL n ks) ⟨false,s,l,ks⟩=60::s.data.toList++l.flatMap qP++(if ks.isEmpty then [47,62] else 62::showL n ks++[60,47]++s.data.toList++[62])):=rfl
 generalize w.alloc (.cells #[.bool false,.string s,.slice aa l.length ac,.slice ka ks.length kc] 79)=W1 at hb1 hX1 hsz1 HBd1 ⊢
 have hBW1:B≤W1.heap.size:=by omega
 have HB1:Hid (Below w.heap.size w W1):=hb1;have HX1:Hid (Jz W1 w.heap.size (.bool false) (.string s) (.slice aa l.length ac) (.slice ka ks.length kc)):=hX1
 have HBX:Hid (∀ v' w',BFr B b bv W1 v' w'→w'.cell? ⟨w.heap.size,1,none⟩=some (.string s)∧w'.cell? ⟨w.heap.size,2,none⟩=some (.slice aa l.length ac)∧w'.cell? ⟨w.heap.size,3,none⟩=some (.slice ka ks.length kc)):=by
  intro v' w' hF;have h1:w.heap.size<W1.heap.size:=by omega
  have h2:w.heap.size≠b:=by omega
  have h3:bv.ownBlock≠some w.heap.size:=fun e=>by have:=HROW.out _ e;omega
  exact ⟨by rw[hF.cell h1 h2 h3];exact HX1.out.at1,by rw[hF.cell h1 h2 h3];exact HX1.out.at2,by rw[hF.cell h1 h2 h3];exact HX1.out.at3⟩
 have HKEEP:Hid (∀ v' w',BFr B b bv W1 v' w'→∀ x,S x→w'.heap[x]?=w.heap[x]?):=by
  intro v' w' hF x hx;obtain ⟨h1,h2,h3⟩:=HS.out x hx;rw[hF.frame x (by omega) h2 h3,HB1.out.block x h1]
 have HMK:Hid (∀ v' w',BFr B b bv W1 v' w'→zn w'):=fun v' w' hF=>(HM.out.later HB1.out HM.out.lt).later hF.below hgB
 have HF0:Hid (BFr B b bv w bv W1):=BFr.later hBw hb1
 have hw1:=yH B b (Lib.byteCells bs) bv (⟨#[60]⟩++s) W1 HBd1.out (by
  rw[Lib.byteCells_length,ByteArray.size_append]
  show bs.length+(1+s.size)≤_
  omega) hBW1
 refine (Calls.mono hw1 ?_);rintro e w2 ⟨rfl,bv2,hBd2,hF2⟩;have HBd2:Hid (Bd B b (Lib.byteCells (bs++60::s.data.toList)) bv2 w2):=hBd2.str (by rw[data_append];rfl)
 obtain ⟨_,y2,_⟩:=HBX.out _ _ hF2;clear hw1 hX1 hb1 hBd2 HBd1;go_wp2_with fail
 go_loopg [22] l.length (fun g i wr=>∃ (k:Nat) (bw:Value),k+g=l.length∧i=.int .i64 k∧Bd B b (Lib.byteCells (bs++60::s.data.toList++(l.take k).flatMap qP)) bw wr∧BFr B b bv W1 bw wr)
 case atStart => exact ⟨0,bv2,by omega,rfl,by simpa using HBd2.out,hF2⟩
 case round =>
  obtain ⟨k,bw,hk,rfl,hBdk,hFk⟩:=hrel;have HBdk:Hid (Bd B b (Lib.byteCells (bs++60::s.data.toList++(l.take k).flatMap qP)) bw wr):=hBdk;have HFk:Hid (BFr B b bv W1 bw wr):=hFk;have hszr:=hFk.below.size;clear hBdk hFk HBd2 hF2 y2
  by_cases hlt:k<l.length
  · have hne : l ≠ [] := by intro e;subst e;simp at hlt
    obtain ⟨ab,ao,rfl,hs,hcc⟩:=HAC.out hne;obtain ⟨x,hx⟩:∃ x,l[k]?=some x:=⟨l[k],by simp[hlt]⟩
    obtain ⟨c0,c1⟩:=hcc k x hx;have hkp:=HKEEP.out _ _ HFk.out ab hs;rw[←World.cell?_of_block (a:=⟨ab,ao+k*2,none⟩) hkp]at c0
    rw[←World.cell?_of_block (a:=⟨ab,ao+k*2+1,none⟩) hkp]at c1
    have hsn:l.take (k+1)=l.take k++[x]:=by
     rw[List.take_succ_eq_append_getElem hlt];congr 2;simpa[hlt] using hx
    have hq1:((l.take k).flatMap qP).length+(qP x).length≤(l.flatMap qP).length:=by
     have:=qeK (l:=l) (k:=k+1);rw[hsn,Xh,List.length_append]at this
     exact this
    rw[J8]at hq1
    have hmm:=Y6 true x.2.data.toList;rw[jy]at hmm
    have HSN:Hid ((l.take (k+1)).flatMap qP=(l.take k).flatMap qP++qP x):=by show _=_;rw[hsn,Xh]
    have hlti:(k:Int)<(l.length:Int):=by omega
    have hx1:x.1.size≤1099511627776:=by omega
    have hbk:=Below.alloc1 wr (.cells #[.string x.1,.string x.2] 93);have HBdA:Hid (Bd B b (Lib.byteCells (bs++60::s.data.toList++(l.take k).flatMap qP)) bw (wr.alloc (.cells #[.string x.1,.string x.2] 93))):=HBdk.out.later hbk;have HFA:Hid (BFr B b bw wr bw (wr.alloc (.cells #[.string x.1,.string x.2] 93))):=BFr.later (by omega) hbk
    have hbx1:(wr.alloc (.cells #[.string x.1,.string x.2] 93)).cell? ⟨wr.heap.size,1,none⟩=some (.string x.2):=by simp
    have hszA:(wr.alloc (.cells #[.string x.1,.string x.2] 93)).heap.size=wr.heap.size+1:=by simp
    have hrk:=HBdk.out.rowLt;have hbw:b<wr.heap.size:=HBdk.out.lt;have hrn:bw.ownBlock≠some wr.heap.size:=fun e=>by have:=hrk _ e;omega
    have HRN:Hid (bw.ownBlock≠some wr.heap.size):=hrn;clear hcc hx hsn hkp hrk hrn hbk;go_wp2_with fail
    generalize wr.alloc (.cells #[.string x.1,.string x.2] 93)=WA at HBdA HFA hbx1 hszA ⊢
    have hl3:(Lib.byteCells (bs++60::s.data.toList++(l.take k).flatMap qP)).length=bs.length+(1+s.size)+((l.take k).flatMap qP).length:=by
     rw[Lib.byteCells_length];simp;omega
    have hw3:=yH B b _ bw (⟨#[32]⟩++x.1++⟨#[61,34]⟩) WA HBdA.out (by
     rw[hl3,ByteArray.size_append,ByteArray.size_append]
     show _+(1+x.1.size+2)≤_
     omega) (by omega)
    refine (Calls.mono hw3 ?_);rintro e w3 ⟨rfl,bv3,hBd3,hF3⟩;have HBd3:Hid (Bd B b (Lib.byteCells (bs++60::s.data.toList++(l.take k).flatMap qP++(32::x.1.data.toList++[61,34]))) bv3 w3):=hBd3.str (by rw[data_append,data_append];rfl)
    have z1:w3.cell? ⟨wr.heap.size,1,none⟩=some (.string x.2):=by rw[hF3.cell (by omega) (by omega) HRN.out];exact hbx1
    have HF3:Hid (BFr B b bv W1 bv3 w3):=HFk.out.trans (HFA.out.trans hF3);have hs3:=hF3.below.size;clear hw3 hBd3 hF3;go_wp2_with fail
    have hw4:=Qk true B b _ x.2 bv3 w3 HBd3.out (HMK.out _ _ HF3.out) hgB (by omega) (by
     have e:(bs++60::s.data.toList++(l.take k).flatMap qP++(32::x.1.data.toList++[61,34])).length=bs.length+(1+s.size)+((l.take k).flatMap qP).length+(1+x.1.size+2):=by simp;omega
     rw[e];omega)
    refine (Calls.mono hw4 ?_);rintro e w4 ⟨rfl,bv4,hBd4,hF4⟩;have HBd4:Hid _:=hBd4;have HF4:Hid (BFr B b bv W1 bv4 w4):=HF3.out.trans hF4;have hs4:=hF4.below.size;clear hw4 hBd4 hF4;go_wp2_with fail
    have hw5:=yH B b _ bv4 ⟨#[34]⟩ w4 HBd4.out (by
     have e:(Lib.byteCells (bs++60::s.data.toList++(l.take k).flatMap qP++(32::x.1.data.toList++[61,34])++yi true x.2.data.toList)).length=bs.length+(1+s.size)+((l.take k).flatMap qP).length+(1+x.1.size+2)+(yi true x.2.data.toList).length:=by rw[Lib.byteCells_length];simp;omega
     rw[e]
     show _+1≤_
     omega) (by omega)
    refine (Calls.mono hw5 ?_);rintro e w5 ⟨rfl,bv5,hBd5,hF5⟩
    have HBd5:Hid (Bd B b (Lib.byteCells (bs++60::s.data.toList++(l.take (k+1)).flatMap qP)) bv5 w5):=by
     have h:=hBd5.str (m:=[34]) rfl
     show Bd _ _ _ _ _
     rw[HSN.out]
     simpa[qP] using h
    have HF5:Hid (BFr B b bv W1 bv5 w5):=HF4.out.trans hF5;clear hw5 hBd5 hF5;go_wp2_with fail
    go_roundg (l.length-(k+1))
    case measure => omega
    case rel => exact ⟨k+1,bv5,by omega,by go_num,HBd5.out,HF5.out⟩
  · have hkk : k = l.length := by omega
    subst hkk;have HBdE:Hid (Bd B b (Lib.byteCells (bs++60::s.data.toList++l.flatMap qP)) bw wr):=by have:=HBdk.out;rw[List.take_length]at this;exact this
    obtain ⟨wo,hwo⟩:∃ wo,wo=wr:=⟨_,rfl⟩;subst hwo;obtain ⟨y1,y2,y3⟩:=HBX.out _ _ HFk.out
    have hlE:(Lib.byteCells (bs++60::s.data.toList++l.flatMap qP)).length=bs.length+(1+s.size)+(l.flatMap qP).length:=by
     rw[Lib.byteCells_length];simp;omega
    clear HBdk
    by_cases hks:ks=[]
    · subst hks;simp only[List.length_nil]at y3
      have hw6:=yH B b _ bw ⟨#[47,62]⟩ wo HBdE.out (by rw[hlE];show _+2≤_;omega) (by omega)
      have HW6:Hid _:=hw6;clear hw6;go_wp2_with fail;refine (Calls.mono HW6.out ?_);rintro e w6 ⟨rfl,bv6,hBd6,hF6⟩;go_wp2_with fail
      go_returns
      refine ⟨rfl,bv6,?_,HF0.out.trans (HFk.out.trans hF6)⟩;have h:=hBd6.str (m:=[47,62]) rfl;rw[HL0.out]
      simpa using h
    · have hk0:((ks.length:Int)==0)=false:=by
       have:ks.length≠0:=fun e=>hks (List.eq_nil_of_length_eq_zero e)
       have:(ks.length:Int)≠0:=by omega
       simpa using this
      cases n with
      | zero=>exact absurd HK.out.1 hks
      | succ m =>
      have hemp:ks.isEmpty=false:=by cases ks with
       | nil=>exact absurd rfl hks
       | cons _ _=>rfl
      have HL2:Hid (bs.length+6*(1+s.size+(l.flatMap qP).length+(1+(showL (m+1) ks).length+2+s.size+1))≤1099511627776):=by
       show _≤_
       have e:(yE (showL (m+1) ks) ⟨false,s,l,ks⟩).length=1+s.size+(l.flatMap qP).length+(1+(showL (m+1) ks).length+2+s.size+1):=by
        rw[HL0.out,hemp];simp;omega
       rw[e]at hlen;exact hlen
      have hL2:=HL2.out;have hw6:=yH B b _ bw ⟨#[62]⟩ wo HBdE.out (by rw[hlE];show _+1≤_;omega) (by omega)
      have HW6:Hid _:=hw6;clear hw6;go_wp2_with fail;refine (Calls.mono HW6.out ?_);rintro e w6 ⟨rfl,bv6,hBd6,hF6⟩;have HBd6:Hid (Bd B b (Lib.byteCells (bs++60::s.data.toList++l.flatMap qP++[62])) bv6 w6):=hBd6.str (m:=[62]) rfl;have HF6:Hid (BFr B b bv W1 bv6 w6):=HFk.out.trans hF6;obtain ⟨_,_,y6⟩:=HBX.out _ _ HF6.out;clear HW6 hBd6 hF6 y1 y2 y3 HBdE;go_wp2_with fail
      go_loopg [50] ks.length (fun g i wr=>∃ (k:Nat) (bw:Value),k+g=ks.length∧i=.int .i64 k∧Bd B b (Lib.byteCells (bs++60::s.data.toList++l.flatMap qP++[62]++showL (m+1) (ks.take k))) bw wr∧BFr B b bv W1 bw wr)
      case atStart => exact ⟨0,bv6,by omega,rfl,by simpa[showL] using HBd6.out,HF6.out⟩
      case round =>
       obtain ⟨k,bx,hk2,rfl,hBdk,hFx⟩:=hrel;have HBdx:Hid (Bd B b (Lib.byteCells (bs++60::s.data.toList++l.flatMap qP++[62]++showL (m+1) (ks.take k))) bx wr):=hBdk;have HFx:Hid (BFr B b bv W1 bx wr):=hFx;have hszx:=hFx.below.size;clear hBdk hFx HBd6 y6
       by_cases hlt:k<ks.length
       · obtain ⟨_, _, hve, _, _, h4⟩ := HK.out;obtain ⟨kb,ko,hao,hs,hcc⟩:=h4 hks
         injection hve with e1 e2 e3
         subst e1;subst hao;obtain ⟨t,ht⟩:∃ t,ks[k]?=some t:=⟨ks[k],by simp[hlt]⟩
         obtain ⟨xa,xk,c0,c1,c2,c3,hat,hkt⟩:=hcc k t ht;have hkeep:=HKEEP.out _ _ HFx.out;have hkp:=hkeep kb hs;rw[←World.cell?_of_block (a:=⟨kb,ko+k*4,none⟩) hkp]at c0
         rw[←World.cell?_of_block (a:=⟨kb,ko+k*4+1,none⟩) hkp]at c1
         rw[←World.cell?_of_block (a:=⟨kb,ko+k*4+2,none⟩) hkp]at c2
         rw[←World.cell?_of_block (a:=⟨kb,ko+k*4+3,none⟩) hkp]at c3
         have hatr:qm S wr xa t.attrs:=qm.carry hat fun b hb=>⟨hb,hkeep b hb⟩
         have hktr:qb S wr m xk t.kids:=qb.carry (fun b hb=>⟨hb,hkeep b hb⟩) m hkt
         have hsn:ks.take (k+1)=ks.take k++[t]:=by
          rw[List.take_succ_eq_append_getElem hlt];congr 2;simpa[hlt] using ht
         have hq1:(showL (m+1) (ks.take k)).length+(yE (showL m t.kids) t).length≤(showL (m+1) ks).length:=by
          have:=qfb (n:=m) (l:=ks) (k:=k+1);rw[hsn,Jk,List.length_append]at this
          exact this
         have HSN:Hid (showL (m+1) (ks.take (k+1))=showL (m+1) (ks.take k)++yE (showL m t.kids) t):=by show _=_;rw[hsn,Jk]
         have hfree:∀ x,S x→x<wr.heap.size+1∧x≠b∧bx.ownBlock≠some x:=by
          intro x hx;obtain ⟨h1,h2,h3⟩:=HS.out x hx;exact ⟨by omega,h2,HFx.out.free (by omega) h3⟩
         have hbk:∀ o,Below wr.heap.size wr (wr.alloc o):=fun o=>Below.alloc1 wr o
         obtain ⟨ya,yc,rfl⟩:=hatr.shape;obtain ⟨yk,ykc,rfl,_,_⟩:=qb.shape m hktr
         have HCALL:Hid _:=HIH.out m rfl S B b _ bx _ _ t (wr.alloc (.cells #[.bool t.text,.string t.s,.slice ya t.attrs.length yc,.slice yk t.kids.length ykc] 79)) (by simpa using hfree) (hatr.later (hbk _)) (qb.later (hbk _) m hktr) (HBdx.out.later (hbk _)) (HMK.out _ _ (HFx.out.trans (BFr.later (by omega) (hbk _)))) hgB (by simp;omega) (by
          have e:(bs++60::s.data.toList++l.flatMap qP++[62]++showL (m+1) (ks.take k)).length=bs.length+(1+s.size)+(l.flatMap qP).length+1+(showL (m+1) (ks.take k)).length:=by simp;omega
          rw[e];omega)
         have HFA:Hid (BFr B b bx wr bx (wr.alloc (.cells #[.bool t.text,.string t.s,.slice ya t.attrs.length yc,.slice yk t.kids.length ykc] 79))):=BFr.later (by omega) (hbk _)
         have hlti:(k:Int)<(ks.length:Int):=by omega
         clear hat hkt hcc h4 ht hsn hatr hktr hkeep hkp hbk hfree e2 e3;go_wp2_with fail;refine (Calls.mono HCALL.out ?_);rintro e w7 ⟨rfl,bv7,hBd7,hF7⟩;have HBd7:Hid _:=hBd7;have HF7:Hid (BFr B b bv W1 bv7 w7):=HFx.out.trans (HFA.out.trans hF7);clear hBd7 hF7 HCALL;go_wp2_with fail
         go_roundg (ks.length-(k+1))
         case measure => omega
         case rel =>
          refine ⟨k+1,bv7,by omega,by go_num,?_,HF7.out⟩
          rw[HSN.out,←List.append_assoc];exact HBd7.out
       · have hkk : k = ks.length := by omega
         subst hkk;obtain ⟨y1,_,_⟩:=HBX.out _ _ HFx.out;have HBdE:Hid (Bd B b (Lib.byteCells (bs++60::s.data.toList++l.flatMap qP++[62]++showL (m+1) ks)) bx wr):=by have:=HBdx.out;rw[List.take_length]at this;exact this
         have HW8:Hid _:=yH B b _ bx (⟨#[60,47]⟩++s++⟨#[62]⟩) wr HBdE.out (by
          have e:(Lib.byteCells (bs++60::s.data.toList++l.flatMap qP++[62]++showL (m+1) ks)).length=bs.length+(1+s.size)+(l.flatMap qP).length+1+(showL (m+1) ks).length:=by rw[Lib.byteCells_length];simp;omega
          rw[e,ByteArray.size_append,ByteArray.size_append]
          show _+(2+s.size+1)≤_
          omega) (by omega)
         clear HBdx;go_wp2_with fail;refine (Calls.mono HW8.out ?_);rintro e w8 ⟨rfl,bv8,hBd8,hF8⟩;have h:=hBd8.str (m:=[60,47]++s.data.toList++[62]) (by rw[data_append,data_append])
         go_wp2_with fail
         go_returns
         refine ⟨rfl,bv8,?_,HF0.out.trans (HFx.out.trans hF8)⟩;rw[HL0.out,hemp]
         simpa using h
theorem VB (n:Nat)(ih:∀ m,n=m+1→Zm m):Zm n:=by
 intro S B b bs bv va vk t w hS hA hK hBd hM hgB hBw hlen;obtain ⟨tx,s,l,ks⟩:=t;cases tx with
 | true=>exact qaR n S B b bs bv va vk s l ks w hA hK hBd hM hgB hBw hlen
 | false=>exact qaQ n ih S B b bs bv va vk s l ks w hS hA hK hBd hM hgB hBw hlen
theorem qcv (n:Nat):Zm n:=by
  induction n with
  | zero=>exact VB 0 (fun m h=>by omega)
  | succ n ih => exact VB (n + 1) (fun m h => by obtain rfl : n = m := by omega
                                                 exact ih)
theorem Xr {s:ByteArray}(h:qM s=true):s.size≤8:=by
 simp only[qM,Bool.and_eq_true,decide_eq_true_eq]at h;exact h.1.2
theorem Je {s:ByteArray}(h:qN s=true):s.size≤40:=by
 simp only[qN,Bool.and_eq_true,decide_eq_true_eq]at h;exact h.1
theorem Q7 {l:List (ByteArray × ByteArray)}(h:q7 l=true):l.length≤4∧∀ x∈l,qM x.1=true∧qN x.2=true:=by
 simp only[q7,Bool.and_eq_true,decide_eq_true_eq,List.all_eq_true]at h
 refine ⟨h.1,fun x hx=>?_⟩
 obtain ⟨i,hi⟩:=List.mem_iff_getElem?.1 hx
 have hil:i<l.length:=by
  rcases Nat.lt_or_ge i l.length with h'|h'
  · exact h'
  · rw[List.getElem?_eq_none h']at hi;cases hi
 have:=h.2 i (by simpa using hil)
 unfold okA at this
 rw[hi]at this
 simp only[Bool.and_eq_true]at this
 exact ⟨this.1.1,this.1.2⟩
theorem qah (l:List (ByteArray × ByteArray))(h:∀ x∈l,qM x.1=true∧qN x.2=true):(l.flatMap qP).length≤252*l.length:=by
 induction l with
 | nil=>simp
 | cons x r ih =>
   have h1:=ih (fun y hy=>h y (List.mem_cons_of_mem _ hy))
   have h2:=h x List.mem_cons_self;have h3:=Xr h2.1;have h4:=Je h2.2;have h5:=Z1 true x.2.data.toList;rw[jy]at h5
   have h6:((x::r).flatMap qP).length=(qP x).length+(r.flatMap qP).length:=by simp
   rw[h6,J8,List.length_cons];omega
theorem Xt {inner:List UInt8}{t:Tr}(h:qz t=true):(yE inner t).length≤1100+inner.length:=by
 obtain ⟨tx,s,l,ks⟩:=t;cases tx with
 | true =>
   simp only[qz,if_true,Bool.and_eq_true]at h
   have h1:=Je h.1.1.2;have h2:=Z1 false s.data.toList;rw[jy]at h2
   simp only[yE,if_true];omega
 | false =>
   simp only[qz,Bool.false_eq_true,if_false,Bool.and_eq_true]at h
   have h1:=Xr h.1;obtain ⟨h2,h3⟩:=Q7 h.2;have h4:=qah l h3
   have h5:(yE inner ⟨false,s,l,ks⟩).length≤1+s.size+(l.flatMap qP).length+(1+inner.length+2+s.size+1):=by
    simp only[yE,Bool.false_eq_true,if_false,List.length_append,List.length_cons,jy]
    split
    · simp;omega
    · simp;omega
   omega
theorem show_bound:∀ (n:Nat)(ts:List Tr),rgt n ts=true→(showL n ts).length≤1100*cnt n ts:=by
 intro n
 induction n with
 | zero=>intro ts _;simp[showL]
 | succ n ih =>
   have hl:∀ (ts:List Tr) (p:Bool),rgL (rgt n) p ts=true→(showL (n+1) ts).length≤1100*cnt (n+1) ts:=by
    intro ts
    induction ts with
    | nil=>intro p _;simp[showL]
    | cons t r ihr =>
      intro p h;simp only[rgL,Bool.and_eq_true]at h
      obtain ⟨⟨⟨h1,_⟩,h2⟩,h3⟩:=h;have h4:=ihr t.text h3;have h5:(showL (n+1) (t::r)).length=(yE (showL n t.kids) t).length+(showL (n+1) r).length:=by simp[showL]
      rw[h5,q5];cases htt:t.text with
      | true =>
        have h6:(yE (showL n t.kids) t).length≤1100:=by
         have:=Xt (inner:=[]) h1;have e:yE (showL n t.kids) t=yE [] t:=by simp[yE,htt]
         rw[e];simpa using this
        omega
      | false =>
        rw[htt,Bool.false_or]at h2
        have h6:=ih t.kids h2;have h7:=Xt (inner:=showL n t.kids) h1;omega
   intro ts h;exact hl ts false h
theorem YX {n:Nat}{t:Tr}(hd:Deep n t.kids)(h:zZ t=true):(yE (showL n t.kids) t).length≤88000:=by
 rw[QC hd]at h
 simp only[Bool.and_eq_true,decide_eq_true_eq]at h
 have h1:=show_bound (n+1) [t] h.2;have h2:showL (n+1) [t]=yE (showL n t.kids) t:=by simp[showL]
 rw[h2]at h1
 have:=h.1.2;omega
theorem qcF (S:Nat→Prop)(n:Nat)(va vk:Value)(t:Tr)(w:World)(hA:qm S w va t.attrs)(hK:qb S w n vk t.kids)(hM:zn w)(hlen:(yE (showL n t.kids) t).length≤88000) :
 Calls Tryz.prog 118 #[.agg #[.bool t.text,.string t.s,va,vk]] w fun e w'=>e=.returned (.string ⟨(yE (showL n t.kids) t).toArray⟩)∧Below w.heap.size w w':=by
 have hAb:=hA.bounded;have hKb:=qb.bounded n hK;obtain ⟨aa,ac,rfl⟩:=hA.shape;obtain ⟨ka,kc,rfl,_,_⟩:=qb.shape n hK;have hb0:∀ X Y,Below w.heap.size w ((w.alloc X).alloc Y):=fun X Y=>(Below.alloc1 w X).alloc (by simp) Y
 have hcall:∀ X,Calls Tryz.prog 162 #[.pointer (some ⟨w.heap.size+1,0,none⟩),.agg #[.bool t.text,.string t.s,.slice aa t.attrs.length ac,.slice ka t.kids.length kc]] ((w.alloc X).alloc (.cells #[.pointer none,.slice none 0 0] 175)) fun e w'=>e=.returned (.tuple #[])∧∃ bv',Bd w.heap.size (w.heap.size+1) (Lib.byteCells ([]++yE (showL n t.kids) t)) bv' w'∧Below w.heap.size w w':=by
  intro X;have hsz:((w.alloc X).alloc (.cells #[.pointer none,.slice none 0 0] 175)).heap.size=w.heap.size+1+1:=by simp
  have hbd:Bd w.heap.size (w.heap.size+1) (Lib.byteCells []) (.slice none 0 0) ((w.alloc X).alloc (.cells #[.pointer none,.slice none 0 0] 175)):=by
   refine ⟨by omega,⟨_,Or.inl rfl,?_⟩,World.ownsRow_nil _ _ _ _,by intro e;cases e⟩
   have e:=heap_alloc_new (w.alloc X) (.cells #[.pointer none,.slice none 0 0] 175);rw[World.size_alloc]at e
   exact e
  have:=qcv n (fun b=>S b∧b<w.heap.size) w.heap.size (w.heap.size+1) [] (.slice none 0 0) _ _ t ((w.alloc X).alloc (.cells #[.pointer none,.slice none 0 0] 175)) (fun x hx=>⟨by have:=hx.2;omega,by have:=hx.2;omega,by intro e;cases e⟩) (hAb.later (hb0 _ _)) (qb.later (hb0 _ _) n hKb) hbd (hM.later (hb0 _ _) hM.lt) hM.lt (by omega) (by simp only[List.length_nil];omega)
  refine this.mono ?_;rintro e w' ⟨rfl,bv',h1,h2⟩;exact ⟨rfl,bv',h1,(hb0 _ _).trans h2.below⟩
 have HC:Hid _:=hcall;clear hcall hA hK hAb hKb hM hlen;obtain ⟨L,hL⟩:∃ L,yE (showL n t.kids) t=L:=⟨_,rfl⟩;rw[hL]at HC ⊢
 clear hL
 go_enter Tryz.func118,Tryz.ntmps118
 go_wp2_with fail;refine (Calls.mono (HC.out _) ?_);rintro e w2 ⟨rfl,bv,hBd,hB⟩;have hsz:=hB.size;have HS:Hid _:=Qt w.heap.size (w.heap.size+1) ([]++L) w2 hBd.is hsz;clear HC hBd;go_wp2_with fail;refine (Calls.mono HS.out ?_);rintro e w3 ⟨rfl,hb3⟩;go_wp2_with fail;go_ret;exact ⟨rfl,hB.trans hb3⟩
def jg (n:Nat)(t:Tr):ByteArray × Int :=
 if zZ t then (if 2500<(yE (showL n t.kids) t).length then (⟨#[]⟩,2) else (⟨(yE (showL n t.kids) t).toArray⟩,0)) else (⟨#[]⟩,1)
theorem VA (S:Nat→Prop)(n:Nat)(va vk:Value)(t:Tr)(w:World)(hA:qm S w va t.attrs)(hK:qb S w n vk t.kids)(hM:zn w)(hx:TextsN (n+1) [t]) :
 Calls Tryz.prog 80 #[.agg #[.bool t.text,.string t.s,va,vk]] w fun e w'=>e=.returned (.tuple #[.string (jg n t).1,.int .i64 (jg n t).2])∧Below w.heap.size w w':=by
 obtain ⟨aa,ac,rfl⟩:=hA.shape;obtain ⟨ka,kc,rfl,_,_⟩:=qb.shape n hK;have hX1:=Jz.start w (.bool t.text) (.string t.s) (.slice aa t.attrs.length ac) (.slice ka t.kids.length kc) 79;have hb1:=Below.alloc1 w (.cells #[.bool t.text,.string t.s,.slice aa t.attrs.length ac,.slice ka t.kids.length kc] 79)
 have HG:Hid (∀ W,Below w.heap.size w W→Calls Tryz.prog 73 #[.agg #[.bool t.text,.string t.s,.slice aa t.attrs.length ac,.slice ka t.kids.length kc]] W fun e w'=>e=.returned (.bool (zZ t))∧Below W.heap.size W w') :=
  fun W hW=>YT S n _ _ t W (hA.later hW) (qb.later hW n hK) hx
 have HP:Hid (zZ t=true→∀ W,Below w.heap.size w W→Calls Tryz.prog 118 #[.agg #[.bool t.text,.string t.s,.slice aa t.attrs.length ac,.slice ka t.kids.length kc]] W fun e w'=>e=.returned (.string ⟨(yE (showL n t.kids) t).toArray⟩)∧Below W.heap.size W w') :=
  fun hg W hW=>qcF S n _ _ t W (hA.later hW) (qb.later hW n hK) (hM.later hW hM.lt) (YX (qb.deep n hK) hg)
 have HSH:Hid (zZ t=true→(yE (showL n t.kids) t).length≤88000):=fun hg=>YX (qb.deep n hK) hg
 have HR:Hid (jg n t=if zZ t then (if 2500<(yE (showL n t.kids) t).length then (⟨#[]⟩,2) else (⟨(yE (showL n t.kids) t).toArray⟩,0)) else (⟨#[]⟩,1)):=rfl
 clear hA hK hM hx;obtain ⟨L,hL⟩:∃ L,yE (showL n t.kids) t=L:=⟨_,rfl⟩;obtain ⟨q,hq⟩:∃ q,zZ t=q:=⟨_,rfl⟩;rw[hL]at HP HSH HR
 rw[hq]at HG HP HSH HR
 clear hL hq
 go_enter Tryz.func80,Tryz.ntmps80
 go_wp2_with fail
 generalize w.alloc (.cells #[.bool t.text,.string t.s,.slice aa t.attrs.length ac,.slice ka t.kids.length kc] 79)=W1 at hb1 hX1 ⊢
 refine (Calls.mono (HG.out _ hb1) ?_);rintro e w2 ⟨rfl,hb2⟩;have hX2:=hX1.later hb2 hX1.lt;have hB2:Below w.heap.size w w2:=hb1.trans (hb2.mono hb1.size);have f0:=hX2.at0;have f1:=hX2.at1;have f2:=hX2.at2;have f3:=hX2.at3;clear hX1 hX2 hb1 hb2 HG;cases q with
 | false =>
   go_wp2_with fail
   go_ret2
   exact ⟨by rw[HR.out];rfl,hB2⟩
 | true =>
   have HP2:=HP.out rfl;have HP3:Hid _:=HP2;have hl88:L.length≤88000:=HSH.out rfl;clear HP HP2 HSH;go_wp2_with fail;refine (Calls.mono (HP3.out _ hB2) ?_);rintro e w3 ⟨rfl,hb3⟩;have hB3:Below w.heap.size w w3:=hB2.trans (hb3.mono hB2.size);have hsz:(ByteArray.mk L.toArray).size=L.length:=by simp[ByteArray.size]
   by_cases hlong:2500<L.length
   · have HE : Hid (jg n t = (⟨#[]⟩, 2)) := by show _ = _;rw[HR.out];simp[hlong]
     have hi:(2500:Int)<(L.length:Int):=by omega
     clear HR;go_wp2_with fail
     go_ret2
     exact ⟨by rw[HE.out];rfl,hB3⟩
   · have HE : Hid (jg n t = (⟨L.toArray⟩, 0)) := by show _ = _;rw[HR.out];simp[hlong]
     have hi:¬ (2500:Int)<(L.length:Int):=by omega
     clear HR hlong;go_wp2_with fail
     go_ret2
     exact ⟨by rw[HE.out];rfl,hB3⟩
end Go.Proofs.YtfplhcicbbhljaaGreatDoor
