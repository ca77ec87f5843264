/- Bundled: ParseC TextW BndD ParseT Print BackT MarksK MarksM. What each says stands ahead of it. -/
import Derived.Test.YtkbhckhbgalaoaaGreatDoorBundle20
import Derived.Test.YtkbhckhbgalaoaaGreatDoorBundle19
namespace Go.Proofs.YtkbhckhbgalaoaaGreatDoor
open Go.ChangeShapes Go.WideShapes Go.ChangeAt Go.RowKit
set_option maxRecDepth 100000
section
attribute [local go_sem] qi
set_option maxHeartbeats 2000000 in
theorem QQ (s:List UInt8)(B rb:Nat)(w:World)(h:Rd B rb ⟨s,false⟩ w)(hM:qu w)(hgB:0<B)(hBw:B≤w.heap.size)(hs:s.length≤9223372036854775807) :
 Calls Tryz.prog 21 #[.pointer (some ⟨rb,0,none⟩),.func (.func 22) #[.pointer (some ⟨rb,0,none⟩)] #[],.func (.func 23) #[] #[]] w fun e w' =>
  ∃ v,e=.returned (.tuple #[v,.int .i64 (zR s).2])∧qb (fun b=>w.heap.size≤b) w' (s.length+1) v (zR s).1∧RFr B rb w w':=by
 have HP:Hid (zR s=if 2500<s.length then ([],2) else if (treesF (s.length+1) ⟨s,false⟩).2.wrong||decide ((treesF (s.length+1) ⟨s,false⟩).2.rest≠[])||!qy (treesF (s.length+1) ⟨s,false⟩).1 then ([],1) else ((treesF (s.length+1) ⟨s,false⟩).1,0)):=rfl
 have hrb:=h.lt;have c0:w.cell? ⟨rb,0,none⟩=some (.string (qa s)):=h.c0;have hz:=qc s
 go_enter Tryz.func21,Tryz.ntmps21
 by_cases hlong:2500<s.length
 · have HE : Hid (zR s = ([], 2)) := by show _ = _;rw[HP.out, if_pos hlong]
   have hli:(2500:Int)<(s.length:Int):=by omega
   clear HP hM h;go_wp2_with fail
   go_ret2
   exact ⟨.slice none 0 0,by rw[HE.out];rfl,by rw[HE.out];exact qb.nil _ ⟨none,0,rfl,nZ9 _⟩,RFr.refl _ _ _⟩
 · have HP2 : Hid (zR s = if (treesF (s.length + 1) ⟨s, false⟩).2.wrong || decide ((treesF (s.length + 1) ⟨s, false⟩).2.rest ≠ []) || !qy (treesF (s.length + 1) ⟨s, false⟩).1 then ([], 1) else ((treesF (s.length + 1) ⟨s, false⟩).1, 0)) := by show _ = _;rw[HP.out, if_neg hlong]
   have hli:¬ (2500:Int)<(s.length:Int):=by omega
   have hln:s.length≤2500:=by omega
   have HC:Hid _:=QJ (s.length+1) B rb ⟨s,false⟩ w h hM hgB hBw (by show s.length≤_;omega) (by show s.length<_;omega)
   clear HP hlong h hM;go_wp2_with fail;refine (Calls.mono HC.out ?_);rintro e w2 ⟨v,rfl,hK2,hR2,k2⟩;obtain ⟨ka,kc,rfl,_,_⟩:=qb.shape (s.length+1) hK2;have HTX:Hid (TextsN (s.length+1) (treesF (s.length+1) ⟨s,false⟩).1):=zw.texts (M:=2501) (by unfold maxLen;omega) _ _ (yQ 2500 (s.length+1) _ hln)
   obtain ⟨p,hp⟩:∃ p,treesF (s.length+1) ⟨s,false⟩=p:=⟨_,rfl⟩;rw[hp]at HP2 hK2 hR2 HTX ⊢
   clear hp HC c0;obtain ⟨l,r2⟩:=p;simp only at HP2 hK2 hR2 HTX ⊢
   have d0:=hR2.c0;have d1:=hR2.c1;have hem:=yl r2.rest;have HG:Hid _:=j7 _ (s.length+1) _ l _ hK2 HTX.out;have hsz2:=k2.below.size;clear hR2 HTX;obtain ⟨q,hq⟩:∃ q,r2.wrong=q:=⟨_,rfl⟩;rw[hq]at HP2 d1
   clear hq;cases q with
   | true =>
     have HE:Hid (zR s=([],1)):=by show _=_;rw[HP2.out];rfl
     clear HP2 HG;go_wp2_with fail
     go_ret2
     exact ⟨.slice none 0 0,by rw[HE.out];rfl,by rw[HE.out];exact qb.nil _ ⟨none,0,rfl,nZ9 _⟩,k2⟩
   | false =>
     cases hr:r2.rest with
     | cons c m =>
       have HE:Hid (zR s=([],1)):=by show _=_;rw[HP2.out,hr];rfl
       rw[hr]at hem d0
       simp only[List.isEmpty_cons]at hem
       clear HP2 HG hr;go_wp2_with fail
       go_ret2
       exact ⟨.slice none 0 0,by rw[HE.out];rfl,by rw[HE.out];exact qb.nil _ ⟨none,0,rfl,nZ9 _⟩,k2⟩
     | nil =>
       have HP3:Hid (zR s=if !qy l then ([],1) else (l,0)):=by show _=_;rw[HP2.out,hr];rfl
       rw[hr]at hem d0
       simp only[List.isEmpty_nil]at hem
       clear HP2 hr;go_wp2_with fail;refine (Calls.mono HG.out ?_);rintro e w4 ⟨rfl,hb4⟩;have hK4:=qb.later hb4 (s.length+1) hK2;have hF4:RFr B rb w w4:=k2.own (hb4.mono (by omega)) hBw
       clear HG hK2 d0 d1;obtain ⟨q,hq⟩:∃ q,qy l=q:=⟨_,rfl⟩;rw[hq]at HP3 ⊢
       clear hq;cases q with
       | false =>
         have HE:Hid (zR s=([],1)):=by show _=_;rw[HP3.out];rfl
         clear HP3;go_wp2_with fail
         go_ret2
         exact ⟨.slice none 0 0,by rw[HE.out];rfl,by rw[HE.out];exact qb.nil _ ⟨none,0,rfl,nZ9 _⟩,hF4⟩
       | true =>
         have HE:Hid (zR s=(l,0)):=by show _=_;rw[HP3.out];rfl
         clear HP3;go_wp2_with fail
         go_ret2
         exact ⟨.slice ka l.length kc,by rw[HE.out];rfl,by rw[HE.out];exact hK4,hF4⟩
set_option maxHeartbeats 1000000 in
theorem x6 (s:List UInt8)(w:World)(hM:qu w)(hs:s.length≤9223372036854775807) :
 Calls Tryz.prog 9 #[.string (qa s)] w fun e w'=>∃ v,e=.returned (.tuple #[v,.int .i64 (zR s).2])∧qb (fun b=>w.heap.size≤b) w' (s.length+1) v (zR s).1∧Below w.heap.size w w':=by
 have hb1:=Below.alloc1 w (.cells #[.string (qa s),.bool false] 39);have hR1:Rd w.heap.size w.heap.size ⟨s,false⟩ (w.alloc (.cells #[.string (qa s),.bool false] 39)):=⟨nR9 _,heap_alloc_new _ _⟩;have HC:Hid _:=QQ s w.heap.size w.heap.size _ hR1 (hM.later hb1 hM.lt) hM.lt hb1.size hs;have hz:=qc s;clear hM
 go_enter Tryz.func9,Tryz.ntmps9
 go_wp2_with fail;refine (Calls.mono HC.out ?_);rintro e w2 ⟨v,rfl,hK2,k2⟩;have hB2:Below w.heap.size w w2:=hb1.trans k2.below;obtain ⟨ka,kc,rfl,_,_⟩:=qb.shape (s.length+1) hK2;go_wp2_with fail
 go_ret2
 exact ⟨_,rfl,hK2.wider hb1.size,hB2⟩
end
section
attribute [local go_sem] qi
def zy (s:List UInt8):List UInt8 × Int :=
 if 2500<s.length then ([],2) else if ((⟨s,false⟩:Rs).text textEnds).2.wrong||decide (((⟨s,false⟩:Rs).text textEnds).2.rest≠[])||!qA (qa ((⟨s,false⟩:Rs).text textEnds).1) then ([],1) else (((⟨s,false⟩:Rs).text textEnds).1,0)
set_option maxHeartbeats 1000000 in
theorem Q8 (s:List UInt8)(B rb:Nat)(w:World)(h:Rd B rb ⟨s,false⟩ w)(hM:qu w)(hgB:0<B)(hBw:B≤w.heap.size)(hs:s.length≤9223372036854775807) :
 Calls Tryz.prog 25 #[.pointer (some ⟨rb,0,none⟩),.func (.func 26) #[.pointer (some ⟨rb,0,none⟩)] #[],.func (.func 27) #[] #[]] w fun e w' =>
  e=.returned (.tuple #[.string (qa (zy s).1),.int .i64 (zy s).2])∧RFr B rb w w':=by
 have HP:Hid (zy s=if 2500<s.length then ([],2) else if ((⟨s,false⟩:Rs).text textEnds).2.wrong||decide (((⟨s,false⟩:Rs).text textEnds).2.rest≠[])||!qA (qa ((⟨s,false⟩:Rs).text textEnds).1) then ([],1) else (((⟨s,false⟩:Rs).text textEnds).1,0)):=rfl
 have hrb:=h.lt;have c0:w.cell? ⟨rb,0,none⟩=some (.string (qa s)):=h.c0;have hz:=qc s;have hn:qa []=⟨#[]⟩:=rfl;have HN:Hid _:=hn;clear hn
 go_enter Tryz.func25,Tryz.ntmps25
 by_cases hlong:2500<s.length
 · have HE : Hid (zy s = ([], 2)) := by show _ = _;rw[HP.out, if_pos hlong]
   have hli:(2500:Int)<(s.length:Int):=by omega
   clear HP hM h;go_wp2_with fail
   go_ret2
   exact ⟨by rw[HE.out,HN.out];rfl,RFr.refl _ _ _⟩
 · have HP2 : Hid (zy s = if ((⟨s, false⟩ : Rs).text textEnds).2.wrong || decide (((⟨s, false⟩ : Rs).text textEnds).2.rest ≠ []) || !qA (qa ((⟨s, false⟩ : Rs).text textEnds).1) then ([], 1) else (((⟨s, false⟩ : Rs).text textEnds).1, 0)) := by show _ = _;rw[HP.out, if_neg hlong]
   have hli:¬ (2500:Int)<(s.length:Int):=by omega
   have hln:s.length≤2500:=by omega
   have HC:Hid _:=QG B rb ⟨s,false⟩ w h hM hgB hBw (by show s.length≤_;omega)
   have hlen:((⟨s,false⟩:Rs).text textEnds).1.length≤2501:=Nat.le_trans (Qy textEnds _ _) (by unfold Rs.left;simp;omega)
   clear HP hlong h hM;go_wp2_with fail;refine (Calls.mono HC.out ?_);rintro e w2 ⟨rfl,hR2,k2⟩;obtain ⟨p,hp⟩:∃ p,(⟨s,false⟩:Rs).text textEnds=p:=⟨_,rfl⟩;rw[hp]at HP2 hR2 hlen ⊢
   clear hp HC c0;obtain ⟨t,r2⟩:=p;simp only at HP2 hR2 hlen ⊢
   have d0:=hR2.c0;have d1:=hR2.c1;have hem:=yl r2.rest;have hzt:=qc t;have HG:Hid (∀ W,Calls Tryz.prog 27 #[.string (qa t)] W fun e w'=>e=.returned (.bool (qA (qa t)))∧w'=W):=fun W=>zj (qa t) W (by rw[hzt];unfold maxLen;omega)
   clear hR2;obtain ⟨q,hq⟩:∃ q,r2.wrong=q:=⟨_,rfl⟩;rw[hq]at HP2 d1
   clear hq;cases q with
   | true =>
     have HE:Hid (zy s=([],1)):=by show _=_;rw[HP2.out];rfl
     clear HP2 HG;go_wp2_with fail
     go_ret2
     exact ⟨by rw[HE.out,HN.out];rfl,k2⟩
   | false =>
     cases hr:r2.rest with
     | cons c m =>
       have HE:Hid (zy s=([],1)):=by show _=_;rw[HP2.out,hr];rfl
       rw[hr]at hem d0
       simp only[List.isEmpty_cons]at hem
       clear HP2 HG hr;go_wp2_with fail
       go_ret2
       exact ⟨by rw[HE.out,HN.out];rfl,k2⟩
     | nil =>
       have HP3:Hid (zy s=if !qA (qa t) then ([],1) else (t,0)):=by show _=_;rw[HP2.out,hr];rfl
       rw[hr]at hem d0
       simp only[List.isEmpty_nil]at hem
       clear HP2 hr;go_wp2_with fail;refine (Calls.mono (HG.out _) ?_);rintro e w4 ⟨rfl,rfl⟩;clear HG d0 d1;obtain ⟨q,hq⟩:∃ q,qA (qa t)=q:=⟨_,rfl⟩;rw[hq]at HP3 ⊢
       clear hq;cases q with
       | false =>
         have HE:Hid (zy s=([],1)):=by show _=_;rw[HP3.out];rfl
         clear HP3;go_wp2_with fail
         go_ret2
         exact ⟨by rw[HE.out,HN.out];rfl,k2⟩
       | true =>
         have HE:Hid (zy s=(t,0)):=by show _=_;rw[HP3.out];rfl
         clear HP3;go_wp2_with fail
         go_ret2
         exact ⟨by rw[HE.out];rfl,k2⟩
set_option maxHeartbeats 1000000 in
theorem Yn (s:List UInt8)(w:World)(hM:qu w)(hs:s.length≤9223372036854775807) :
 Calls Tryz.prog 11 #[.string (qa s)] w fun e w'=>e=.returned (.tuple #[.string (qa (zy s).1),.int .i64 (zy s).2])∧Below w.heap.size w w':=by
 have hb1:=Below.alloc1 w (.cells #[.string (qa s),.bool false] 39);have hR1:Rd w.heap.size w.heap.size ⟨s,false⟩ (w.alloc (.cells #[.string (qa s),.bool false] 39)):=⟨nR9 _,heap_alloc_new _ _⟩;have HC:Hid _:=Q8 s w.heap.size w.heap.size _ hR1 (hM.later hb1 hM.lt) hM.lt hb1.size hs;have hz:=qc s;clear hM
 go_enter Tryz.func11,Tryz.ntmps11
 go_wp2_with fail;refine (Calls.mono HC.out ?_);rintro e w2 ⟨rfl,k2⟩;have hB2:Below w.heap.size w w2:=hb1.trans k2.below;go_wp2_with fail
 go_ret2
 exact ⟨rfl,hB2⟩
end
end Go.Proofs.YtkbhckhbgalaoaaGreatDoor
namespace Go.Proofs.YtkbhckhbgalaoaaGreatDoor
open Go.RowKit
set_option maxRecDepth 100000
theorem js (v:Bool):∀ (f:Nat)(s x:List UInt8),qI v f s=some x→x.length≤s.length:=by
 intro f
 induction f with
 | zero=>intro s x h;cases h
 | succ f ih =>
   intro s x h;cases s with
   | nil=>injection h with h;subst h;exact nR9 _
   | cons c t =>
     rw[qI]at h
     by_cases hc:c=38
     · rw[if_pos hc]at h
       cases hw:qX t with
       | none=>rw[hw]at h;cases h
       | some p =>
         obtain ⟨y,r⟩:=p;rw[hw]at h
         simp only at h
         cases hm:qI v f r with
         | none=>rw[hm]at h;cases h
         | some z =>
           rw[hm]at h
           injection h with h
           subst h;have:=(zM hw).1;have:=ih r z hm;simp only[List.length_cons];omega
     · rw[if_neg hc]at h
       split at h
       · cases h
       · cases hm : qI v f t with
         | none=>rw[hm]at h;cases h
         | some z =>
           rw[hm]at h
           injection h with h
           subst h;have:=ih t z hm;simp only[List.length_cons];omega
theorem attrsL_len:∀ (f:Nat)(m:List UInt8)(L:List (List UInt8 × List UInt8)),attrsL f m=some L→∀ a∈L,a.1.length≤m.length∧a.2.length≤m.length:=by
 intro f
 induction f with
 | zero=>intro m L h;cases h
 | succ f ih =>
   intro m L h;rw[attrsL]at h
   split at h
   · injection h with h;subst h;intro a ha;cases ha
   · split at h
     · cases h
     · split at h
       · cases h
       · split at h
         · rename_i after hd
           split at h
           · cases h
           · rename_i x next hq
             split at h
             · cases h
             · rename_i vv hv
               have a1:=qz qd (m.dropWhile qe);have a2:=qz qe m;have a3:=qz qM after;have a4:=(List.takeWhile_prefix (l:=m.dropWhile qe) qd).length_le;have a5:=(List.takeWhile_prefix (l:=after) qM).length_le;have a6:=js true _ _ _ hv;rw[hd]at a1
               rw[hq]at a3
               simp only[List.length_cons]at a1 a3
               cases hm:attrsL f next with
               | none=>rw[hm]at h;cases h
               | some L' =>
                 rw[hm]at h
                 injection h with h
                 subst h;intro a ha;rw[List.mem_cons]at ha
                 rcases ha with rfl|ha
                 · exact ⟨by simp only;omega,by simp only;omega⟩
                 · have := ih next L' hm a ha;omega
         · cases h
theorem cnt_mono:∀ (n:Nat)(ts:List Tr),cnt n ts≤cnt (n+1) ts:=by
 intro n
 induction n with
 | zero=>intro ts;exact nZ9 _
 | succ n ih =>
   intro ts
   induction ts with
   | nil=>rw[q8,q8];exact nR9 _
   | cons t r ihr =>
     rw[zz,zz];have:=ih t.kids;omega
def ZK (n:Nat):List Tr→Nat
 | []=>0
 | t::r=>1+cnt (n+1) t.kids+ZK n r
theorem Zk (n:Nat)(t:Tr)(h:t.kids=[]):cnt (n+1) [t]=1:=by
 rw[zz,h,q8,q8]
def Tx (t:Tr):Prop:=t.s.size≤maxLen∧(∀ x∈t.attrs,x.1.size≤maxLen∧x.2.size≤maxLen)∧∀ n,TexN n t.kids
theorem Q6 {l:List Tr}{k:Tr}(hl:∀ n,TexN n l)(hk:Tx k):∀ n,TexN n (l++[k]):=by
 intro n;cases n with
 | zero=>trivial
 | succ n =>
   intro t ht;rw[List.mem_append,List.mem_singleton]at ht
   rcases ht with ht|rfl
   · exact hl (n+1) t ht
   · exact ⟨hk.1,hk.2.1,hk.2.2 n⟩
theorem tex_nil:∀ n,TexN n []:=by
 intro n;cases n with
 | zero=>trivial
 | succ n=>intro t ht;cases ht
theorem yy (l:List UInt8)(h:l.length≤1048576):(qa l).size≤maxLen:=by
 rw[qc];unfold maxLen;omega
theorem Zz {st st':List Tr}{m:List UInt8}(h:zp st m=some st')(hm:m.length≤1048576)(n:Nat)(hx:∀ t∈st,Tx t):ZK n st'≤ZK n st+1∧∀ t∈st',Tx t:=by
 unfold zp at h
 split at h
 · cases h
 · rename_i nm L e hb
   have hE:Tx ⟨false,qa nm,asB (qr L),[]⟩:=by
    unfold q6 at hb
    have hl:(if decide (m.getLast?=some 47) then m.dropLast else m).length≤m.length:=by
     split
     · rw[List.length_dropLast];omega
     · exact nR9 _
    generalize (if decide (m.getLast?=some 47) then m.dropLast else m)=u at *
    split at hb
    · cases hb
    · split at hb
      · cases hb
      · rename_i L' hL
        injection hb with hb
        injection hb with h1 h2
        injection h2 with h2 _
        subst h1 h2;have a1:=(List.takeWhile_prefix (l:=u) qd).length_le;have a2:=qz qd u;refine ⟨yy _ (by omega),fun x hx=>?_,tex_nil⟩
        unfold asB at hx
        rw[List.mem_map]at hx
        obtain ⟨a,ha,rfl⟩:=hx;have:=attrsL_len _ _ _ hL a ((z8 L').mem_iff.1 ha);exact ⟨yy _ (by omega),yy _ (by omega)⟩
   split at h
   · cases h
   · cases st with
     | nil=>cases h
     | cons T st =>
       simp only at h
       split at h
       · injection h with h
         subst h;refine ⟨?_,fun t ht=>?_⟩
         · show 1 + cnt (n + 1) (T.kids ++ [_]) + _ ≤ 1 + cnt (n + 1) T.kids + _ + 1
           rw[za,Zk n _ rfl];omega
         · rw[List.mem_cons]at ht
           rcases ht with rfl|ht
           · have hT := hx T (List.mem_cons_self ..);exact ⟨hT.1,hT.2.1,Q6 hT.2.2 hE⟩
           · exact hx t (List.mem_cons_of_mem _ ht)
       · injection h with h
         subst h;refine ⟨?_,fun t ht=>?_⟩
         · show 1 + cnt (n + 1) [] + _ ≤ _
           rw[q8];omega
         · rw[List.mem_cons]at ht
           rcases ht with rfl|ht
           · exact hE
           · exact hx t ht
theorem Y0 {st st':List Tr}{p:List UInt8}(h:y5 st p=some st')(hp:p.length≤1048576)(n:Nat)(hx:∀ t∈st,Tx t):ZK n st'≤ZK n st+1∧∀ t∈st',Tx t:=by
 unfold y5 at h
 split at h
 · cases h
 · rename_i c u
   simp only[List.length_cons]at hp
   split at h
   · unfold qO at h
     split at h
     · exact Zz h (by simp) n hx
     · rename_i d v hv
       have hl:(d::v).length≤1048576:=by rw[←hv,List.length_dropLast];omega
       split at h
       · unfold yv at h
         split at h
         · rename_i T T2 st
           split at h
           · injection h with h
             subst h;refine ⟨?_,fun t ht=>?_⟩
             · show 1 + cnt (n + 1) (T2.kids ++ [T]) + _ ≤ 1 + cnt (n + 1) T.kids + (1 + cnt (n + 1) T2.kids + _) + 1
               rw[za,zz n T [],q8];have:=cnt_mono n T.kids;omega
             · rw[List.mem_cons]at ht
               rcases ht with rfl|ht
               · have hT2 := hx T2 (List.mem_cons_of_mem _ (List.mem_cons_self ..));exact ⟨hT2.1,hT2.2.1,Q6 hT2.2.2 (hx T (List.mem_cons_self ..))⟩
               · exact hx t (List.mem_cons_of_mem _ (List.mem_cons_of_mem _ ht))
           · cases h
         · cases h
       · exact Zz h hl n hx
   · unfold ze at h
     split at h
     · cases h
     · rename_i v hv
       have hl:=js false _ _ _ hv;simp only[List.length_cons]at hl
       split at h
       · cases h
       · rename_i T st
         injection h with h
         subst h;refine ⟨?_,fun t ht=>?_⟩
         · show 1 + cnt (n + 1) (T.kids ++ [_]) + _ ≤ 1 + cnt (n + 1) T.kids + _ + 1
           rw[za,Zk n _ rfl];omega
         · rw[List.mem_cons]at ht
           rcases ht with rfl|ht
           · have hT := hx T (List.mem_cons_self ..);exact ⟨hT.1,hT.2.1,Q6 hT.2.2 ⟨yy _ (by omega),fun x hx=>(by cases hx),tex_nil⟩⟩
           · exact hx t (List.mem_cons_of_mem _ ht)
theorem Ju (n:Nat):∀ (ps:List (List UInt8))(st st':List Tr),foldD st ps=some st'→(∀ p∈ps,p.length≤1048576)→(∀ t∈st,Tx t)→ZK n st'≤ZK n st+ps.length∧∀ t∈st',Tx t:=by
 intro ps
 induction ps with
 | nil=>intro st st' h _ hx;injection h with h;subst h;exact ⟨nR9 _,hx⟩
 | cons p ps ih =>
   intro st st' h hp hx;rw[foldD]at h
   cases hq:y5 st p with
   | none=>rw[hq]at h;cases h
   | some s1 =>
     rw[hq]at h
     obtain ⟨h1,h2⟩:=Y0 hq (hp p (List.mem_cons_self ..)) n hx;obtain ⟨h3,h4⟩:=ih s1 st' h (fun q hq=>hp q (List.mem_cons_of_mem _ hq)) h2
     exact ⟨by simp only[List.length_cons];omega,h4⟩
theorem xz {s:List UInt8}{l:List Tr}(h:qx s=some l)(hs:s.length≤1048576):(∀ n,cnt (n+1) l≤1048576)∧∀ n,TexN n l:=by
 unfold qx at h
 split at h
 · rename_i F hr
   injection h with h
   subst h;rw[yO]at hr
   cases hp:qt s with
   | none=>rw[hp]at hr;cases hr
   | some ps =>
     rw[hp]at hr
     obtain ⟨hok,hpl⟩:=pieces_ok _ _ _ hp
     have hx:∀ t∈[zeroT],Tx t:=fun t ht=>by
      rw[List.mem_singleton]at ht
      subst ht;exact ⟨nZ9 _,fun x hx=>(by cases hx),tex_nil⟩
     have key:=fun n=>Ju n ps [zeroT] [F] hr (fun p hq=>Nat.le_trans (hok p hq).1 hs) hx
     refine ⟨fun n=>?_,fun n=>((key 0).2 F (List.mem_singleton.2 rfl)).2.2 n⟩
     have:=(key n).1;simp only[ZK,zeroT,q8]at this
     omega
 · cases h
def jP (s:List UInt8):List UInt8 × Int :=
 if 2500<s.length then ([],2) else if (qF false s).2&&qA (qa (qF false s).1) then ((qF false s).1,0) else ([],1)
theorem Yo (s:List UInt8):zy s=jP s:=by
 unfold zy jP
 by_cases hl:2500<s.length
 · rw[if_pos hl,if_pos hl]
 · rw[if_neg hl, if_neg hl];have he:textEnds=qj false:=rfl;rw[he];have key:=yo false (s.length+1) s;unfold qF qJ
   generalize hq:(⟨s,false⟩:Rs).text (qj false)=q at *
   obtain ⟨out,r⟩:=q;simp only at *
   cases hm:qI false (s.length+1) s with
   | some x =>
     obtain ⟨h1,h2⟩:=(key x (Nat.lt_succ_self _)).1 hm
     injection h1 with h1 h3
     subst h1 h3;simp only[Bool.true_and];cases qA (qa out)<;>simp
   | none =>
     simp only[Bool.false_and,Bool.false_eq_true,if_false]
     by_cases hw:(r.wrong||decide (r.rest≠[])||!qA (qa out))=true
     · rw[if_pos hw]
     · exfalso
       have hw':(r.wrong||decide (r.rest≠[])||!qA (qa out))=false:=by simpa using hw
       rw[Bool.or_eq_false_iff]at hw'
       have hr:=Yg hw'.1;subst hr;have hp:qA (qa out)=true:=by simpa using hw'.2
       have hs:out.all sign=true:=by
        simp only[qA,Bool.and_eq_true]at hp
        simpa[qa] using hp.2
       have:=(key out (Nat.lt_succ_self _)).2 ⟨rfl,hs⟩;rw[hm]at this
       cases this
end Go.Proofs.YtkbhckhbgalaoaaGreatDoor
namespace Go.Proofs.YtkbhckhbgalaoaaGreatDoor
open Go.ChangeShapes Go.WideShapes Go.ChangeAt Go.RowKit
set_option maxRecDepth 100000
section
attribute [local go_sem] qi
set_option maxHeartbeats 2000000 in
theorem Q9 (s:List UInt8)(B rb:Nat)(w:World)(h:Rd B rb ⟨s,false⟩ w)(hM:qu w)(hgB:0<B)(hBw:B≤w.heap.size)(hs:s.length≤9223372036854775807) :
    Calls Tryz.prog 14 #[.pointer (some ⟨rb,0,none⟩),.func (.func 15) #[.pointer (some ⟨rb,0,none⟩)] #[],.func (.func 16) #[] #[]] w fun e w' =>
      ∃ va vk, e = .returned (.tuple #[.agg #[.bool (qw s).1.text, .string (qw s).1.s, va, vk], .int .i64 (qw s).2]) ∧
        qf (fun b=>w.heap.size≤b) w' va (qw s).1.attrs∧qb (fun b=>w.heap.size≤b) w' s.length vk (qw s).1.kids∧RFr B rb w w':=by
  have hrb:=h.lt;have hb1:Below w.heap.size w ((w.alloc (.cells #[.bool false,.string ⟨#[]⟩,.slice none 0 0,.slice none 0 0] 25)).alloc (.cells #[.bool false,.string ⟨#[]⟩,.slice none 0 0,.slice none 0 0] 25)):=(Below.alloc1 w _).alloc (by simp) _
  have hx1:((w.alloc (.cells #[.bool false,.string ⟨#[]⟩,.slice none 0 0,.slice none 0 0] 25)).alloc (.cells #[.bool false,.string ⟨#[]⟩,.slice none 0 0,.slice none 0 0] 25)).heap[w.heap.size]?=some (.cells #[.bool false,.string ⟨#[]⟩,.slice none 0 0,.slice none 0 0] 25 (0,0)):=by
    rw[Lib.alloc_old _ _ _ (by simp)];exact heap_alloc_new _ _
  have hy1:((w.alloc (.cells #[.bool false,.string ⟨#[]⟩,.slice none 0 0,.slice none 0 0] 25)).alloc (.cells #[.bool false,.string ⟨#[]⟩,.slice none 0 0,.slice none 0 0] 25)).heap[w.heap.size+1]?=some (.cells #[.bool false,.string ⟨#[]⟩,.slice none 0 0,.slice none 0 0] 25 (0,0)):=by
    have e:=heap_alloc_new (w.alloc (.cells #[.bool false,.string ⟨#[]⟩,.slice none 0 0,.slice none 0 0] 25)) (.cells #[.bool false,.string ⟨#[]⟩,.slice none 0 0,.slice none 0 0] 25);rw[World.size_alloc]at e
    exact e
  have hz1:((w.alloc (.cells #[.bool false,.string ⟨#[]⟩,.slice none 0 0,.slice none 0 0] 25)).alloc (.cells #[.bool false,.string ⟨#[]⟩,.slice none 0 0,.slice none 0 0] 25)).heap.size=w.heap.size+2:=by simp
  have hR1:=h.later hb1;have hF1:RFr B rb w _:=RFr.later hBw hb1;have hM1:=hM.later hb1 hM.lt;have HP:Hid (qw s=if 2500<s.length then (zeroT,2) else if ((⟨s,false⟩:Rs).one (treesF s.length)).2.wrong||decide (((⟨s,false⟩:Rs).one (treesF s.length)).2.rest≠[])||!qR ((⟨s,false⟩:Rs).one (treesF s.length)).1 then (zeroT,1) else (((⟨s,false⟩:Rs).one (treesF s.length)).1,0)):=rfl
  have c0:((w.alloc (.cells #[.bool false,.string ⟨#[]⟩,.slice none 0 0,.slice none 0 0] 25)).alloc (.cells #[.bool false,.string ⟨#[]⟩,.slice none 0 0,.slice none 0 0] 25)).cell? ⟨rb,0,none⟩=some (.string (qa s)):=hR1.c0;have hz:=qc s;clear h hM
  go_enter Tryz.func14,Tryz.ntmps14
  by_cases hlong:2500<s.length
  · have HE : Hid (qw s = (zeroT, 2)) := by show _ = _;rw[HP.out, if_pos hlong]
    have hli:(2500:Int)<(s.length:Int):=by omega
    clear HP hM1;go_wp2_with fail
    generalize ((w.alloc (.cells #[.bool false,.string ⟨#[]⟩,.slice none 0 0,.slice none 0 0] 25)).alloc (.cells #[.bool false,.string ⟨#[]⟩,.slice none 0 0,.slice none 0 0] 25))=W1 at hb1 hx1 hy1 hz1 hR1 hF1 c0 ⊢
    have p0:W1.cell? ⟨w.heap.size,0,none⟩=some (.bool false):=by rw[cH9 hx1];rfl
    have p1:W1.cell? ⟨w.heap.size,1,none⟩=some (.string ⟨#[]⟩):=by rw[cH9 hx1];rfl
    have p2:W1.cell? ⟨w.heap.size,2,none⟩=some (.slice none 0 0):=by rw[cH9 hx1];rfl
    have p3:W1.cell? ⟨w.heap.size,3,none⟩=some (.slice none 0 0):=by rw[cH9 hx1];rfl
    refine bodyPost_ret (v:=.tuple #[.agg #[.bool false,.string ⟨#[]⟩,.slice none 0 0,.slice none 0 0],.int .i64 2]) (by simp[results,Tryz.results14,go_sem,p0,p1,p2,p3]) rfl ⟨.slice none 0 0,.slice none 0 0,?_,?_,?_,?_⟩
    · rw[HE.out];rfl
    · rw[HE.out];exact qf.nil
    · rw[HE.out];exact qb.nil _ ⟨none,0,rfl,nZ9 _⟩
    · exact hF1
  · have HP2 : Hid (qw s = if ((⟨s, false⟩ : Rs).one (treesF s.length)).2.wrong || decide (((⟨s, false⟩ : Rs).one (treesF s.length)).2.rest ≠ []) || !qR ((⟨s, false⟩ : Rs).one (treesF s.length)).1 then (zeroT, 1) else (((⟨s, false⟩ : Rs).one (treesF s.length)).1, 0)) := by show _ = _;rw[HP.out, if_neg hlong]
    have hli:¬ (2500:Int)<(s.length:Int):=by omega
    have hln:s.length≤2500:=by omega
    clear HP hlong;go_wp2_with fail
    generalize ((w.alloc (.cells #[.bool false,.string ⟨#[]⟩,.slice none 0 0,.slice none 0 0] 25)).alloc (.cells #[.bool false,.string ⟨#[]⟩,.slice none 0 0,.slice none 0 0] 25))=W1 at hb1 hx1 hy1 hz1 hR1 hF1 c0 hM1 ⊢
    refine (Calls.mono (JI s.length (QJ s.length) B rb ⟨s,false⟩ W1 hR1 hM1 hgB (by omega) (by show s.length≤_;omega) (nR9 _)) ?_)
    rintro e w2 ⟨va,vk,rfl,hA2,hK2,hR2,k2⟩;have hx2:=k2.box hx1 (by omega)
    have hy2:=k2.box hy1 (by omega)
    have hF2:=hF1.trans k2;have hsz2:=k2.below.size;obtain ⟨aa,ac,rfl⟩:=hA2.shape;obtain ⟨ka,kc,rfl,_,_⟩:=qb.shape s.length hK2
    have HTX:Hid (TextsN (s.length+1) [((⟨s,false⟩:Rs).one (treesF s.length)).1]):=by
      refine zw.texts (M:=2501) (by unfold maxLen;omega) _ _ ?_
      intro t ht;simp only[List.mem_singleton]at ht
      subst ht;exact j0 (M:=2500) (yQ 2500 s.length) _ hln
    obtain ⟨p,hp⟩:∃ p,(⟨s,false⟩:Rs).one (treesF s.length)=p:=⟨_,rfl⟩;rw[hp]at HP2 hA2 hK2 hR2 HTX ⊢
    clear hp k2 hR1 hx1 hy1 hF1 hM1 c0 hb1;obtain ⟨t,r2⟩:=p;simp only at HP2 hA2 hK2 hR2 HTX ⊢
    have c0:=hR2.c0;have c1:=hR2.c1;have hem:=yl r2.rest;have hb3:=Below.alloc1 w2 (.cells #[.bool t.text,.string t.s,.slice aa t.attrs.length ac,.slice ka t.kids.length kc] 25);have hv3:=heap_alloc_new w2 (.cells #[.bool t.text,.string t.s,.slice aa t.attrs.length ac,.slice ka t.kids.length kc] 25);have hR3:=hR2.later hb3;have hx3:=(hb3.block _ (zh hx2)).trans hx2;have hy3:=(hb3.block _ (zh hy2)).trans hy2;have hA3:=hA2.later hb3;have hK3:=qb.later hb3 s.length hK2;have hF3:RFr B rb w _:=hF2.own (hb3.mono (by omega)) hBw
    have hw2:w.heap.size+1<w2.heap.size:=by omega
    have d0:=hR3.c0;have d1:=hR3.c1;have HG:Hid _:=Zq _ s.length _ _ t _ hA3 hK3 HTX.out;have hsz3:=hb3.size;clear hR2 hx2 hy2 hA2 hK2 hF2 c0 c1 HTX;obtain ⟨q,hq⟩:∃ q,r2.wrong=q:=⟨_,rfl⟩;rw[hq]at HP2 d1
    clear hq;cases q with
    | true =>
      have HE:Hid (qw s=(zeroT,1)):=by show _=_;rw[HP2.out];rfl
      clear HP2 HG;have p0:(w2.alloc (.cells #[.bool t.text,.string t.s,.slice aa t.attrs.length ac,.slice ka t.kids.length kc] 25)).cell? ⟨w.heap.size,0,none⟩=some (.bool false):=by rw[cH9 hx3];rfl
      have p1:(w2.alloc (.cells #[.bool t.text,.string t.s,.slice aa t.attrs.length ac,.slice ka t.kids.length kc] 25)).cell? ⟨w.heap.size,1,none⟩=some (.string ⟨#[]⟩):=by rw[cH9 hx3];rfl
      have p2:(w2.alloc (.cells #[.bool t.text,.string t.s,.slice aa t.attrs.length ac,.slice ka t.kids.length kc] 25)).cell? ⟨w.heap.size,2,none⟩=some (.slice none 0 0):=by rw[cH9 hx3];rfl
      have p3:(w2.alloc (.cells #[.bool t.text,.string t.s,.slice aa t.attrs.length ac,.slice ka t.kids.length kc] 25)).cell? ⟨w.heap.size,3,none⟩=some (.slice none 0 0):=by rw[cH9 hx3];rfl
      have f0:(w2.alloc (.cells #[.bool t.text,.string t.s,.slice aa t.attrs.length ac,.slice ka t.kids.length kc] 25)).frozen? ⟨w.heap.size,0,none⟩=false:=fH9 hx3 0;have f1:(w2.alloc (.cells #[.bool t.text,.string t.s,.slice aa t.attrs.length ac,.slice ka t.kids.length kc] 25)).frozen? ⟨w.heap.size,1,none⟩=false:=fH9 hx3 1;have f2:(w2.alloc (.cells #[.bool t.text,.string t.s,.slice aa t.attrs.length ac,.slice ka t.kids.length kc] 25)).frozen? ⟨w.heap.size,2,none⟩=false:=fH9 hx3 2;have f3:(w2.alloc (.cells #[.bool t.text,.string t.s,.slice aa t.attrs.length ac,.slice ka t.kids.length kc] 25)).frozen? ⟨w.heap.size,3,none⟩=false:=fH9 hx3 3;have q0:(w2.alloc (.cells #[.bool t.text,.string t.s,.slice aa t.attrs.length ac,.slice ka t.kids.length kc] 25)).cell? ⟨w.heap.size+1,0,none⟩=some (.bool false):=by rw[cH9 hy3];rfl
      have q1:(w2.alloc (.cells #[.bool t.text,.string t.s,.slice aa t.attrs.length ac,.slice ka t.kids.length kc] 25)).cell? ⟨w.heap.size+1,1,none⟩=some (.string ⟨#[]⟩):=by rw[cH9 hy3];rfl
      have q2:(w2.alloc (.cells #[.bool t.text,.string t.s,.slice aa t.attrs.length ac,.slice ka t.kids.length kc] 25)).cell? ⟨w.heap.size+1,2,none⟩=some (.slice none 0 0):=by rw[cH9 hy3];rfl
      have q3:(w2.alloc (.cells #[.bool t.text,.string t.s,.slice aa t.attrs.length ac,.slice ka t.kids.length kc] 25)).cell? ⟨w.heap.size+1,3,none⟩=some (.slice none 0 0):=by rw[cH9 hy3];rfl
      go_wp2_with fail;refine bodyPost_ret (v:=.tuple #[.agg #[.bool false,.string ⟨#[]⟩,.slice none 0 0,.slice none 0 0],.int .i64 1]) (by simp[results,Tryz.results14,go_sem,qi,p0,p1,p2,p3,World.cell?_setCell_other]) rfl ⟨.slice none 0 0,.slice none 0 0,?_,?_,?_,?_⟩
      · rw[HE.out];rfl
      · rw[HE.out];exact qf.nil
      · rw[HE.out];exact qb.nil _ ⟨none,0,rfl,nZ9 _⟩
      · exact hF3.own (((((Below.refl _ (w2.alloc (.cells #[.bool t.text,.string t.s,.slice aa t.attrs.length ac,.slice ka t.kids.length kc] 25))).setCell (p:=⟨w.heap.size,0,none⟩) (nR9 _) _).setCell (p:=⟨w.heap.size,1,none⟩) (nR9 _) _).setCell (p:=⟨w.heap.size,2,none⟩) (nR9 _) _).setCell (p:=⟨w.heap.size,3,none⟩) (nR9 _) _) hBw
    | false =>
      cases hr:r2.rest with
      | cons c l =>
        have HE:Hid (qw s=(zeroT,1)):=by show _=_;rw[HP2.out,hr];rfl
        rw[hr]at hem d0
        simp only[List.isEmpty_cons]at hem
        clear HP2 HG hr;have p0:(w2.alloc (.cells #[.bool t.text,.string t.s,.slice aa t.attrs.length ac,.slice ka t.kids.length kc] 25)).cell? ⟨w.heap.size,0,none⟩=some (.bool false):=by rw[cH9 hx3];rfl
        have p1:(w2.alloc (.cells #[.bool t.text,.string t.s,.slice aa t.attrs.length ac,.slice ka t.kids.length kc] 25)).cell? ⟨w.heap.size,1,none⟩=some (.string ⟨#[]⟩):=by rw[cH9 hx3];rfl
        have p2:(w2.alloc (.cells #[.bool t.text,.string t.s,.slice aa t.attrs.length ac,.slice ka t.kids.length kc] 25)).cell? ⟨w.heap.size,2,none⟩=some (.slice none 0 0):=by rw[cH9 hx3];rfl
        have p3:(w2.alloc (.cells #[.bool t.text,.string t.s,.slice aa t.attrs.length ac,.slice ka t.kids.length kc] 25)).cell? ⟨w.heap.size,3,none⟩=some (.slice none 0 0):=by rw[cH9 hx3];rfl
        have f0:(w2.alloc (.cells #[.bool t.text,.string t.s,.slice aa t.attrs.length ac,.slice ka t.kids.length kc] 25)).frozen? ⟨w.heap.size,0,none⟩=false:=fH9 hx3 0;have f1:(w2.alloc (.cells #[.bool t.text,.string t.s,.slice aa t.attrs.length ac,.slice ka t.kids.length kc] 25)).frozen? ⟨w.heap.size,1,none⟩=false:=fH9 hx3 1;have f2:(w2.alloc (.cells #[.bool t.text,.string t.s,.slice aa t.attrs.length ac,.slice ka t.kids.length kc] 25)).frozen? ⟨w.heap.size,2,none⟩=false:=fH9 hx3 2;have f3:(w2.alloc (.cells #[.bool t.text,.string t.s,.slice aa t.attrs.length ac,.slice ka t.kids.length kc] 25)).frozen? ⟨w.heap.size,3,none⟩=false:=fH9 hx3 3;have q0:(w2.alloc (.cells #[.bool t.text,.string t.s,.slice aa t.attrs.length ac,.slice ka t.kids.length kc] 25)).cell? ⟨w.heap.size+1,0,none⟩=some (.bool false):=by rw[cH9 hy3];rfl
        have q1:(w2.alloc (.cells #[.bool t.text,.string t.s,.slice aa t.attrs.length ac,.slice ka t.kids.length kc] 25)).cell? ⟨w.heap.size+1,1,none⟩=some (.string ⟨#[]⟩):=by rw[cH9 hy3];rfl
        have q2:(w2.alloc (.cells #[.bool t.text,.string t.s,.slice aa t.attrs.length ac,.slice ka t.kids.length kc] 25)).cell? ⟨w.heap.size+1,2,none⟩=some (.slice none 0 0):=by rw[cH9 hy3];rfl
        have q3:(w2.alloc (.cells #[.bool t.text,.string t.s,.slice aa t.attrs.length ac,.slice ka t.kids.length kc] 25)).cell? ⟨w.heap.size+1,3,none⟩=some (.slice none 0 0):=by rw[cH9 hy3];rfl
        go_wp2_with fail;refine bodyPost_ret (v:=.tuple #[.agg #[.bool false,.string ⟨#[]⟩,.slice none 0 0,.slice none 0 0],.int .i64 1]) (by simp[results,Tryz.results14,go_sem,qi,p0,p1,p2,p3,World.cell?_setCell_other]) rfl ⟨.slice none 0 0,.slice none 0 0,?_,?_,?_,?_⟩
        · rw[HE.out];rfl
        · rw[HE.out];exact qf.nil
        · rw[HE.out];exact qb.nil _ ⟨none,0,rfl,nZ9 _⟩
        · exact hF3.own (((((Below.refl _ (w2.alloc (.cells #[.bool t.text,.string t.s,.slice aa t.attrs.length ac,.slice ka t.kids.length kc] 25))).setCell (p:=⟨w.heap.size,0,none⟩) (nR9 _) _).setCell (p:=⟨w.heap.size,1,none⟩) (nR9 _) _).setCell (p:=⟨w.heap.size,2,none⟩) (nR9 _) _).setCell (p:=⟨w.heap.size,3,none⟩) (nR9 _) _) hBw
      | nil =>
        have HP3:Hid (qw s=if !qR t then (zeroT,1) else (t,0)):=by show _=_;rw[HP2.out,hr];rfl
        rw[hr]at hem d0
        simp only[List.isEmpty_nil]at hem
        clear HP2 hr;go_wp2_with fail;refine (Calls.mono HG.out ?_);rintro e w4 ⟨rfl,hb4⟩;have hx4:=(hb4.block _ (zh hx3)).trans hx3;have hy4:=(hb4.block _ (zh hy3)).trans hy3;have hv4:=(hb4.block _ (zh hv3)).trans hv3;have hA4:=hA3.later hb4;have hK4:=qb.later hb4 s.length hK3;have hF4:RFr B rb w w4:=hF3.own (hb4.mono (by omega)) hBw
        clear HG hx3 hy3 hv3 hA3 hK3 hF3 d0 d1 hR3 hb3;obtain ⟨q,hq⟩:∃ q,qR t=q:=⟨_,rfl⟩;rw[hq]at HP3 ⊢
        clear hq;cases q with
        | false =>
          have HE:Hid (qw s=(zeroT,1)):=by show _=_;rw[HP3.out];rfl
          clear HP3;have p0:w4.cell? ⟨w.heap.size,0,none⟩=some (.bool false):=by rw[cH9 hx4];rfl
          have p1:w4.cell? ⟨w.heap.size,1,none⟩=some (.string ⟨#[]⟩):=by rw[cH9 hx4];rfl
          have p2:w4.cell? ⟨w.heap.size,2,none⟩=some (.slice none 0 0):=by rw[cH9 hx4];rfl
          have p3:w4.cell? ⟨w.heap.size,3,none⟩=some (.slice none 0 0):=by rw[cH9 hx4];rfl
          have f0:w4.frozen? ⟨w.heap.size,0,none⟩=false:=fH9 hx4 0;have f1:w4.frozen? ⟨w.heap.size,1,none⟩=false:=fH9 hx4 1;have f2:w4.frozen? ⟨w.heap.size,2,none⟩=false:=fH9 hx4 2;have f3:w4.frozen? ⟨w.heap.size,3,none⟩=false:=fH9 hx4 3;have q0:w4.cell? ⟨w.heap.size+1,0,none⟩=some (.bool false):=by rw[cH9 hy4];rfl
          have q1:w4.cell? ⟨w.heap.size+1,1,none⟩=some (.string ⟨#[]⟩):=by rw[cH9 hy4];rfl
          have q2:w4.cell? ⟨w.heap.size+1,2,none⟩=some (.slice none 0 0):=by rw[cH9 hy4];rfl
          have q3:w4.cell? ⟨w.heap.size+1,3,none⟩=some (.slice none 0 0):=by rw[cH9 hy4];rfl
          go_wp2_with fail;refine bodyPost_ret (v:=.tuple #[.agg #[.bool false,.string ⟨#[]⟩,.slice none 0 0,.slice none 0 0],.int .i64 1]) (by simp[results,Tryz.results14,go_sem,qi,p0,p1,p2,p3,World.cell?_setCell_other]) rfl ⟨.slice none 0 0,.slice none 0 0,?_,?_,?_,?_⟩
          · rw[HE.out];rfl
          · rw[HE.out];exact qf.nil
          · rw[HE.out];exact qb.nil _ ⟨none,0,rfl,nZ9 _⟩
          · exact hF4.own (((((Below.refl _ w4).setCell (p:=⟨w.heap.size,0,none⟩) (nR9 _) _).setCell (p:=⟨w.heap.size,1,none⟩) (nR9 _) _).setCell (p:=⟨w.heap.size,2,none⟩) (nR9 _) _).setCell (p:=⟨w.heap.size,3,none⟩) (nR9 _) _) hBw
        | true =>
          have HE:Hid (qw s=(t,0)):=by show _=_;rw[HP3.out];rfl
          clear HP3;have p0:w4.cell? ⟨w.heap.size,0,none⟩=some (.bool false):=by rw[cH9 hx4];rfl
          have p1:w4.cell? ⟨w.heap.size,1,none⟩=some (.string ⟨#[]⟩):=by rw[cH9 hx4];rfl
          have p2:w4.cell? ⟨w.heap.size,2,none⟩=some (.slice none 0 0):=by rw[cH9 hx4];rfl
          have p3:w4.cell? ⟨w.heap.size,3,none⟩=some (.slice none 0 0):=by rw[cH9 hx4];rfl
          have f0:w4.frozen? ⟨w.heap.size,0,none⟩=false:=fH9 hx4 0;have f1:w4.frozen? ⟨w.heap.size,1,none⟩=false:=fH9 hx4 1;have f2:w4.frozen? ⟨w.heap.size,2,none⟩=false:=fH9 hx4 2;have f3:w4.frozen? ⟨w.heap.size,3,none⟩=false:=fH9 hx4 3;have q0:w4.cell? ⟨w2.heap.size,0,none⟩=some (.bool t.text):=by rw[cH9 hv4];rfl
          have q1:w4.cell? ⟨w2.heap.size,1,none⟩=some (.string t.s):=by rw[cH9 hv4];rfl
          have q2:w4.cell? ⟨w2.heap.size,2,none⟩=some (.slice aa t.attrs.length ac):=by rw[cH9 hv4];rfl
          have q3:w4.cell? ⟨w2.heap.size,3,none⟩=some (.slice ka t.kids.length kc):=by rw[cH9 hv4];rfl
          go_wp2_with fail;refine bodyPost_ret (v:=.tuple #[.agg #[.bool t.text,.string t.s,.slice aa t.attrs.length ac,.slice ka t.kids.length kc],.int .i64 0]) (by simp[results,Tryz.results14,go_sem,qi,p0,p1,p2,p3,World.cell?_setCell_other]) rfl ⟨.slice aa t.attrs.length ac,.slice ka t.kids.length kc,?_,?_,?_,?_⟩
          · rw[HE.out]
          · rw[HE.out];exact ((((hA4.set (by omega)).set (by omega)).set (by omega)).set (by omega)).wider (by omega)
          · rw[HE.out];exact ((((hK4.set (by omega)).set (by omega)).set (by omega)).set (by omega)).wider (by omega)
          · exact hF4.own (((((Below.refl _ w4).setCell (p:=⟨w.heap.size,0,none⟩) (nR9 _) _).setCell (p:=⟨w.heap.size,1,none⟩) (nR9 _) _).setCell (p:=⟨w.heap.size,2,none⟩) (nR9 _) _).setCell (p:=⟨w.heap.size,3,none⟩) (nR9 _) _) hBw
set_option maxHeartbeats 1000000 in
theorem QD (s:List UInt8)(w:World)(hM:qu w)(hs:s.length≤9223372036854775807) :
    Calls Tryz.prog 5 #[.string (qa s)] w fun e w' =>
      ∃ va vk, e = .returned (.tuple #[.agg #[.bool (qw s).1.text, .string (qw s).1.s, va, vk], .int .i64 (qw s).2]) ∧
        qf (fun b=>w.heap.size≤b) w' va (qw s).1.attrs∧qb (fun b=>w.heap.size≤b) w' s.length vk (qw s).1.kids∧Below w.heap.size w w':=by
  have hb1:Below w.heap.size w ((w.alloc (.cells #[.bool false,.string ⟨#[]⟩,.slice none 0 0,.slice none 0 0] 25)).alloc (.cells #[.string (qa s),.bool false] 39)):=(Below.alloc1 w _).alloc (by simp) _
  have hx1:((w.alloc (.cells #[.bool false,.string ⟨#[]⟩,.slice none 0 0,.slice none 0 0] 25)).alloc (.cells #[.string (qa s),.bool false] 39)).heap[w.heap.size]?=some (.cells #[.bool false,.string ⟨#[]⟩,.slice none 0 0,.slice none 0 0] 25 (0,0)):=by
    rw[Lib.alloc_old _ _ _ (by simp)];exact heap_alloc_new _ _
  have hR1:Rd w.heap.size (w.heap.size+1) ⟨s,false⟩ ((w.alloc (.cells #[.bool false,.string ⟨#[]⟩,.slice none 0 0,.slice none 0 0] 25)).alloc (.cells #[.string (qa s),.bool false] 39)):=by
    have e:=heap_alloc_new (w.alloc (.cells #[.bool false,.string ⟨#[]⟩,.slice none 0 0,.slice none 0 0] 25)) (.cells #[.string (qa s),.bool false] 39);rw[World.size_alloc]at e
    exact ⟨by omega,e⟩
  have hz1:((w.alloc (.cells #[.bool false,.string ⟨#[]⟩,.slice none 0 0,.slice none 0 0] 25)).alloc (.cells #[.string (qa s),.bool false] 39)).heap.size=w.heap.size+2:=by simp
  have HC:Hid _:=Q9 s w.heap.size (w.heap.size+1) _ hR1 (hM.later hb1 hM.lt) hM.lt (by omega) hs
  have hz:=qc s;clear hM
  go_enter Tryz.func5,Tryz.ntmps5
  go_wp2_with fail;refine (Calls.mono HC.out ?_);rintro e w2 ⟨va,vk,rfl,hA2,hK2,k2⟩;have hx2:=k2.box hx1 (by omega)
  have hB2:Below w.heap.size w w2:=hb1.trans k2.below;rw[hz1]at hA2 hK2
  clear HC hx1 hR1 k2 hb1 hz1;obtain ⟨aa,ac,rfl⟩:=hA2.shape;obtain ⟨ka,kc,rfl,_,_⟩:=qb.shape s.length hK2;obtain ⟨t,ht⟩:∃ t,qw s=t:=⟨_,rfl⟩;rw[ht]at hA2 hK2 ⊢
  have HT:Hid (qw s=t):=ht;clear ht;have p0:w2.cell? ⟨w.heap.size,0,none⟩=some (.bool false):=by rw[cH9 hx2];rfl
  have p1:w2.cell? ⟨w.heap.size,1,none⟩=some (.string ⟨#[]⟩):=by rw[cH9 hx2];rfl
  have p2:w2.cell? ⟨w.heap.size,2,none⟩=some (.slice none 0 0):=by rw[cH9 hx2];rfl
  have p3:w2.cell? ⟨w.heap.size,3,none⟩=some (.slice none 0 0):=by rw[cH9 hx2];rfl
  have f0:w2.frozen? ⟨w.heap.size,0,none⟩=false:=fH9 hx2 0;have f1:w2.frozen? ⟨w.heap.size,1,none⟩=false:=fH9 hx2 1;have f2:w2.frozen? ⟨w.heap.size,2,none⟩=false:=fH9 hx2 2;have f3:w2.frozen? ⟨w.heap.size,3,none⟩=false:=fH9 hx2 3;go_wp2_with fail;refine bodyPost_ret (v:=.tuple #[.agg #[.bool t.1.text,.string t.1.s,.slice aa t.1.attrs.length ac,.slice ka t.1.kids.length kc],.int .i64 t.2]) (by simp[results,Tryz.results5,go_sem,qi,p0,p1,p2,p3,World.cell?_setCell_other]) rfl ⟨.slice aa t.1.attrs.length ac,.slice ka t.1.kids.length kc,by rw[HT.out],?_,?_,?_⟩
  · rw[HT.out];exact ((((hA2.set (by omega)).set (by omega)).set (by omega)).set (by omega)).wider (by omega)
  · rw[HT.out];exact ((((hK2.set (by omega)).set (by omega)).set (by omega)).set (by omega)).wider (by omega)
  · exact hB2.trans (((((Below.refl _ w2).setCell (p:=⟨w.heap.size,0,none⟩) (nR9 _) _).setCell (p:=⟨w.heap.size,1,none⟩) (nR9 _) _).setCell (p:=⟨w.heap.size,2,none⟩) (nR9 _) _).setCell (p:=⟨w.heap.size,3,none⟩) (nR9 _) _)
end
theorem QA {s:ByteArray}(h:qK s=true):s.size≤8:=by
 simp only[qK,Bool.and_eq_true,decide_eq_true_eq]at h;exact h.1.2
theorem xQ {s:ByteArray}(h:qA s=true):s.size≤40:=by
 simp only[qA,Bool.and_eq_true,decide_eq_true_eq]at h;exact h.1
theorem ZU {l:List (ByteArray × ByteArray)}(h:qD l=true):l.length≤4∧∀ x∈l,qK x.1=true∧qA x.2=true:=by
 simp only[qD,Bool.and_eq_true,decide_eq_true_eq,List.all_eq_true]at h
 refine ⟨h.1,fun x hx=>?_⟩
 obtain ⟨i,hi⟩:=List.mem_iff_getElem?.1 hx
 have hil:i<l.length:=by
  rcases Nat.lt_or_ge i l.length with h'|h'
  · exact h'
  · rw[List.getElem?_eq_none h']at hi;cases hi
 have:=h.2 i (by simpa using hil)
 unfold okA at this
 rw[hi]at this
 simp only[Bool.and_eq_true]at this
 exact ⟨this.1.1,this.1.2⟩
theorem ZY (l:List (ByteArray × ByteArray))(h:∀ x∈l,qK x.1=true∧qA x.2=true):(l.flatMap qk).length≤252*l.length:=by
 induction l with
 | nil=>simp
 | cons x r ih =>
   have h1:=ih (fun y hy=>h y (List.mem_cons_of_mem _ hy))
   have h2:=h x List.mem_cons_self;have h3:=QA h2.1;have h4:=xQ h2.2;have h5:=jW true x.2.data.toList;rw[ye]at h5
   have h6:((x::r).flatMap qk).length=(qk x).length+(r.flatMap qk).length:=by simp
   rw[h6,Ql,List.length_cons];omega
theorem QC {inner:List UInt8}{t:Tr}(h:qn t=true):(qH inner t).length≤1100+inner.length:=by
 obtain ⟨tx,s,l,ks⟩:=t;cases tx with
 | true =>
   simp only[qn,if_true,Bool.and_eq_true]at h
   have h1:=xQ h.1.1.2;have h2:=jW false s.data.toList;rw[ye]at h2
   simp only[qH,if_true];omega
 | false =>
   simp only[qn,Bool.false_eq_true,if_false,Bool.and_eq_true]at h
   have h1:=QA h.1;obtain ⟨h2,h3⟩:=ZU h.2;have h4:=ZY l h3
   have h5:(qH inner ⟨false,s,l,ks⟩).length≤1+s.size+(l.flatMap qk).length+(1+inner.length+2+s.size+1):=by
    simp only[qH,Bool.false_eq_true,if_false,List.length_append,List.length_cons,ye]
    split
    · simp;omega
    · simp;omega
   omega
theorem show_bound:∀ (n:Nat)(ts:List Tr),rgt n ts=true→(showL n ts).length≤1100*cnt n ts:=by
 intro n
 induction n with
 | zero=>intro ts _;simp[showL]
 | succ n ih =>
   have hl:∀ (ts:List Tr) (p:Bool),rgL (rgt n) p ts=true→(showL (n+1) ts).length≤1100*cnt (n+1) ts:=by
    intro ts
    induction ts with
    | nil=>intro p _;simp[showL]
    | cons t r ihr =>
      intro p h;simp only[rgL,Bool.and_eq_true]at h
      obtain ⟨⟨⟨h1,_⟩,h2⟩,h3⟩:=h;have h4:=ihr t.text h3;have h5:(showL (n+1) (t::r)).length=(qH (showL n t.kids) t).length+(showL (n+1) r).length:=by simp[showL]
      rw[h5,zz];cases htt:t.text with
      | true =>
        have h6:(qH (showL n t.kids) t).length≤1100:=by
         have:=QC (inner:=[]) h1;have e:qH (showL n t.kids) t=qH [] t:=by simp[qH,htt]
         rw[e];simpa using this
        omega
      | false =>
        rw[htt,Bool.false_or]at h2
        have h6:=ih t.kids h2;have h7:=QC (inner:=showL n t.kids) h1;omega
   intro ts h;exact hl ts false h
theorem xB {n:Nat}{t:Tr}(hd:Deep n t.kids)(h:qR t=true):(qH (showL n t.kids) t).length≤88000:=by
 rw[xA hd]at h
 simp only[Bool.and_eq_true,decide_eq_true_eq]at h
 have h1:=show_bound (n+1) [t] h.2;have h2:showL (n+1) [t]=qH (showL n t.kids) t:=by simp[showL]
 rw[h2]at h1
 have:=h.1.2;omega
theorem Y8 (S:Nat→Prop)(n:Nat)(va vk:Value)(t:Tr)(w:World)(hA:qf S w va t.attrs)(hK:qb S w n vk t.kids)(hM:qu w)(hlen:(qH (showL n t.kids) t).length≤88000) :
 Calls Tryz.prog 39 #[.agg #[.bool t.text,.string t.s,va,vk]] w fun e w'=>e=.returned (.string ⟨(qH (showL n t.kids) t).toArray⟩)∧Below w.heap.size w w':=by
 have hAb:=hA.bounded;have hKb:=qb.bounded n hK;obtain ⟨aa,ac,rfl⟩:=hA.shape;obtain ⟨ka,kc,rfl,_,_⟩:=qb.shape n hK;have hb0:∀ X Y,Below w.heap.size w ((w.alloc X).alloc Y):=fun X Y=>(Below.alloc1 w X).alloc (by simp) Y
 have hcall:∀ X,Calls Tryz.prog 70 #[.pointer (some ⟨w.heap.size+1,0,none⟩),.agg #[.bool t.text,.string t.s,.slice aa t.attrs.length ac,.slice ka t.kids.length kc]] ((w.alloc X).alloc (.cells #[.pointer none,.slice none 0 0] 92)) fun e w'=>e=.returned (.tuple #[])∧∃ bv',Bd w.heap.size (w.heap.size+1) (Lib.byteCells ([]++qH (showL n t.kids) t)) bv' w'∧Below w.heap.size w w':=by
  intro X;have hsz:((w.alloc X).alloc (.cells #[.pointer none,.slice none 0 0] 92)).heap.size=w.heap.size+1+1:=by simp
  have hbd:Bd w.heap.size (w.heap.size+1) (Lib.byteCells []) (.slice none 0 0) ((w.alloc X).alloc (.cells #[.pointer none,.slice none 0 0] 92)):=by
   refine ⟨by omega,⟨_,Or.inl rfl,?_⟩,World.ownsRow_nil _ _ _ _,by intro e;cases e⟩
   have e:=heap_alloc_new (w.alloc X) (.cells #[.pointer none,.slice none 0 0] 92);rw[World.size_alloc]at e
   exact e
  have:=Y3 n (fun b=>S b∧b<w.heap.size) w.heap.size (w.heap.size+1) [] (.slice none 0 0) _ _ t ((w.alloc X).alloc (.cells #[.pointer none,.slice none 0 0] 92)) (fun x hx=>⟨by have:=hx.2;omega,by have:=hx.2;omega,by intro e;cases e⟩) (hAb.later (hb0 _ _)) (qb.later (hb0 _ _) n hKb) hbd (hM.later (hb0 _ _) hM.lt) hM.lt (by omega) (by simp only[List.length_nil];omega)
  refine this.mono ?_;rintro e w' ⟨rfl,bv',h1,h2⟩;exact ⟨rfl,bv',h1,(hb0 _ _).trans h2.below⟩
 have HC:Hid _:=hcall;clear hcall hA hK hAb hKb hM hlen;obtain ⟨L,hL⟩:∃ L,qH (showL n t.kids) t=L:=⟨_,rfl⟩;rw[hL]at HC ⊢
 clear hL
 go_enter Tryz.func39,Tryz.ntmps39
 go_wp2_with fail;refine (Calls.mono (HC.out _) ?_);rintro e w2 ⟨rfl,bv,hBd,hB⟩;have hsz:=hB.size;have HS:Hid _:=j5 w.heap.size (w.heap.size+1) ([]++L) w2 hBd.is hsz;clear HC hBd;go_wp2_with fail;refine (Calls.mono HS.out ?_);rintro e w3 ⟨rfl,hb3⟩;go_wp2_with fail;go_ret;exact ⟨rfl,hB.trans hb3⟩
def j2 (n:Nat)(t:Tr):ByteArray × Int :=
 if qR t then (if 2500<(qH (showL n t.kids) t).length then (⟨#[]⟩,2) else (⟨(qH (showL n t.kids) t).toArray⟩,0)) else (⟨#[]⟩,1)
theorem ZD (S:Nat→Prop)(n:Nat)(va vk:Value)(t:Tr)(w:World)(hA:qf S w va t.attrs)(hK:qb S w n vk t.kids)(hM:qu w)(hx:TextsN (n+1) [t]) :
 Calls Tryz.prog 20 #[.agg #[.bool t.text,.string t.s,va,vk]] w fun e w'=>e=.returned (.tuple #[.string (j2 n t).1,.int .i64 (j2 n t).2])∧Below w.heap.size w w':=by
 obtain ⟨aa,ac,rfl⟩:=hA.shape;obtain ⟨ka,kc,rfl,_,_⟩:=qb.shape n hK;have hX1:=xo.start w (.bool t.text) (.string t.s) (.slice aa t.attrs.length ac) (.slice ka t.kids.length kc) 25;have hb1:=Below.alloc1 w (.cells #[.bool t.text,.string t.s,.slice aa t.attrs.length ac,.slice ka t.kids.length kc] 25)
 have HG:Hid (∀ W,Below w.heap.size w W→Calls Tryz.prog 16 #[.agg #[.bool t.text,.string t.s,.slice aa t.attrs.length ac,.slice ka t.kids.length kc]] W fun e w'=>e=.returned (.bool (qR t))∧Below W.heap.size W w') :=
  fun W hW=>Zq S n _ _ t W (hA.later hW) (qb.later hW n hK) hx
 have HP:Hid (qR t=true→∀ W,Below w.heap.size w W→Calls Tryz.prog 39 #[.agg #[.bool t.text,.string t.s,.slice aa t.attrs.length ac,.slice ka t.kids.length kc]] W fun e w'=>e=.returned (.string ⟨(qH (showL n t.kids) t).toArray⟩)∧Below W.heap.size W w') :=
  fun hg W hW=>Y8 S n _ _ t W (hA.later hW) (qb.later hW n hK) (hM.later hW hM.lt) (xB (qb.deep n hK) hg)
 have HSH:Hid (qR t=true→(qH (showL n t.kids) t).length≤88000):=fun hg=>xB (qb.deep n hK) hg
 have HR:Hid (j2 n t=if qR t then (if 2500<(qH (showL n t.kids) t).length then (⟨#[]⟩,2) else (⟨(qH (showL n t.kids) t).toArray⟩,0)) else (⟨#[]⟩,1)):=rfl
 clear hA hK hM hx;obtain ⟨L,hL⟩:∃ L,qH (showL n t.kids) t=L:=⟨_,rfl⟩;obtain ⟨q,hq⟩:∃ q,qR t=q:=⟨_,rfl⟩;rw[hL]at HP HSH HR
 rw[hq]at HG HP HSH HR
 clear hL hq
 go_enter Tryz.func20,Tryz.ntmps20
 go_wp2_with fail
 generalize w.alloc (.cells #[.bool t.text,.string t.s,.slice aa t.attrs.length ac,.slice ka t.kids.length kc] 25)=W1 at hb1 hX1 ⊢
 refine (Calls.mono (HG.out _ hb1) ?_);rintro e w2 ⟨rfl,hb2⟩;have hX2:=hX1.later hb2 hX1.lt;have hB2:Below w.heap.size w w2:=hb1.trans (hb2.mono hb1.size);have f0:=hX2.at0;have f1:=hX2.at1;have f2:=hX2.at2;have f3:=hX2.at3;clear hX1 hX2 hb1 hb2 HG;cases q with
 | false =>
   go_wp2_with fail
   go_ret2
   exact ⟨by rw[HR.out];rfl,hB2⟩
 | true =>
   have HP2:=HP.out rfl;have HP3:Hid _:=HP2;have hl88:L.length≤88000:=HSH.out rfl;clear HP HP2 HSH;go_wp2_with fail;refine (Calls.mono (HP3.out _ hB2) ?_);rintro e w3 ⟨rfl,hb3⟩;have hB3:Below w.heap.size w w3:=hB2.trans (hb3.mono hB2.size);have hsz:(ByteArray.mk L.toArray).size=L.length:=by simp[ByteArray.size]
   by_cases hlong:2500<L.length
   · have HE : Hid (j2 n t = (⟨#[]⟩, 2)) := by show _ = _;rw[HR.out];simp[hlong]
     have hi:(2500:Int)<(L.length:Int):=by omega
     clear HR;go_wp2_with fail
     go_ret2
     exact ⟨by rw[HE.out];rfl,hB3⟩
   · have HE : Hid (j2 n t = (⟨L.toArray⟩, 0)) := by show _ = _;rw[HR.out];simp[hlong]
     have hi:¬ (2500:Int)<(L.length:Int):=by omega
     clear HR hlong;go_wp2_with fail
     go_ret2
     exact ⟨by rw[HE.out];rfl,hB3⟩
end Go.Proofs.YtkbhckhbgalaoaaGreatDoor
namespace Go.Proofs.YtkbhckhbgalaoaaGreatDoor
open Go.RowKit
set_option maxRecDepth 100000
def Jl (x:List UInt8):Prop:=x=[]∨∃ y,x=60::47::y
theorem Jl.no {x:List UInt8}(h:Jl x):(⟨x,false⟩:Rs).treeAhead=false:=by
 rcases h with rfl|⟨y,rfl⟩<;>rfl
theorem J5 {x:List UInt8}(h:x=[]∨∃ y,x=60::y):(⟨x,false⟩:Rs).goesOn textEnds=false:=by
 rcases h with rfl|⟨y,rfl⟩<;>rfl
theorem YK (inner:List UInt8)(t:Tr)(h:t.text=false)(x:List UInt8):∃ y,qH inner t++x=60::y:=by
 simp[qH,h]
theorem xD (c:UInt8):∃ d l,zc false c=d::l∧d≠60∧d≠62:=by
 unfold zc
 split
 · exact ⟨_,_,rfl,by decide,by decide⟩
 split
 · exact ⟨_,_,rfl,by decide,by decide⟩
 split
 · exact ⟨_,_,rfl,by decide,by decide⟩
 · rename_i h0 h1 _
   simp only[Bool.false_and,Bool.false_eq_true,if_false];exact ⟨_,_,rfl,h0,h1⟩
theorem Jd {s:List UInt8}(hs:s≠[])(y:List UInt8)(hy:y=[]∨∃ z,y=60::z)(rec:Rs→List Tr × Rs) :
 (⟨qv false s++y,false⟩:Rs).treeAhead=true∧(⟨qv false s++y,false⟩:Rs).one rec=(⟨true,qa s,[],[]⟩,⟨y,false⟩):=by
 cases s with
 | nil=>exact absurd rfl hs
 | cons c s =>
   obtain ⟨d,l,hd,h1,h2⟩:=xD c;have e:qv false (c::s)++y=d::(l++(qv false s++y)):=by simp[qv,hd]
   have n1:((60:UInt8)==d)=false:=by simpa using fun e=>h1 e.symm
   have n2:((62:UInt8)==d)=false:=by simpa using fun e=>h2 e.symm
   have ha:(⟨qv false (c::s)++y,false⟩:Rs).ahead [60]=false:=by rw[e];simp[Rs.ahead,List.isPrefixOf,n1]
   constructor
   · rw[e];simp[Rs.treeAhead,Rs.ahead,List.isPrefixOf,n1,n2]
   · unfold Rs.one;rw[if_neg (by rw[ha];decide)]
     have htx:=QH false (c::s) y (J5 hy);simp only[qj,Bool.false_eq_true,if_false]at htx
     rw[htx]
theorem YB {c:UInt8}{l:List UInt8}(h:qe c=false):(⟨c::l,false⟩:Rs).skip=⟨c::l,false⟩:=by
 simp[Rs.skip,h]
theorem Qr {t:Tr}(ht:t.text=false)(hr:qn t=true)(rec:Rs→List Tr × Rs)(inner y:List UInt8)
 (hrec:t.kids≠[]→∀ z,rec ⟨inner++60::47::z,false⟩=(t.kids,⟨60::47::z,false⟩)) :
 (⟨qH inner t++y,false⟩:Rs).treeAhead=true∧(⟨qH inner t++y,false⟩:Rs).one rec=(t,⟨y,false⟩):=by
 obtain ⟨tx,s,ats,ks⟩:=t;simp only at ht hrec
 subst ht;simp only[qn,Bool.false_eq_true,if_false,Bool.and_eq_true]at hr
 obtain ⟨c,l,hs,hc,hl⟩:=xK hr.1;have hall:(c::l).all qd=true:=by simp[hc,hl]
 have hnames:∀ x∈ats,qK x.1=true:=by
  intro x hx;obtain ⟨i,hi⟩:=List.mem_iff_getElem?.1 hx
  have hil:i<ats.length:=by
   rcases Nat.lt_or_ge i ats.length with h'|h'
   · exact h'
   · rw[List.getElem?_eq_none h']at hi;cases hi
  have h2:=hr.2;simp only[qD,Bool.and_eq_true,decide_eq_true_eq,List.all_eq_true]at h2
  have:=h2.2 i (by simpa using hil)
  unfold okA at this
  rw[hi]at this
  simp only[Bool.and_eq_true]at this
  exact this.1.1
 obtain ⟨tl,htl⟩:∃ tl,(if ks.isEmpty then [47,62] else 62::inner++[60,47]++s.data.toList++[62])++y=tl:=⟨_,rfl⟩
 have htl1:(∃ z,tl=47::62::z)∨∃ z,tl=62::z:=by
  rw[←htl];cases ks with
  | nil=>exact Or.inl ⟨y,rfl⟩
  | cons k ks=>right;simp
 have e:qH inner ⟨false,s,ats,ks⟩++y=[60]++((c::l)++(ats.flatMap qk++tl)):=by
  rw[←htl];simp[qH,hs]
 obtain ⟨d,z,hd,hld⟩:∃ d z,ats.flatMap qk++tl=d::z∧qd d=false:=by
  cases ats with
  | nil=>rcases htl1 with ⟨z,rfl⟩|⟨z,rfl⟩<;>exact ⟨_,_,rfl,by decide⟩
  | cons a ats=>exact ⟨32,_,by simp[qk];rfl,by decide⟩
 have hah:(⟨qH inner ⟨false,s,ats,ks⟩++y,false⟩:Rs).ahead [60]=true:=by rw[e];simp[Rs.ahead]
 have hnc:((47:UInt8)==c)=false:=by
  simp only[qd,Bool.and_eq_true,decide_eq_true_eq]at hc
  have:¬ (47:UInt8)=c:=by intro e;subst e;exact absurd hc.1 (by decide)
  simpa using this
 refine ⟨?_,?_⟩
 · rw[e];simp[Rs.treeAhead,Rs.ahead,List.isPrefixOf,hnc]
 · unfold Rs.one;rw[if_pos hah];unfold Rs.elem;rw[e,qZ];obtain ⟨t1,t2⟩:=qm (x:=z) hall hld;rw[←hd]at t1 t2
   have hno:(⟨(c::l)++(ats.flatMap qk++tl),false⟩:Rs).nameOf=c::l:=t1;have hna:(⟨(c::l)++(ats.flatMap qk++tl),false⟩:Rs).name=⟨ats.flatMap qk++tl,false⟩:=by simp only[Rs.name];rw[t2]
   have hat:(⟨ats.flatMap qk++tl,false⟩:Rs).attrs=(ats.map zU,⟨tl,false⟩):=ZT hnames tl (by rcases htl1 with ⟨z,rfl⟩|⟨z,rfl⟩<;>simp[Rs.attrAhead,qe])
   have hsk:(⟨tl,false⟩:Rs).skip=⟨tl,false⟩:=by rcases htl1 with ⟨z,rfl⟩|⟨z,rfl⟩<;>exact YB (by decide)
   rw[hno,hna,hat,hsk];have hso:asB (sortA (ats.map zU))=ats:=by rw[JN (jp hr.2),YC]
   have hnm:qa (c::l)=s:=by rw[←hs];exact yJ s
   unfold Rs.elemIn;rw[hso,hnm];cases ks with
   | nil =>
     have htl2:tl=[47,62]++y:=htl.symm;rw[htl2];have h1:(⟨[47,62]++y,false⟩:Rs).ahead [47,62]=true:=by simp[Rs.ahead]
     rw[if_pos h1];unfold Rs.take;rw[if_pos h1];rfl
   | cons k ks =>
     have htl2:tl=[62]++(inner++60::47::((c::l)++([62]++y))):=by rw[←htl];simp[hs]
     rw[htl2];have h1:(⟨[62]++(inner++60::47::((c::l)++([62]++y))),false⟩:Rs).ahead [47,62]=false:=by simp[Rs.ahead,List.isPrefixOf]
     rw[if_neg (by rw[h1];decide),qZ,hrec (by simp) _]
     have h2:(⟨60::47::((c::l)++([62]++y)),false⟩:Rs).must [60,47]=⟨(c::l)++([62]++y),false⟩:=qZ [60,47] _;simp only[h2];rw[qZ,show ([62]++y:List UInt8)=62::y from rfl,YB (by decide)]
     rw[show (62::y:List UInt8)=[62]++y from rfl,qZ]
theorem back_list:∀ (n:Nat)(f:Nat)(ts:List Tr)(p:Bool)(x:List UInt8),Deep n ts→(∀ m,n=m+1→rgL (rgt m) p ts=true)→dep n ts≤f→Jl x →
 treesF f ⟨showL n ts++x,false⟩=(ts,⟨x,false⟩):=by
 intro n
 induction n with
 | zero =>
   intro f ts p x hd _ _ hx;have:ts=[]:=hd;subst this;exact q4 hx.no
 | succ n ih =>
   intro f ts
   induction ts with
   | nil=>intro p x _ _ _ hx;exact q4 hx.no
   | cons t r ihr =>
     intro p x hd hg hf hx;have hg1:=hg n rfl;unfold rgL at hg1
     simp only[Bool.and_eq_true,Bool.not_eq_true']at hg1
     obtain ⟨⟨⟨g1,g2⟩,g3⟩,g4⟩:=hg1;rw[zS]at hf
     obtain ⟨f',rfl⟩:∃ f',f=f'+1:=⟨f-1,by omega⟩
     have hrest:=ihr t.text x (fun u hu=>hd u (List.mem_cons_of_mem _ hu)) (fun m hm=>by cases hm;exact g4) (by omega) hx
     have e:showL (n+1) (t::r)++x=qH (showL n t.kids) t++(showL (n+1) r++x):=by simp[showL]
     have hone:(⟨qH (showL n t.kids) t++(showL (n+1) r++x),false⟩:Rs).treeAhead=true∧(⟨qH (showL n t.kids) t++(showL (n+1) r++x),false⟩:Rs).one (treesF f')=(t,⟨showL (n+1) r++x,false⟩):=by
      cases htt:t.text with
      | true =>
        have hy:(showL (n+1) r++x=[])∨∃ z,showL (n+1) r++x=60::z:=by
         cases r with
         | nil =>
           rcases hx with rfl|⟨y,rfl⟩
           · exact Or.inl rfl
           · exact Or.inr ⟨_,rfl⟩
         | cons u r =>
           unfold rgL at g4
           simp only[htt,Bool.and_eq_true,Bool.not_eq_true',Bool.true_and]at g4
           obtain ⟨y,hy⟩:=YK (showL n u.kids) u g4.1.1.2 (showL (n+1) r++x);exact Or.inr ⟨y,by rw[←hy];simp[showL]⟩
        obtain ⟨tx,s,ats,ks⟩:=t;simp only at htt
        subst htt;simp only[qn,if_true,Bool.and_eq_true,decide_eq_true_eq,Bool.not_eq_true']at g1
        have ha:ats=[]:=List.eq_nil_of_length_eq_zero g1.1.2;have hk:ks=[]:=List.eq_nil_of_length_eq_zero g1.2;subst ha hk
        have hs:s.data.toList≠[]:=by
         intro e;have:=g1.1.1.1;rw[ByteArray.toList_eq]at this
         have e2:s.data=#[]:=by cases hh:s.data;rw[hh]at e;simp at e;subst e;rfl
         rw[e2]at this;simp at this
        have:=Jd hs (showL (n+1) r++x) hy (treesF f');rw[yJ]at this
        simpa[qH] using this
      | false =>
        refine Qr htt g1 _ _ _ ?_;intro _ z;have hk:rgt n t.kids=true:=by simpa[htt] using g3
        exact ih f' t.kids false _ (hd t List.mem_cons_self) (fun m hm=>by subst hm;exact hk) (by omega) (Or.inr ⟨z,rfl⟩)
     rw[e,zk hone.1,hone.2,hrest]
theorem YS {s:List UInt8}(h:s≠[]):1≤(qv false s).length:=by
 cases s with
 | nil=>exact absurd rfl h
 | cons c s =>
   obtain ⟨d,l,hd,_⟩:=xD c;simp[qv,hd]
theorem dep_show:∀ (n:Nat)(ts:List Tr)(p:Bool),(∀ m,n=m+1→rgL (rgt m) p ts=true)→dep n ts≤(showL n ts).length:=by
 intro n
 induction n with
 | zero=>intro ts p _;exact nZ9 _
 | succ n ih =>
   intro ts
   induction ts with
   | nil=>intro p _;rw[zu];exact nZ9 _
   | cons t r ihr =>
     intro p hg;have hg1:=hg n rfl;unfold rgL at hg1
     simp only[Bool.and_eq_true,Bool.not_eq_true']at hg1
     obtain ⟨⟨⟨g1,g2⟩,g3⟩,g4⟩:=hg1;have h1:=ihr t.text (fun m hm=>by cases hm;exact g4)
     have h2:(showL (n+1) (t::r)).length=(qH (showL n t.kids) t).length+(showL (n+1) r).length:=by simp[showL]
     have h3:1+dep n t.kids≤(qH (showL n t.kids) t).length:=by
      obtain ⟨tx,s,ats,ks⟩:=t;cases tx with
      | true =>
        simp only[qn,if_true,Bool.and_eq_true,decide_eq_true_eq,Bool.not_eq_true']at g1
        have hk:ks=[]:=List.eq_nil_of_length_eq_zero g1.2
        have hs:s.data.toList≠[]:=by
         intro e;have:=g1.1.1.1;rw[ByteArray.toList_eq]at this
         have e2:s.data=#[]:=by cases hh:s.data;rw[hh]at e;simp at e;subst e;rfl
         rw[e2]at this;simp at this
        simp only[hk,zu,qH,if_true];exact YS hs
      | false =>
        have h5:rgt n ks=true:=by simpa using g3
        have h4:=ih ks false (fun m hm=>by subst hm;exact h5)
        cases ks with
        | nil=>simp[qH,zu]
        | cons k ks=>simp[qH];omega
     rw[zS,h2];omega
theorem Z8 {n:Nat}{t:Tr}(hd:Deep n t.kids)(hg:qR t=true)(hl:(qH (showL n t.kids) t).length≤2500):qw (qH (showL n t.kids) t)=(t,0):=by
 have hg2:=hg;rw[xA hd]at hg2
 simp only[Bool.and_eq_true,Bool.not_eq_true',decide_eq_true_eq]at hg2
 obtain ⟨⟨⟨h1,_⟩,_⟩,h4⟩:=hg2;have h5:rgL (rgt n) false [t]=true:=h4;unfold rgL at h5
 simp only[Bool.and_eq_true]at h5
 have hk:rgt n t.kids=true:=by simpa[h1] using h5.1.2
 have hdp:dep n t.kids≤(qH (showL n t.kids) t).length:=by
  have:=dep_show (n+1) [t] false (fun m hm=>by cases hm;exact h4)
  rw[zS]at this
  simp only[showL,List.flatMap_cons,List.flatMap_nil,List.append_nil]at this
  omega
 have hone:=(Qr h1 h5.1.1.1 (treesF (qH (showL n t.kids) t).length) (showL n t.kids) [] (fun _ z =>
  back_list n _ t.kids false _ hd (fun m hm=>by subst hm;exact hk) hdp (Or.inr ⟨z,rfl⟩))).2
 rw[List.append_nil]at hone
 unfold qw;rw[if_neg (by omega),hone]
 simp[hg]
end Go.Proofs.YtkbhckhbgalaoaaGreatDoor
namespace Go.Proofs.YtkbhckhbgalaoaaGreatDoor
open Go.ChangeShapes Go.WideShapes Go.ChangeAt Go.RowKit
set_option maxRecDepth 100000
section
attribute [local go_sem] qi
theorem ZC (s:List UInt8):TextsN (s.length+1) [(qw s).1]:=by
 have hz:TextsN (s.length+1) [zeroT]:=by
  intro t ht;simp only[List.mem_singleton]at ht
  subst ht;exact ⟨⟨nZ9 _,by intro x hx;simp[zeroT]at hx⟩,(zw.nil 0 s.length).texts (nZ9 _)⟩
 unfold qw
 split
 · exact hz
 · rename_i h
   split
   · exact hz
   · refine zw.texts (M := 2501) (by unfold maxLen;omega) _ _ ?_
     intro t ht;simp only[List.mem_singleton]at ht
     subst ht;exact j0 (M:=2500) (yQ 2500 s.length) _ (by show s.length≤_;omega)
def marksT:Tr:=⟨false,⟨#[97]⟩,[(⟨#[98]⟩,⟨#[60]⟩)],[⟨true,⟨#[120]⟩,[],[]⟩,⟨false,⟨#[99]⟩,[],[]⟩]⟩
def marksS:List UInt8:=[60,97,32,98,61,34,38,108,116,59,34,62,120,60,99,47,62,60,47,97,62]
theorem marksT_deep:Deep 1 marksT.kids:=by
 intro t ht;simp only[marksT,List.mem_cons,List.not_mem_nil,or_false]at ht
 rcases ht with rfl|rfl<;>rfl
theorem marksT_good:qR marksT=true:=by kernel_rfl
theorem marks_parsed:qw marksS=(marksT,0):=by
 have:=Z8 marksT_deep marksT_good (by decide)
 exact this
theorem marks_printed:j2 21 marksT=(⟨#[60,97,32,98,61,34,38,108,116,59,34,62,120,60,99,47,62,60,47,97,62]⟩,0):=by kernel_rfl
end
section
attribute [local go_sem] qi
set_option maxHeartbeats 1000000 in
theorem xJ (w:World)(hM:qu w):Calls Tryz.prog 8 #[] w fun e w'=>e=.returned (.bool true)∧Below w.heap.size w w':=by
 have HC:Hid (Calls Tryz.prog 5 #[.string ⟨#[60,97,32,98,61,34,38,108,116,59,34,62,120,60,99,47,62,60,47,97,62]⟩] w fun e w' =>
  ∃ va vk,e=.returned (.tuple #[.agg #[.bool marksT.text,.string marksT.s,va,vk],.int .i64 0])∧qf (fun b=>w.heap.size≤b) w' va marksT.attrs∧qb (fun b=>w.heap.size≤b) w' 21 vk marksT.kids∧Below w.heap.size w w'):=by
  have:=QD marksS w hM (by decide)
  rw[marks_parsed]at this
  exact this
 have HX:Hid (TextsN 22 [marksT]):=by have:=ZC marksS;rw[marks_parsed]at this;exact this
 have HM:Hid (qu w):=hM;clear hM
 go_enter Tryz.func8,Tryz.ntmps8
 go_wp2_with fail;refine (Calls.mono HC.out ?_);rintro e w1 ⟨va,vk,rfl,hA1,hK1,hB1⟩;obtain ⟨aa,ac,rfl⟩:=hA1.shape;obtain ⟨ka,kc,rfl,_,_⟩:=qb.shape 21 hK1;have hb2:=Below.alloc1 w1 (.cells #[.bool marksT.text,.string marksT.s,.slice aa marksT.attrs.length ac,.slice ka marksT.kids.length kc] 25);have hB2:Below w.heap.size w _:=hB1.trans (hb2.mono hB1.size);have HP:=ZD _ 21 _ _ marksT _ (hA1.later hb2) (qb.later hb2 21 hK1) (HM.out.later hB2 HM.out.lt) HX.out;rw[marks_printed]at HP
 have HPP:Hid _:=HP;clear HC HP;go_wp2_with fail;refine (Calls.mono HPP.out ?_);rintro e w2 ⟨rfl,hb3⟩;have hB3:=hB2.trans (hb3.mono hB2.size);clear HPP hb2 hA1 hK1;go_wp2_with fail;go_ret;exact ⟨rfl,hB3⟩
end
end Go.Proofs.YtkbhckhbgalaoaaGreatDoor
