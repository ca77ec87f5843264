/- topiaryref.ParseTree, ParseContent, ParseText, for every text: what parseD, contD and textT say. Condition: the variable MaxLen holds a number. -/
import Derived.Test.YtfplhcicbbhljaaGreatDoorBundle29
namespace Go.Proofs.YtfplhcicbbhljaaGreatDoor
open Go.ChangeShapes Go.WideShapes Go.ChangeAt Go.RowKit
set_option maxRecDepth 100000
section
attribute [local go_sem] qd
set_option maxHeartbeats 2000000 in
theorem QG (s:List UInt8)(w:World)(hm:xH w)(hs:s.length≤9223372036854775807) :
 Calls Tryz.prog 16 #[.string (qa s)] w fun e w'=>e=.returned (.tuple #[.string (qa (jj s).1),.int .i64 (jj s).2])∧Below w.heap.size w w':=by
 have hz:=qe s
 by_cases hl:2500<s.length
 · have HV : Hid (jj s = ([], 2)) := by show _ = _;unfold jj;rw[if_pos hl]
   go_enter Tryz.func16,Tryz.ntmps16
   go_wp2_with fail;refine bodyPost_ret (v:=.tuple #[.string ⟨#[]⟩,.int .i64 2]) (by simp[results,Tryz.results16,go_sem]) rfl ?_
   exact ⟨by rw[HV.out];rfl,Below.refl _ _⟩
 · have HC : Hid _ := Za s false w hm (by omega)
   obtain ⟨x,f,hx⟩:∃ x f,zh false s=(x,f):=⟨_,_,rfl⟩;have HV:Hid (jj s=if f&&qN (qa x) then (x,0) else ([],1)):=by show _=_;unfold jj;rw[if_neg hl,hx]
   have hxl:f=true→(qa x).size≤maxLen:=fun hf=>by
    unfold zh zu at hx
    cases hq:zt false (s.length+1) s with
    | none=>rw[hq]at hx;injection hx with _ h2;rw[←h2]at hf;cases hf
    | some y =>
      rw[hq]at hx
      injection hx with h1 _
      subst h1;have:=Zb false _ _ _ hq;exact xL _ (by omega)
   rw[hx]at HC
   clear hx
   go_enter Tryz.func16,Tryz.ntmps16
   go_wp2_with fail;refine Calls.mono HC.out ?_;rintro e w1 ⟨rfl,hb1⟩;clear HC;cases f with
   | false =>
     go_wp2_with fail;refine bodyPost_ret (v:=.tuple #[.string ⟨#[]⟩,.int .i64 1]) (by simp[results,Tryz.results16,go_sem]) rfl ?_
     exact ⟨by rw[HV.out];rfl,hb1⟩
   | true =>
     have HP:Hid _:=QD (qa x) w1 (hxl rfl);clear hxl;go_wp2_with fail;refine Calls.mono HP.out ?_;rintro e w2 ⟨rfl,hb2⟩;have HB2:Hid _:=hb1.trans (hb2.mono hb1.size);clear HP;cases hp:qN (qa x) with
     | false =>
       rw[hp]at HV
       clear hp;go_wp2_with fail;refine bodyPost_ret (v:=.tuple #[.string ⟨#[]⟩,.int .i64 1]) (by simp[results,Tryz.results16,go_sem]) rfl ?_
       exact ⟨by rw[HV.out];rfl,HB2.out⟩
     | true =>
       rw[hp]at HV
       clear hp;go_wp2_with fail;refine bodyPost_ret (v:=.tuple #[.string (qa x),.int .i64 0]) (by simp[results,Tryz.results16,go_sem]) rfl ?_
       exact ⟨by rw[HV.out];rfl,HB2.out⟩
set_option maxHeartbeats 2000000 in
theorem Jb (s:List UInt8)(w:World)(hm:xH w)(hs:s.length≤9223372036854775807) :
 Calls Tryz.prog 18 #[.string (qa s)] w fun e w'=>∃ v,e=.returned (.tuple #[v,.int .i64 (jP s).2])∧qb (fun b=>w.heap.size≤b) w' 9 v (jP s).1∧Below w.heap.size w w':=by
 have hz:=qe s;have hnil:∀ W,qb (fun b=>w.heap.size≤b) W 9 (.slice none 0 0) []:=fun W=>qb.nil 9 ⟨none,0,rfl,nZ9 _⟩
 by_cases hl:2500<s.length
 · have HV : Hid (jP s = ([], 2)) := by show _ = _;unfold jP;rw[if_pos hl]
   go_enter Tryz.func18,Tryz.ntmps18
   go_wp2_with fail;refine bodyPost_ret (v:=.tuple #[.slice none 0 0,.int .i64 2]) (by simp[results,Tryz.results18,go_sem]) rfl ?_
   rw[HV.out];exact ⟨_,rfl,hnil _,Below.refl _ _⟩
 · have HC : Hid _ := qai s w hm (by omega)
   have hsl:s.length≤1048576:=by omega
   have HV:Hid (jP s=match ze s with
    | none=>([],1)
    | some l=>if qF l then (l,0) else ([],1)):=by show _=_;unfold jP;rw[if_neg hl];rfl
   go_enter Tryz.func18,Tryz.ntmps18
   go_wp2_with fail;refine Calls.mono HC.out ?_;rintro e w1 ⟨hb1,v,b,rfl,hf⟩;clear HC;cases hfo:ze s with
   | none =>
     rw[hfo]at hf HV
     subst hf;clear hfo;go_wp2_with fail;refine bodyPost_ret (v:=.tuple #[.slice none 0 0,.int .i64 1]) (by simp[results,Tryz.results18,go_sem]) rfl ?_
     rw[HV.out];exact ⟨_,rfl,hnil _,hb1⟩
   | some l =>
     rw[hfo]at hf HV
     obtain ⟨rfl,hT⟩:=hf;obtain ⟨hc,hx⟩:=qak hfo hsl;have HP:Hid _:=JM _ 8 v l w1 hT (hc 8) (hx 9);have HT:Hid _:=hT;obtain ⟨a,c,rfl,_,_⟩:=qb.shape 9 hT;clear hT hc hx hfo;go_wp2_with fail;refine Calls.mono HP.out ?_;rintro e w2 ⟨rfl,hb2⟩;have HB2:Hid _:=hb1.trans (hb2.mono hb1.size);have HT2:Hid _:=qb.later hb2 9 HT.out;clear HP HT;cases hg:qF l with
     | false =>
       have HV2:Hid (jP s=([],1)):=by show _=_;rw[HV.out];simp[hg]
       clear hg HV;go_wp2_with fail;refine bodyPost_ret (v:=.tuple #[.slice none 0 0,.int .i64 1]) (by simp[results,Tryz.results18,go_sem]) rfl ?_
       rw[HV2.out];exact ⟨_,rfl,hnil _,HB2.out⟩
     | true =>
       have HV2:Hid (jP s=(l,0)):=by show _=_;rw[HV.out];simp[hg]
       clear hg HV;go_wp2_with fail;refine bodyPost_ret (v:=.tuple #[.slice a l.length c,.int .i64 0]) (by simp[results,Tryz.results18,go_sem]) rfl ?_
       rw[HV2.out];exact ⟨_,rfl,HT2.out,HB2.out⟩
end
end Go.Proofs.YtfplhcicbbhljaaGreatDoor
