/- Bundled: MeantR SameDR IsDocR MeantP SelectP. What each says stands ahead of it. -/
import Derived.Test.YtfdbipeidmpciaaGreatDoorBundle11
import Derived.Deep.CutRange
namespace Go.Proofs.YtfdbipeidmpciaaGreatDoor
open Go.ChangeShapes Go.WideShapes Go.ChangeAt Go.RowKit
set_option maxRecDepth 100000
section
attribute [local go_sem] qf
theorem qy.init {S:Nat→Prop}{w:World}{b o n c:Nat}{l:List St}{s:St}(h:qy S w (.slice (some ⟨b,o,none⟩) n c) (l++[s])):qy S w (.slice (some ⟨b,o,none⟩) l.length c) l:=by
 obtain ⟨a,cap,h1,h2,h3,h4⟩:=h;obtain ⟨b',o',ha,hs,hc⟩:=h4 (by simp)
 injection h1 with h1 _ h5
 subst h5;rw[ha]at h1
 injection h1 with h1
 injection h1 with h6 h7 _
 subst h6 h7;rw[List.length_append]at h2
 exact ⟨_,c,rfl,by omega,h3,fun _=>⟨b,o,rfl,hs,fun i x hx=>hc i x (by rw[List.getElem?_append_left (qk hx)];exact hx)⟩⟩
theorem Zk (ns:List Nd)(par:Int)(name:ByteArray):∀ k,qO ns par name k≤k:=by
 intro k
 induction k with
 | zero=>exact nR9 _
 | succ k ih=>rw[qO];split<;>omega
def yS (m:Nat):Prop:=∀ (S T:Nat→Prop)(v vs:Value)(ns:List Nd)(l:List St)(n:Nat)(w:World),zM S w v ns→qg ns=true→qy T w vs l→l.length=m→n<ns.length →
 Calls Tryz.prog 15 #[.agg #[v],.int .i64 (n:Int),vs] w fun e w'=>e=.returned (.bool (zA ns l.reverse n))∧Below w.heap.size w w'
set_option maxHeartbeats 4000000 in
theorem xV (m:Nat)(ih:0<m→yS m):yS (m+1):=by
 intro S T v vs ns l n w hD hg hT hm hn;obtain ⟨l,s,rfl⟩:∃ l' s,l=l'++[s]:=⟨l.dropLast,l.getLast (by intro e;rw[e]at hm;simp at hm),(List.dropLast_concat_getLast _).symm⟩
 have hlm:l.length=m:=by simpa using hm
 obtain ⟨x,hx⟩:∃ x,ns[n]?=some x:=⟨ns[n],by simp[hn]⟩
 obtain ⟨va,vc,hvs,hvl,hvm,hv4⟩:=id hT;obtain ⟨sb,so,rfl,hSb,hsc⟩:=hv4 (by simp)
 rw[List.length_append,List.length_singleton,hlm]at hvs hvl
 subst hvs;obtain ⟨s0,s1⟩:=hsc m s (by rw[List.getElem?_append_right (by omega),hlm];simp)
 have HM:Hid (zA ns (l++[s]).reverse n=(qM x s.name&&(decide (x.parent<0)==l.reverse.isEmpty)&&(decide (x.parent<0)||zA ns l.reverse x.parent.toNat)&&(decide (s.n=0)||decide (s.n=(qO ns x.parent s.name (n+1):Int))))):=by
  show _=_
  rw[List.reverse_append,List.reverse_singleton,List.singleton_append,zA,hx]
 have hrev:l.reverse.isEmpty=decide (m=0):=by
  cases l with
  | nil=>simp at hlm;subst hlm;rfl
  | cons a l=>simp at hlm;rw[←hlm];simp
 rw[hrev]at HM
 have HTI:Hid (qy T w (.slice (some ⟨sb,so,none⟩) l.length vc) l):=hT.init;rw[hlm]at HTI
 have HD:Hid (zM S w v ns):=hD;obtain ⟨b,o,cap,xva,xvk,rfl,hlc,hcm,hSb2,hbw,c0,c1,c2,c3,c4,hAt,hKi⟩:=hD.nodes.at hx
 obtain ⟨xa,xac,rfl⟩:=hAt.shape;obtain ⟨ka,kc,rfl,_,_⟩:=hKi.shape;unfold maxLen at hcm hvm
 have hsw:sb<w.heap.size:=World.block_lt_of_cell? w _ s0;have HX:Hid (ns[n]?=some x):=hx;have HG:Hid (qg ns=true):=hg;have HIH:Hid (0<m→yS m):=ih;have hni:(n:Int)<(ns.length:Int):=by omega
 have h80:ns.length≤80:=by
  have:=hg;simp only[qg,Bool.and_eq_true,decide_eq_true_eq]at this
  exact this.1.1
 have hb3:Below w.heap.size w (((w.alloc (.cells #[.slice (some ⟨b,o,none⟩) ns.length cap] 24)).alloc (.cells #[.string s.name,.int .i64 s.n] 42)).alloc (.cells #[.bool x.text,.string x.s,.slice xa x.attrs.length xac,.int .i64 x.parent,.slice ka x.kids.length kc] 38)):=((Below.alloc1 w _).alloc (by simp) _).alloc (by simp;omega) _
 have hd3:(((w.alloc (.cells #[.slice (some ⟨b,o,none⟩) ns.length cap] 24)).alloc (.cells #[.string s.name,.int .i64 s.n] 42)).alloc (.cells #[.bool x.text,.string x.s,.slice xa x.attrs.length xac,.int .i64 x.parent,.slice ka x.kids.length kc] 38)).heap[w.heap.size]?=some (.cells #[.slice (some ⟨b,o,none⟩) ns.length cap] 24 (0,0)):=by
  rw[Lib.alloc_old _ _ _ (by simp;omega),Lib.alloc_old _ _ _ (by simp)];exact heap_alloc_new _ _
 have hs3:(((w.alloc (.cells #[.slice (some ⟨b,o,none⟩) ns.length cap] 24)).alloc (.cells #[.string s.name,.int .i64 s.n] 42)).alloc (.cells #[.bool x.text,.string x.s,.slice xa x.attrs.length xac,.int .i64 x.parent,.slice ka x.kids.length kc] 38)).heap[w.heap.size+1]?=some (.cells #[.string s.name,.int .i64 s.n] 42 (0,0)):=by
  rw[Lib.alloc_old _ _ _ (by simp)]
  have e:=heap_alloc_new (w.alloc (.cells #[.slice (some ⟨b,o,none⟩) ns.length cap] 24)) (.cells #[.string s.name,.int .i64 s.n] 42);rw[World.size_alloc]at e
  exact e
 have hx3:(((w.alloc (.cells #[.slice (some ⟨b,o,none⟩) ns.length cap] 24)).alloc (.cells #[.string s.name,.int .i64 s.n] 42)).alloc (.cells #[.bool x.text,.string x.s,.slice xa x.attrs.length xac,.int .i64 x.parent,.slice ka x.kids.length kc] 38)).heap[w.heap.size+2]?=some (.cells #[.bool x.text,.string x.s,.slice xa x.attrs.length xac,.int .i64 x.parent,.slice ka x.kids.length kc] 38 (0,0)):=by
  have e:=heap_alloc_new ((w.alloc (.cells #[.slice (some ⟨b,o,none⟩) ns.length cap] 24)).alloc (.cells #[.string s.name,.int .i64 s.n] 42)) (.cells #[.bool x.text,.string x.s,.slice xa x.attrs.length xac,.int .i64 x.parent,.slice ka x.kids.length kc] 38);rw[World.size_alloc,World.size_alloc]at e
  exact e
 have c0a:∀ X,(w.alloc X).cell? ⟨sb,so+m*2,none⟩=some (.string s.name):=fun X=>Lib.cell?_alloc_some _ s0
 have c1a:∀ X,(w.alloc X).cell? ⟨sb,so+m*2+1,none⟩=some (.int .i64 s.n):=fun X=>Lib.cell?_alloc_some _ s1
 have e0:∀ X Y,((w.alloc X).alloc Y).cell? ⟨b,o+n*5,none⟩=some (.bool x.text):=fun X Y=>Lib.cell?_alloc_some _ (Lib.cell?_alloc_some _ c0)
 have e1:∀ X Y,((w.alloc X).alloc Y).cell? ⟨b,o+n*5+1,none⟩=some (.string x.s):=fun X Y=>Lib.cell?_alloc_some _ (Lib.cell?_alloc_some _ c1)
 have e2:∀ X Y,((w.alloc X).alloc Y).cell? ⟨b,o+n*5+2,none⟩=some (.slice xa x.attrs.length xac):=fun X Y=>Lib.cell?_alloc_some _ (Lib.cell?_alloc_some _ c2)
 have e3:∀ X Y,((w.alloc X).alloc Y).cell? ⟨b,o+n*5+3,none⟩=some (.int .i64 x.parent):=fun X Y=>Lib.cell?_alloc_some _ (Lib.cell?_alloc_some _ c3)
 have e4:∀ X Y,((w.alloc X).alloc Y).cell? ⟨b,o+n*5+4,none⟩=some (.slice ka x.kids.length kc):=fun X Y=>Lib.cell?_alloc_some _ (Lib.cell?_alloc_some _ c4)
 have hmm:(m:Int)<(m:Int)+1:=by omega
 have HLM:Hid (l.length=m):=hlm;clear hT hm hlm hx hg ih hv4 hsc hrev hD hAt hKi
 go_enter Tryz.func15,Tryz.ntmps15
 go_wp2_with fail;have hZ3:(((w.alloc (.cells #[.slice (some ⟨b,o,none⟩) ns.length cap] 24)).alloc (.cells #[.string s.name,.int .i64 s.n] 42)).alloc (.cells #[.bool x.text,.string x.s,.slice xa x.attrs.length xac,.int .i64 x.parent,.slice ka x.kids.length kc] 38)).heap.size=w.heap.size+3:=by simp
 generalize (((w.alloc (.cells #[.slice (some ⟨b,o,none⟩) ns.length cap] 24)).alloc (.cells #[.string s.name,.int .i64 s.n] 42)).alloc (.cells #[.bool x.text,.string x.s,.slice xa x.attrs.length xac,.int .i64 x.parent,.slice ka x.kids.length kc] 38))=W3 at *
 have HW:Hid (∀ W,Below W3.heap.size W3 W→Below w.heap.size w W):=fun W h=>hb3.trans (h.mono hb3.size)
 have HBX:Hid (∀ W,Below W3.heap.size W3 W→W.cell? ⟨w.heap.size,0,none⟩=some (.slice (some ⟨b,o,none⟩) ns.length cap)∧W.cell? ⟨w.heap.size+1,0,none⟩=some (.string s.name)∧W.cell? ⟨w.heap.size+1,1,none⟩=some (.int .i64 s.n)∧W.cell? ⟨w.heap.size+2,3,none⟩=some (.int .i64 x.parent)):=by
  intro W h;have h1:=(h.block _ (qe hd3)).trans hd3;have h2:=(h.block _ (qe hs3)).trans hs3;have h3:=(h.block _ (qe hx3)).trans hx3;exact ⟨by rw[cH9 h1];rfl,by rw[cH9 h2];rfl,by rw[cH9 h2];rfl,by rw[cH9 h3];rfl⟩
 have HCL:Hid _:=yV x xa x.attrs.length xac ka x.kids.length kc s.name W3;obtain ⟨q,hq⟩:∃ q,qM x s.name=q:=⟨_,rfl⟩;rw[hq]at HCL HM
 clear hq c0a c1a e0 e1 e2 e3 e4 c0 c1 c2 c3 c4 s0 s1 hd3 hs3 hx3 hb3 hZ3;refine (Calls.mono HCL.out ?_);rintro e w4 ⟨rfl,hb4⟩;clear HCL;cases q with
 | false =>
   have HE:Hid (zA ns (l++[s]).reverse n=false):=by show _=_;rw[HM.out];rfl
   clear HM;go_wp2_with fail;go_ret;exact ⟨by rw[HE.out];rfl,HW.out _ hb4⟩
 | true =>
   obtain ⟨d4,n4,k4,p4⟩:=HBX.out w4 hb4;obtain ⟨R,hR⟩:∃ R,zA ns l.reverse x.parent.toNat=R:=⟨_,rfl⟩;rw[hR]at HM
   have HR:Hid (zA ns l.reverse x.parent.toNat=R):=hR;clear hR
   have hpar:¬ x.parent<0→x.parent.toNat<ns.length:=by
    intro hp
    rcases (qj HG.out HX.out).par with ⟨_,h1⟩|⟨pq,y,h1,h2,h3,_⟩
    · omega
    · have:=qk h1;omega
   go_upto_region 5 with fail
   go_cut [50] from 27 to 49 (fun c wz=>c=.bool (!((decide (x.parent<0)==decide (m=0))&&(decide (x.parent<0)||R)))∧Below W3.heap.size W3 wz)
   case first =>
    by_cases hp:x.parent<0
    · have hpd : decide (x.parent < 0) = true := by simpa using hp
      have hpg:decide (0≤x.parent)=false:=by simp;omega
      by_cases hm0:m=0
      · have hmq : ((m : Int) + 1 == 1) = true := by simp[hm0]
        have HC:Hid ((!((decide (x.parent<0)==decide (m=0))&&(decide (x.parent<0)||R)))=false):=by show _=_;rw[hpd];simp[hm0]
        have HC2:Hid _:=hm0;clear HM hm0
        go_quiet (fail)
        go_wp2_with fail
        go_meet
        case rel => exact ⟨by rw[HC.out],below_drewN hb4 nq⟩
      · have hmq : ((m : Int) + 1 == 1) = false := by simp;omega
        have HC:Hid ((!((decide (x.parent<0)==decide (m=0))&&(decide (x.parent<0)||R)))=true):=by show _=_;rw[hpd];simp[hm0]
        clear HM hm0
        go_quiet (fail)
        go_wp2_with fail
        go_meet
        case rel => exact ⟨by rw[HC.out],below_drewN hb4 nq⟩
    · have hpd : decide (x.parent < 0) = false := by simpa using hp
      have hpg:decide (0≤x.parent)=true:=by simp;omega
      by_cases hm0:m=0
      · have hmq : ((m : Int) + 1 == 1) = true := by simp[hm0]
        have HC:Hid ((!((decide (x.parent<0)==decide (m=0))&&(decide (x.parent<0)||R)))=true):=by show _=_;rw[hpd];simp[hm0]
        clear HM hm0
        go_quiet (fail)
        go_wp2_with fail
        go_meet
        case rel => exact ⟨by rw[HC.out],below_drewN hb4 nq⟩
      · have hmq : ((m : Int) + 1 == 1) = false := by simp;omega
        have HC:Hid ((!((decide (x.parent<0)==decide (m=0))&&(decide (x.parent<0)||R)))=!R):=by show _=_;rw[hpd];simp[hm0]
        have hpl:=hpar (by omega)
        have HCALL:Hid (∀ W,Below W3.heap.size W3 W→Calls Tryz.prog 15 #[.agg #[.slice (some ⟨b,o,none⟩) ns.length cap],.int .i64 x.parent,.slice (some ⟨sb,so,none⟩) m vc] W fun e w'=>e=.returned (.bool R)∧Below W.heap.size W w'):=by
         intro W hW;have h1:=HIH.out (by omega) S T _ _ ns l x.parent.toNat W (HD.out.later (HW.out W hW)) HG.out (HTI.out.later (HW.out W hW)) HLM.out hpl
         rw[HR.out,show ((x.parent.toNat:Nat):Int)=x.parent by omega]at h1
         exact h1
        have hbn:=hb4.drew;have hms:(m:Int)≤(vc:Int):=by omega
        have hm00:(0:Int)≤(m:Int):=by omega
        have hwm:IntKind.i64.wrap (m:Int)=(m:Int):=IntWalk.i64_in _ (by omega)
        clear HM hm0 hpar
        go_region_held3 (fun W:World=>W.cell? ⟨w.heap.size,0,none⟩=some (.slice (some ⟨b,o,none⟩) ns.length cap)∧W.cell? ⟨w.heap.size+1,0,none⟩=some (.string s.name)∧W.cell? ⟨w.heap.size+1,1,none⟩=some (.int .i64 s.n)∧W.cell? ⟨w.heap.size+2,3,none⟩=some (.int .i64 x.parent))
         (first|with_reducible exact HBX.out _ hbn|exact HBX.out _ hbn)
         (first
          | (go_at_call 15;refine (Calls.mono (HCALL.out _ hbn) ?_);rintro e w5 ⟨rfl,hb5⟩;have hbn:=hbn.trans (hb5.mono hbn.size)))
        all_goals
         go_wp2_with fail
         go_meet
         case rel => exact ⟨by rw[HC.out],hbn⟩
   case rest =>
    obtain ⟨rfl,hbc⟩:=hcut;obtain ⟨Z,hZ⟩:∃ Z,((decide (x.parent<0)==decide (m=0))&&(decide (x.parent<0)||R))=Z:=⟨_,rfl⟩
    have HMZ:Hid (zA ns (l++[s]).reverse n=(Z&&(decide (s.n=0)||decide (s.n=(qO ns x.parent s.name (n+1):Int))))):=by
     show _=_;rw[HM.out,←hZ];simp
    rw[hZ];clear HM hZ;cases Z with
    | false =>
      have HE:Hid (zA ns (l++[s]).reverse n=false):=by show _=_;rw[HMZ.out];rfl
      clear HMZ;go_wp2_with fail;go_ret;exact ⟨by rw[HE.out];rfl,HW.out _ hbc⟩
    | true =>
      clear hb4 d4 n4 k4 p4;go_wp2_with fail
      go_loopg [10,9] (n+1) (fun g j u wr=>∃ (k:Nat),k+g=n+1∧j=.int .i64 (k:Int)∧u=.int .i64 ((qO ns x.parent s.name k:Nat):Int)∧Below W3.heap.size W3 wr)
      case atStart => exact ⟨0,by omega,rfl,rfl,hbc⟩
      case round =>
       obtain ⟨k,hk,rfl,rfl,hB⟩:=hrel;have hwl:=Zk ns x.parent s.name k;obtain ⟨d5,n5,k5,p5⟩:=HBX.out wr hB;obtain ⟨K,hK⟩:∃ K,qO ns x.parent s.name k=K:=⟨_,rfl⟩;rw[hK]at hwl
       by_cases hkn:k≤n
       · have hkni : (k : Int) ≤ (n : Int) := by omega
         obtain ⟨y,hy⟩:∃ y,ns[k]?=some y:=⟨ns[k]'(by omega),by simp⟩
         have HWK:Hid (qO ns x.parent s.name (k+1)=K+(if decide (y.parent=x.parent)&&qM y s.name then 1 else 0)):=by
          show _=_;rw[qO,hK];unfold yL;rw[hy]
         rw[hK];obtain ⟨b',o',cap',yva,yvk,hv',_,_,_,_,c0,c1,c2,c3,c4,hya,hyk⟩:=(HD.out.later (HW.out wr hB)).nodes.at hy
         cases hv';obtain ⟨ya,yac,rfl⟩:=hya.shape;obtain ⟨yk,ykc,rfl,_,_⟩:=hyk.shape;have hkl:(k:Int)<(ns.length:Int):=by omega
         clear hK hya hyk hy
         by_cases hpe:y.parent=x.parent
         · have hpb : (y.parent == x.parent) = true := by simpa using hpe
           have HCK:Hid (∀ W,Calls Tryz.prog 26 #[.agg #[.bool y.text,.string y.s,.slice ya y.attrs.length yac,.int .i64 y.parent,.slice yk y.kids.length ykc],.string s.name] W fun e w'=>e=.returned (.bool (qM y s.name))∧Below W.heap.size W w'):=fun W=>yV y ya y.attrs.length yac yk y.kids.length ykc s.name W
           obtain ⟨Q,hQ⟩:∃ Q,qM y s.name=Q:=⟨_,rfl⟩;rw[hQ]at HWK HCK
           have HWK2:Hid (qO ns x.parent s.name (k+1)=K+(if Q then 1 else 0)):=by show _=_;rw[HWK.out];simp[hpe]
           have hbn:=hB.drew
           have HCE:Hid (∀ W,Below W3.heap.size W3 W→W.cell? ⟨w.heap.size,0,none⟩=some (.slice (some ⟨b,o,none⟩) ns.length cap)∧W.cell? ⟨w.heap.size+1,0,none⟩=some (.string s.name)∧W.cell? ⟨w.heap.size+2,3,none⟩=some (.int .i64 x.parent) ∧
            W.cell? ⟨b,o+k*5,none⟩=some (.bool y.text)∧W.cell? ⟨b,o+k*5+1,none⟩=some (.string y.s)∧W.cell? ⟨b,o+k*5+2,none⟩=some (.slice ya y.attrs.length yac)∧W.cell? ⟨b,o+k*5+3,none⟩=some (.int .i64 y.parent)∧W.cell? ⟨b,o+k*5+4,none⟩=some (.slice yk y.kids.length ykc)):=by
            intro W h;obtain ⟨h1,h2,_,h4⟩:=HBX.out W h
            have hcell:∀ j,W.cell? ⟨b,j,none⟩=wr.cell? ⟨b,j,none⟩:=fun j=>by
             rw[(HW.out W h).cell (p:=⟨b,j,none⟩) hbw,(HW.out wr hB).cell (p:=⟨b,j,none⟩) hbw]
            exact ⟨h1,h2,h4,by rw[hcell];exact c0,by rw[hcell];exact c1,by rw[hcell];exact c2,by rw[hcell];exact c3,by rw[hcell];exact c4⟩
           clear hpe hQ HWK;go_wp2_with fail
           go_region_held3 (fun W:World=>W.cell? ⟨w.heap.size,0,none⟩=some (.slice (some ⟨b,o,none⟩) ns.length cap)∧W.cell? ⟨w.heap.size+1,0,none⟩=some (.string s.name)∧W.cell? ⟨w.heap.size+2,3,none⟩=some (.int .i64 x.parent) ∧
            W.cell? ⟨b,o+k*5,none⟩=some (.bool y.text)∧W.cell? ⟨b,o+k*5+1,none⟩=some (.string y.s)∧W.cell? ⟨b,o+k*5+2,none⟩=some (.slice ya y.attrs.length yac)∧W.cell? ⟨b,o+k*5+3,none⟩=some (.int .i64 y.parent)∧W.cell? ⟨b,o+k*5+4,none⟩=some (.slice yk y.kids.length ykc))
            (first|with_reducible exact HCE.out _ hbn|exact HCE.out _ hbn)
            (first
             | (go_at_call 26;refine (Calls.mono (HCK.out _) ?_);rintro e w5 ⟨rfl,hb5⟩;have hbn:=hbn.trans (hb5.mono hbn.size)))
           all_goals
            cases Q with
            | true =>
              go_wp2_with fail
              go_roundg (n+1-(k+1))
              case measure => omega
              case rel => exact ⟨k+1,by omega,by go_num,by rw[HWK2.out];go_num,hbn⟩
            | false =>
              go_wp2_with fail
              go_roundg (n+1-(k+1))
              case measure => omega
              case rel => exact ⟨k+1,by omega,by go_num,by rw[HWK2.out];rfl,hbn⟩
         · have hpb : (y.parent == x.parent) = false := by simpa using hpe
           have HWK2:Hid (qO ns x.parent s.name (k+1)=K):=by show _=_;rw[HWK.out];simp[hpe]
           clear hpe HWK;go_wp2_with fail
           go_quiet (fail)
           go_wp2_with fail
           go_roundg (n+1-(k+1))
           case measure => omega
           case rel => exact ⟨k+1,by omega,by go_num,by rw[HWK2.out],below_drewN hB nq⟩
       · have hkni : ¬ ((k : Int) ≤ (n : Int)) := by omega
         have hkk:k=n+1:=by omega
         have HE:Hid (zA ns (l++[s]).reverse n=(decide (s.n=0)||decide (s.n=(K:Int)))):=by show _=_;rw[HMZ.out,←hkk,hK];rfl
         rw[hK];clear hK hkk HMZ
         by_cases hs0:s.n=0
         · have hsb : (s.n == 0) = true := by simpa using hs0
           have HE2:Hid (zA ns (l++[s]).reverse n=true):=by show _=_;rw[HE.out];simp[hs0]
           clear HE hs0;go_wp2_with fail;go_ret;exact ⟨by first|(rw[HE2.out];rfl)|(rw[show s::l.reverse=(l++[s]).reverse by simp,HE2.out];rfl),HW.out _ hB⟩
         · have hsb : (s.n == 0) = false := by simpa using hs0
           have HE2:Hid (zA ns (l++[s]).reverse n=(s.n==(K:Int))):=by show _=_;rw[HE.out];simp[hs0];rfl
           clear HE hs0;go_wp2_with fail;go_ret;exact ⟨by first|(rw[HE2.out];rfl)|(rw[show s::l.reverse=(l++[s]).reverse by simp,HE2.out];rfl),HW.out _ hB⟩
theorem meant_any:∀ m,0<m→yS m:=by
 intro m
 induction m with
 | zero=>intro h;omega
 | succ m ih=>intro _;exact xV m ih
end
section
attribute [local go_sem] qf
theorem ndsB_len:∀ {a b:List Nd},a.length≠b.length→ndsB a b=false:=by
 intro a b h;cases hq:ndsB a b with
 | false=>rfl
 | true=>exact absurd (by rw[ndsB_iff.1 hq]) h
theorem QA {a b:List Nd}{i:Nat}{x y:Nd}(hx:a[i]?=some x)(hy:b[i]?=some y):ndsB (a.drop i) (b.drop i)=(ndB x y&&ndsB (a.drop (i+1)) (b.drop (i+1))):=by
 have ha:i<a.length:=by
  rcases Nat.lt_or_ge i a.length with h'|h'
  · exact h'
  · rw[List.getElem?_eq_none h']at hx;cases hx
 have hb:i<b.length:=by
  rcases Nat.lt_or_ge i b.length with h'|h'
  · exact h'
  · rw[List.getElem?_eq_none h']at hy;cases hy
 have e1:a.drop i=x::a.drop (i+1):=by rw[List.drop_eq_getElem_cons ha];congr 1;simpa[ha] using hx
 have e2:b.drop i=y::b.drop (i+1):=by rw[List.drop_eq_getElem_cons hb];congr 1;simpa[hb] using hy
 rw[e1,e2,ndsB]
set_option maxHeartbeats 4000000 in
theorem jg (S T:Nat→Prop)(va vb:Value)(ns ms:List Nd)(w:World)(h1:qr S w va ns)(h2:qr T w vb ms) :
 Calls Tryz.prog 10 #[.agg #[va],.agg #[vb]] w fun e w'=>e=.returned (.bool (ndsB ns ms))∧Below w.heap.size w w':=by
 have H1:Hid (qr S w va ns):=h1;have H2:Hid (qr T w vb ms):=h2;obtain ⟨a,ca,rfl,_,hcm⟩:=h1.shape;obtain ⟨b,cb,rfl,_,hcm2⟩:=h2.shape;unfold maxLen at hcm hcm2
 have hb0:Below w.heap.size w ((w.alloc (.cells #[.slice a ns.length ca] 24)).alloc (.cells #[.slice b ms.length cb] 24)):=(Below.alloc1 w _).alloc (by simp) _
 have hx0:((w.alloc (.cells #[.slice a ns.length ca] 24)).alloc (.cells #[.slice b ms.length cb] 24)).heap[w.heap.size]?=some (.cells #[.slice a ns.length ca] 24 (0,0)):=by
  rw[Lib.alloc_old _ _ _ (by simp)];exact heap_alloc_new _ _
 have hy0:((w.alloc (.cells #[.slice a ns.length ca] 24)).alloc (.cells #[.slice b ms.length cb] 24)).heap[w.heap.size+1]?=some (.cells #[.slice b ms.length cb] 24 (0,0)):=by
  have e:=heap_alloc_new (w.alloc (.cells #[.slice a ns.length ca] 24)) (.cells #[.slice b ms.length cb] 24);rw[World.size_alloc]at e
  exact e
 clear h1 h2
 by_cases hlm:ns.length=ms.length
 · have hne : ((ns.length : Int) != (ms.length : Int)) = false := by simp[hlm]
   have HLM:Hid (ns.length=ms.length):=hlm;clear hlm
   go_enter Tryz.func10,Tryz.ntmps10
   go_wp2_with fail
   generalize ((w.alloc (.cells #[.slice a ns.length ca] 24)).alloc (.cells #[.slice b ms.length cb] 24))=W1 at *
   go_loopg [18] ns.length (fun g j wr=>∃ (i:Nat),i+g=ns.length∧j=.int .i64 (i:Int)∧Below W1.heap.size W1 wr∧ndsB ns ms=ndsB (ns.drop i) (ms.drop i))
   case atStart => exact ⟨0,by omega,rfl,Below.refl _ _,rfl⟩
   case round =>
    obtain ⟨i,hi,rfl,hB,hT⟩:=hrel;have HT:Hid (ndsB ns ms=ndsB (ns.drop i) (ms.drop i)):=hT;clear hT;have hBw:Below w.heap.size w wr:=hb0.trans (hB.mono hb0.size);have hxr:=(hB.block _ (qe hx0)).trans hx0;have hyr:=(hB.block _ (qe hy0)).trans hy0;have dx:wr.cell? ⟨w.heap.size,0,none⟩=some (.slice a ns.length ca):=by rw[cH9 hxr];rfl
    have dy:wr.cell? ⟨w.heap.size+1,0,none⟩=some (.slice b ms.length cb):=by rw[cH9 hyr];rfl
    by_cases hil:i<ns.length
    · have him : i < ms.length := by have := HLM.out;omega
      obtain ⟨x,hx⟩:∃ x,ns[i]?=some x:=⟨ns[i],by simp[hil]⟩
      obtain ⟨y,hy⟩:∃ y,ms[i]?=some y:=⟨ms[i],by simp[him]⟩
      obtain ⟨b1,o1,c1,xva,xvk,hv1,_,_,_,hbw1,p0,p1,p2,p3,p4,hxA,hxK⟩:=(H1.out.later hBw).at hx
      injection hv1 with hv1 hvl hv2
      subst hv1 hv2;clear hvl;obtain ⟨b2,o2,c2,yva,yvk,hv3,_,_,_,hbw2,q0,q1,q2,q3,q4,hyA,hyK⟩:=(H2.out.later hBw).at hy
      injection hv3 with hv3 hvl hv4
      subst hv3 hv4;clear hvl;obtain ⟨xaa,xac,rfl⟩:=hxA.shape;obtain ⟨xka,xkc,rfl,_,_⟩:=hxK.shape;obtain ⟨yaa,yac,rfl⟩:=hyA.shape;obtain ⟨yka,ykc,rfl,_,_⟩:=hyK.shape;have HTD:Hid _:=QA hx hy;have hili:(i:Int)<(ns.length:Int):=by omega
      have himi:(i:Int)<(ms.length:Int):=by omega
      have hlt0:w.heap.size<wr.heap.size:=qe hxr;have hlt1:w.heap.size+1<wr.heap.size:=qe hyr;have hne0:wr.heap.size≠w.heap.size:=by omega
      have hne1:wr.heap.size≠w.heap.size+1:=by omega
      have hne2:wr.heap.size≠b1:=by omega
      have hne3:wr.heap.size≠b2:=by omega
      clear hx hy hxr hyr;go_wp2_with fail
      go_region
      · have hW2 : Below wr.heap.size wr ((wr.alloc (.cells #[.bool x.text, .string x.s, .slice xaa x.attrs.length xac, .int .i64 x.parent, .slice xka x.kids.length xkc] 38)).alloc (.cells #[.bool y.text, .string y.s, .slice yaa y.attrs.length yac, .int .i64 y.parent, .slice yka y.kids.length ykc] 38)).drew := (((Below.refl _ wr).alloc (nR9 _) _).alloc (by simp) _).drew
        have hF:(((wr.alloc (.cells #[.bool x.text,.string x.s,.slice xaa x.attrs.length xac,.int .i64 x.parent,.slice xka x.kids.length xkc] 38)).alloc (.cells #[.bool y.text,.string y.s,.slice yaa y.attrs.length yac,.int .i64 y.parent,.slice yka y.kids.length ykc] 38)).drew).heap[wr.heap.size]?=some (.cells #[.bool x.text,.string x.s,.slice xaa x.attrs.length xac,.int .i64 x.parent,.slice xka x.kids.length xkc] 38 (0,0)):=by
         show ((wr.alloc (.cells #[.bool x.text,.string x.s,.slice xaa x.attrs.length xac,.int .i64 x.parent,.slice xka x.kids.length xkc] 38)).alloc (.cells #[.bool y.text,.string y.s,.slice yaa y.attrs.length yac,.int .i64 y.parent,.slice yka y.kids.length ykc] 38)).heap[wr.heap.size]?=_
         rw[Lib.alloc_old _ _ _ (by simp)];exact heap_alloc_new _ _
        have hG:(((wr.alloc (.cells #[.bool x.text,.string x.s,.slice xaa x.attrs.length xac,.int .i64 x.parent,.slice xka x.kids.length xkc] 38)).alloc (.cells #[.bool y.text,.string y.s,.slice yaa y.attrs.length yac,.int .i64 y.parent,.slice yka y.kids.length ykc] 38)).drew).heap[wr.heap.size+1]?=some (.cells #[.bool y.text,.string y.s,.slice yaa y.attrs.length yac,.int .i64 y.parent,.slice yka y.kids.length ykc] 38 (0,0)):=by
         show ((wr.alloc (.cells #[.bool x.text,.string x.s,.slice xaa x.attrs.length xac,.int .i64 x.parent,.slice xka x.kids.length xkc] 38)).alloc (.cells #[.bool y.text,.string y.s,.slice yaa y.attrs.length yac,.int .i64 y.parent,.slice yka y.kids.length ykc] 38)).heap[wr.heap.size+1]?=_
         have e:=heap_alloc_new (wr.alloc (.cells #[.bool x.text,.string x.s,.slice xaa x.attrs.length xac,.int .i64 x.parent,.slice xka x.kids.length xkc] 38)) (.cells #[.bool y.text,.string y.s,.slice yaa y.attrs.length yac,.int .i64 y.parent,.slice yka y.kids.length ykc] 38);rw[World.size_alloc]at e
         exact e
        generalize ((wr.alloc (.cells #[.bool x.text,.string x.s,.slice xaa x.attrs.length xac,.int .i64 x.parent,.slice xka x.kids.length xkc] 38)).alloc (.cells #[.bool y.text,.string y.s,.slice yaa y.attrs.length yac,.int .i64 y.parent,.slice yka y.kids.length ykc] 38)).drew=W2 at *
        have x0:W2.cell? ⟨wr.heap.size,0,none⟩=some (.bool x.text):=by rw[cH9 hF];rfl
        have x1:W2.cell? ⟨wr.heap.size,1,none⟩=some (.string x.s):=by rw[cH9 hF];rfl
        have x2:W2.cell? ⟨wr.heap.size,2,none⟩=some (.slice xaa x.attrs.length xac):=by rw[cH9 hF];rfl
        have x3:W2.cell? ⟨wr.heap.size,3,none⟩=some (.int .i64 x.parent):=by rw[cH9 hF];rfl
        have x4:W2.cell? ⟨wr.heap.size,4,none⟩=some (.slice xka x.kids.length xkc):=by rw[cH9 hF];rfl
        have y0:W2.cell? ⟨wr.heap.size+1,0,none⟩=some (.bool y.text):=by rw[cH9 hG];rfl
        have y1:W2.cell? ⟨wr.heap.size+1,1,none⟩=some (.string y.s):=by rw[cH9 hG];rfl
        have y2:W2.cell? ⟨wr.heap.size+1,2,none⟩=some (.slice yaa y.attrs.length yac):=by rw[cH9 hG];rfl
        have y3:W2.cell? ⟨wr.heap.size+1,3,none⟩=some (.int .i64 y.parent):=by rw[cH9 hG];rfl
        have y4:W2.cell? ⟨wr.heap.size+1,4,none⟩=some (.slice yka y.kids.length ykc):=by rw[cH9 hG];rfl
        have HAT:Hid (∀ W,Below W2.heap.size W2 W→Calls Tryz.prog 18 #[.slice xaa x.attrs.length xac,.slice yaa y.attrs.length yac] W fun e w'=>e=.returned (.bool (decide (x.attrs=y.attrs)))∧Below W.heap.size W w'):=fun W h=>yt _ _ _ _ x.attrs y.attrs W ((hxA.later hW2).later h) ((hyA.later hW2).later h)
        have HKN:Hid (∀ W,Below W2.heap.size W2 W→Calls Tryz.prog 7 #[.slice xka x.kids.length xkc,.slice yka y.kids.length ykc] W fun e w'=>e=.returned (.bool (decide (x.kids=y.kids)))∧Below W.heap.size W w'):=fun W h=>zu _ _ _ _ x.kids y.kids W ((hxK.later hW2).later h) ((hyK.later hW2).later h)
        have hBW2:Below w.heap.size w W2:=hBw.trans (hW2.mono hBw.size);have hB12:Below W1.heap.size W1 W2:=hB.trans (hW2.mono hB.size)
        have KF:ndB x y=false→Hid (ndsB ns ms=false):=by
         intro hq
         show _=_
         rw[HT.out,HTD.out,hq];rfl
        clear p0 p1 p2 p3 p4 q0 q1 q2 q3 q4 dx dy hne0 hne1 hne2 hne3 hlt0 hlt1
        by_cases k1:x.text=y.text
        · have k1b : (x.text == y.text) = true := by simp[k1]
          by_cases k2:x.s=y.s
          · have k2b : (x.s.toList == y.s.toList) = true := by rw[k2];simp
            by_cases k3:x.parent=y.parent
            · have k3b : (x.parent != y.parent) = false := by simp[k3]
              have k3c:(x.parent==y.parent)=true:=by simp[k3]
              by_cases k4:x.attrs=y.attrs
              · have HAT2:Hid (∀ W,Below W2.heap.size W2 W→Calls Tryz.prog 18 #[.slice xaa x.attrs.length xac,.slice yaa y.attrs.length yac] W fun e w'=>e=.returned (.bool true)∧Below W.heap.size W w'):=by
                 intro W h;have:=HAT.out W h;rw[decide_eq_true k4]at this;exact this
                by_cases k5:x.kids=y.kids
                · have HKN2:Hid (∀ W,Below W2.heap.size W2 W→Calls Tryz.prog 7 #[.slice xka x.kids.length xkc,.slice yka y.kids.length ykc] W fun e w'=>e=.returned (.bool true)∧Below W.heap.size W w'):=by
                   intro W h;have:=HKN.out W h;rw[decide_eq_true k5]at this;exact this
                  have HN:Hid (ndsB ns ms=ndsB (ns.drop (i+1)) (ms.drop (i+1))):=by
                   show _=_
                   rw[HT.out,HTD.out,show ndB x y=true by unfold ndB;simp[k1,k2,k3,k4,k5]];rfl
                  clear KF k1 k2 k3 k4 k5 HAT HKN;go_wp2_with fail;refine (Calls.mono (HAT2.out _ (Below.refl _ _)) ?_);rintro e w3 ⟨rfl,hb3⟩;have hX3:=(hb3.block _ (qe hF)).trans hF;have hY3:=(hb3.block _ (qe hG)).trans hG;have hu4:w3.cell? ⟨wr.heap.size,4,none⟩=some (.slice xka x.kids.length xkc):=by rw[cH9 hX3];rfl
                  have hv4:w3.cell? ⟨wr.heap.size+1,4,none⟩=some (.slice yka y.kids.length ykc):=by rw[cH9 hY3];rfl
                  go_wp2_with fail;refine (Calls.mono (HKN2.out _ hb3) ?_);rintro e w4 ⟨rfl,hb4⟩;go_wp2_with fail
                  go_roundg (ns.length-(i+1))
                  case measure => omega
                  case rel => exact ⟨i+1,by omega,by go_num,hB12.trans ((hb3.trans (hb4.mono hb3.size)).mono hB12.size),HN.out⟩
                · have HKN2:Hid (∀ W,Below W2.heap.size W2 W→Calls Tryz.prog 7 #[.slice xka x.kids.length xkc,.slice yka y.kids.length ykc] W fun e w'=>e=.returned (.bool false)∧Below W.heap.size W w'):=by
                   intro W h;have:=HKN.out W h;rw[decide_eq_false k5]at this;exact this
                  have HE:=KF (by unfold ndB;simp[k5])
                  clear KF k1 k2 k3 k4 k5 HAT HKN;go_wp2_with fail;refine (Calls.mono (HAT2.out _ (Below.refl _ _)) ?_);rintro e w3 ⟨rfl,hb3⟩;have hX3:=(hb3.block _ (qe hF)).trans hF;have hY3:=(hb3.block _ (qe hG)).trans hG;have hu4:w3.cell? ⟨wr.heap.size,4,none⟩=some (.slice xka x.kids.length xkc):=by rw[cH9 hX3];rfl
                  have hv4:w3.cell? ⟨wr.heap.size+1,4,none⟩=some (.slice yka y.kids.length ykc):=by rw[cH9 hY3];rfl
                  go_wp2_with fail;refine (Calls.mono (HKN2.out _ hb3) ?_);rintro e w4 ⟨rfl,hb4⟩;go_wp2_with fail;go_ret;exact ⟨by rw[HE.out];rfl,hBW2.trans ((hb3.trans (hb4.mono hb3.size)).mono hBW2.size)⟩
              · have HAT2:Hid (∀ W,Below W2.heap.size W2 W→Calls Tryz.prog 18 #[.slice xaa x.attrs.length xac,.slice yaa y.attrs.length yac] W fun e w'=>e=.returned (.bool false)∧Below W.heap.size W w'):=by
                 intro W h;have:=HAT.out W h;rw[decide_eq_false k4]at this;exact this
                have HE:=KF (by unfold ndB;simp[k4])
                clear KF k1 k2 k3 k4 HAT HKN;go_wp2_with fail;refine (Calls.mono (HAT2.out _ (Below.refl _ _)) ?_);rintro e w3 ⟨rfl,hb3⟩;go_wp2_with fail;go_ret;exact ⟨by rw[HE.out];rfl,hBW2.trans (hb3.mono hBW2.size)⟩
            · have k3b : (x.parent != y.parent) = true := by simpa using k3
              have k3c:(x.parent==y.parent)=false:=by simpa using k3
              have HE:=KF (by unfold ndB;simp[k3])
              clear KF k1 k2 k3 HAT HKN;go_wp2_with fail;go_ret;exact ⟨by rw[HE.out];rfl,hBW2⟩
          · have k2b : (x.s.toList == y.s.toList) = false := zP k2;have HE:=KF (by unfold ndB;simp[k2])
            clear KF k1 k2 HAT HKN;go_wp2_with fail;go_ret;exact ⟨by rw[HE.out];rfl,hBW2⟩
        · have k1b : (x.text == y.text) = false := by simpa using k1
          have HE:=KF (by unfold ndB;simp[k1])
          clear KF k1 HAT HKN;go_wp2_with fail;go_ret;exact ⟨by rw[HE.out];rfl,hBW2⟩
      · have hW2 : Below wr.heap.size wr ((wr.alloc (.cells #[.bool y.text, .string y.s, .slice yaa y.attrs.length yac, .int .i64 y.parent, .slice yka y.kids.length ykc] 38)).alloc (.cells #[.bool x.text, .string x.s, .slice xaa x.attrs.length xac, .int .i64 x.parent, .slice xka x.kids.length xkc] 38)).drew := (((Below.refl _ wr).alloc (nR9 _) _).alloc (by simp) _).drew
        have hF:(((wr.alloc (.cells #[.bool y.text,.string y.s,.slice yaa y.attrs.length yac,.int .i64 y.parent,.slice yka y.kids.length ykc] 38)).alloc (.cells #[.bool x.text,.string x.s,.slice xaa x.attrs.length xac,.int .i64 x.parent,.slice xka x.kids.length xkc] 38)).drew).heap[wr.heap.size]?=some (.cells #[.bool y.text,.string y.s,.slice yaa y.attrs.length yac,.int .i64 y.parent,.slice yka y.kids.length ykc] 38 (0,0)):=by
         show ((wr.alloc (.cells #[.bool y.text,.string y.s,.slice yaa y.attrs.length yac,.int .i64 y.parent,.slice yka y.kids.length ykc] 38)).alloc (.cells #[.bool x.text,.string x.s,.slice xaa x.attrs.length xac,.int .i64 x.parent,.slice xka x.kids.length xkc] 38)).heap[wr.heap.size]?=_
         rw[Lib.alloc_old _ _ _ (by simp)];exact heap_alloc_new _ _
        have hG:(((wr.alloc (.cells #[.bool y.text,.string y.s,.slice yaa y.attrs.length yac,.int .i64 y.parent,.slice yka y.kids.length ykc] 38)).alloc (.cells #[.bool x.text,.string x.s,.slice xaa x.attrs.length xac,.int .i64 x.parent,.slice xka x.kids.length xkc] 38)).drew).heap[wr.heap.size+1]?=some (.cells #[.bool x.text,.string x.s,.slice xaa x.attrs.length xac,.int .i64 x.parent,.slice xka x.kids.length xkc] 38 (0,0)):=by
         show ((wr.alloc (.cells #[.bool y.text,.string y.s,.slice yaa y.attrs.length yac,.int .i64 y.parent,.slice yka y.kids.length ykc] 38)).alloc (.cells #[.bool x.text,.string x.s,.slice xaa x.attrs.length xac,.int .i64 x.parent,.slice xka x.kids.length xkc] 38)).heap[wr.heap.size+1]?=_
         have e:=heap_alloc_new (wr.alloc (.cells #[.bool y.text,.string y.s,.slice yaa y.attrs.length yac,.int .i64 y.parent,.slice yka y.kids.length ykc] 38)) (.cells #[.bool x.text,.string x.s,.slice xaa x.attrs.length xac,.int .i64 x.parent,.slice xka x.kids.length xkc] 38);rw[World.size_alloc]at e
         exact e
        generalize ((wr.alloc (.cells #[.bool y.text,.string y.s,.slice yaa y.attrs.length yac,.int .i64 y.parent,.slice yka y.kids.length ykc] 38)).alloc (.cells #[.bool x.text,.string x.s,.slice xaa x.attrs.length xac,.int .i64 x.parent,.slice xka x.kids.length xkc] 38)).drew=W2 at *
        have x0:W2.cell? ⟨wr.heap.size+1,0,none⟩=some (.bool x.text):=by rw[cH9 hG];rfl
        have x1:W2.cell? ⟨wr.heap.size+1,1,none⟩=some (.string x.s):=by rw[cH9 hG];rfl
        have x2:W2.cell? ⟨wr.heap.size+1,2,none⟩=some (.slice xaa x.attrs.length xac):=by rw[cH9 hG];rfl
        have x3:W2.cell? ⟨wr.heap.size+1,3,none⟩=some (.int .i64 x.parent):=by rw[cH9 hG];rfl
        have x4:W2.cell? ⟨wr.heap.size+1,4,none⟩=some (.slice xka x.kids.length xkc):=by rw[cH9 hG];rfl
        have y0:W2.cell? ⟨wr.heap.size,0,none⟩=some (.bool y.text):=by rw[cH9 hF];rfl
        have y1:W2.cell? ⟨wr.heap.size,1,none⟩=some (.string y.s):=by rw[cH9 hF];rfl
        have y2:W2.cell? ⟨wr.heap.size,2,none⟩=some (.slice yaa y.attrs.length yac):=by rw[cH9 hF];rfl
        have y3:W2.cell? ⟨wr.heap.size,3,none⟩=some (.int .i64 y.parent):=by rw[cH9 hF];rfl
        have y4:W2.cell? ⟨wr.heap.size,4,none⟩=some (.slice yka y.kids.length ykc):=by rw[cH9 hF];rfl
        have HAT:Hid (∀ W,Below W2.heap.size W2 W→Calls Tryz.prog 18 #[.slice xaa x.attrs.length xac,.slice yaa y.attrs.length yac] W fun e w'=>e=.returned (.bool (decide (x.attrs=y.attrs)))∧Below W.heap.size W w'):=fun W h=>yt _ _ _ _ x.attrs y.attrs W ((hxA.later hW2).later h) ((hyA.later hW2).later h)
        have HKN:Hid (∀ W,Below W2.heap.size W2 W→Calls Tryz.prog 7 #[.slice xka x.kids.length xkc,.slice yka y.kids.length ykc] W fun e w'=>e=.returned (.bool (decide (x.kids=y.kids)))∧Below W.heap.size W w'):=fun W h=>zu _ _ _ _ x.kids y.kids W ((hxK.later hW2).later h) ((hyK.later hW2).later h)
        have hBW2:Below w.heap.size w W2:=hBw.trans (hW2.mono hBw.size);have hB12:Below W1.heap.size W1 W2:=hB.trans (hW2.mono hB.size)
        have KF:ndB x y=false→Hid (ndsB ns ms=false):=by
         intro hq
         show _=_
         rw[HT.out,HTD.out,hq];rfl
        clear p0 p1 p2 p3 p4 q0 q1 q2 q3 q4 dx dy hne0 hne1 hne2 hne3 hlt0 hlt1
        by_cases k1:x.text=y.text
        · have k1b : (x.text == y.text) = true := by simp[k1]
          by_cases k2:x.s=y.s
          · have k2b : (x.s.toList == y.s.toList) = true := by rw[k2];simp
            by_cases k3:x.parent=y.parent
            · have k3b : (x.parent != y.parent) = false := by simp[k3]
              have k3c:(x.parent==y.parent)=true:=by simp[k3]
              by_cases k4:x.attrs=y.attrs
              · have HAT2:Hid (∀ W,Below W2.heap.size W2 W→Calls Tryz.prog 18 #[.slice xaa x.attrs.length xac,.slice yaa y.attrs.length yac] W fun e w'=>e=.returned (.bool true)∧Below W.heap.size W w'):=by
                 intro W h;have:=HAT.out W h;rw[decide_eq_true k4]at this;exact this
                by_cases k5:x.kids=y.kids
                · have HKN2:Hid (∀ W,Below W2.heap.size W2 W→Calls Tryz.prog 7 #[.slice xka x.kids.length xkc,.slice yka y.kids.length ykc] W fun e w'=>e=.returned (.bool true)∧Below W.heap.size W w'):=by
                   intro W h;have:=HKN.out W h;rw[decide_eq_true k5]at this;exact this
                  have HN:Hid (ndsB ns ms=ndsB (ns.drop (i+1)) (ms.drop (i+1))):=by
                   show _=_
                   rw[HT.out,HTD.out,show ndB x y=true by unfold ndB;simp[k1,k2,k3,k4,k5]];rfl
                  clear KF k1 k2 k3 k4 k5 HAT HKN;go_wp2_with fail;refine (Calls.mono (HAT2.out _ (Below.refl _ _)) ?_);rintro e w3 ⟨rfl,hb3⟩;have hX3:=(hb3.block _ (qe hG)).trans hG;have hY3:=(hb3.block _ (qe hF)).trans hF;have hu4:w3.cell? ⟨wr.heap.size+1,4,none⟩=some (.slice xka x.kids.length xkc):=by rw[cH9 hX3];rfl
                  have hv4:w3.cell? ⟨wr.heap.size,4,none⟩=some (.slice yka y.kids.length ykc):=by rw[cH9 hY3];rfl
                  go_wp2_with fail;refine (Calls.mono (HKN2.out _ hb3) ?_);rintro e w4 ⟨rfl,hb4⟩;go_wp2_with fail
                  go_roundg (ns.length-(i+1))
                  case measure => omega
                  case rel => exact ⟨i+1,by omega,by go_num,hB12.trans ((hb3.trans (hb4.mono hb3.size)).mono hB12.size),HN.out⟩
                · have HKN2:Hid (∀ W,Below W2.heap.size W2 W→Calls Tryz.prog 7 #[.slice xka x.kids.length xkc,.slice yka y.kids.length ykc] W fun e w'=>e=.returned (.bool false)∧Below W.heap.size W w'):=by
                   intro W h;have:=HKN.out W h;rw[decide_eq_false k5]at this;exact this
                  have HE:=KF (by unfold ndB;simp[k5])
                  clear KF k1 k2 k3 k4 k5 HAT HKN;go_wp2_with fail;refine (Calls.mono (HAT2.out _ (Below.refl _ _)) ?_);rintro e w3 ⟨rfl,hb3⟩;have hX3:=(hb3.block _ (qe hG)).trans hG;have hY3:=(hb3.block _ (qe hF)).trans hF;have hu4:w3.cell? ⟨wr.heap.size+1,4,none⟩=some (.slice xka x.kids.length xkc):=by rw[cH9 hX3];rfl
                  have hv4:w3.cell? ⟨wr.heap.size,4,none⟩=some (.slice yka y.kids.length ykc):=by rw[cH9 hY3];rfl
                  go_wp2_with fail;refine (Calls.mono (HKN2.out _ hb3) ?_);rintro e w4 ⟨rfl,hb4⟩;go_wp2_with fail;go_ret;exact ⟨by rw[HE.out];rfl,hBW2.trans ((hb3.trans (hb4.mono hb3.size)).mono hBW2.size)⟩
              · have HAT2:Hid (∀ W,Below W2.heap.size W2 W→Calls Tryz.prog 18 #[.slice xaa x.attrs.length xac,.slice yaa y.attrs.length yac] W fun e w'=>e=.returned (.bool false)∧Below W.heap.size W w'):=by
                 intro W h;have:=HAT.out W h;rw[decide_eq_false k4]at this;exact this
                have HE:=KF (by unfold ndB;simp[k4])
                clear KF k1 k2 k3 k4 HAT HKN;go_wp2_with fail;refine (Calls.mono (HAT2.out _ (Below.refl _ _)) ?_);rintro e w3 ⟨rfl,hb3⟩;go_wp2_with fail;go_ret;exact ⟨by rw[HE.out];rfl,hBW2.trans (hb3.mono hBW2.size)⟩
            · have k3b : (x.parent != y.parent) = true := by simpa using k3
              have k3c:(x.parent==y.parent)=false:=by simpa using k3
              have HE:=KF (by unfold ndB;simp[k3])
              clear KF k1 k2 k3 HAT HKN;go_wp2_with fail;go_ret;exact ⟨by rw[HE.out];rfl,hBW2⟩
          · have k2b : (x.s.toList == y.s.toList) = false := zP k2;have HE:=KF (by unfold ndB;simp[k2])
            clear KF k1 k2 HAT HKN;go_wp2_with fail;go_ret;exact ⟨by rw[HE.out];rfl,hBW2⟩
        · have k1b : (x.text == y.text) = false := by simpa using k1
          have HE:=KF (by unfold ndB;simp[k1])
          clear KF k1 HAT HKN;go_wp2_with fail;go_ret;exact ⟨by rw[HE.out];rfl,hBW2⟩
    · have hili : ¬ ((i : Int) < (ns.length : Int)) := by omega
      have HE:Hid (ndsB ns ms=true):=by
       show _=_
       rw[HT.out,List.drop_of_length_le (by omega),List.drop_of_length_le (by have:=HLM.out;omega)]
       rfl
      go_wp2_with fail;go_ret;exact ⟨by rw[HE.out];rfl,hBw⟩
 · have hne : ((ns.length : Int) != (ms.length : Int)) = true := by simp;omega
   have HE:Hid (ndsB ns ms=false):=ndsB_len hlm;clear hlm
   go_enter Tryz.func10,Tryz.ntmps10
   go_wp2_with fail;go_ret;exact ⟨by rw[HE.out];rfl,hb0⟩
end
section
attribute [local go_sem] qf
def yx : Prop := ∀ (S : Nat → Prop)(n : Nat)(va vk : Value)(t : Tr)(w : World), qh S w va t.attrs → qd S w n vk t.kids → TextsN (n + 1) [t] → cnt (n + 1) [t] ≤ 1048576 → (∀ b, S b → b < w.heap.size) →
    Calls Tryz.prog 24 #[.agg #[.bool t.text,.string t.s,va,vk]] w fun e w'=>∃ v,e=.returned (.tuple #[.agg #[v],.int .i64 (xu t)])∧qr (fun b=>w.heap.size≤b) w' v (jF n t)∧Below w.heap.size w w'
theorem Qj {ns:List Nd}(h:yz ns):∀ (f n:Nat),Ql (treeF f ns n)∧TextsN f (treeF f ns n).kids:=by
 intro f
 induction f with
 | zero=>intro n;exact ⟨⟨nZ9 _,by intro y hy;simp[treeF]at hy⟩,trivial⟩
 | succ f ih =>
   intro n;rw[treeF];cases hx:ns[n]? with
   | none=>exact ⟨⟨nZ9 _,by intro y hy;simp at hy⟩,by intro t ht;simp at ht⟩
   | some x =>
     refine ⟨h x (List.mem_of_getElem? hx),fun t ht=>?_⟩
     simp only[List.mem_map]at ht
     obtain ⟨k,_,rfl⟩:=ht;exact ih _
theorem cnt_depR:∀ (d e:Nat)(ks:List Tr),Deep d ks→Deep e ks→cnt d ks=cnt e ks:=by
 intro d
 induction d with
 | zero=>intro e ks h _;have h:ks=[]:=h;subst h;rw[qH,qH]
 | succ d ih =>
   intro e ks h1 h2;cases e with
   | zero=>have h:ks=[]:=h2;subst h;rw[qH,qH]
   | succ e =>
     induction ks with
     | nil=>rw[qH,qH]
     | cons k r ihr =>
       rw[zC,zC,ih e k.kids (h1 k List.mem_cons_self) (h2 k List.mem_cons_self),ihr (fun t ht=>h1 t (List.mem_cons_of_mem _ ht)) (fun t ht=>h2 t (List.mem_cons_of_mem _ ht))]
theorem Qg (d e:Nat):∀ (ks:List Tr)(a:Nat),(∀ k∈ks,Deep d k.kids∧Deep e k.kids)→qi d a ks=qi e a ks:=by
 intro ks
 induction ks with
 | nil=>intro a _;rfl
 | cons k r ih =>
   intro a h;have hk:=h k List.mem_cons_self;rw[qi,qi,qt,qt,cnt_depR d e _ hk.1 hk.2,ih _ (fun t ht=>h t (List.mem_cons_of_mem _ ht))]
theorem Q4 (d e:Nat)(f g:Tr→Int→Nat→List Nd)(par:Nat):∀ (ks:List Tr)(a:Nat),(∀ k∈ks,Deep d k.kids∧Deep e k.kids)→(∀ k∈ks,∀ p a,f k p a=g k p a)→qn d f par a ks=qn e g par a ks:=by
 intro ks
 induction ks with
 | nil=>intro a _ _;rfl
 | cons k r ih =>
   intro a h hfg;have hk:=h k List.mem_cons_self;rw[qn,qn,qt,qt,cnt_depR d e _ hk.1 hk.2,hfg k List.mem_cons_self,ih _ (fun t ht=>h t (List.mem_cons_of_mem _ ht)) (fun t ht=>hfg t (List.mem_cons_of_mem _ ht))]
theorem lay_dep:∀ (d e:Nat)(t:Tr)(par:Int)(a:Nat),Deep d t.kids→Deep e t.kids→layF d t par a=layF e t par a:=by
 intro d
 induction d with
 | zero =>
   intro e t par a h1 h2;have h:t.kids=[]:=h1;cases e with
   | zero=>rfl
   | succ e=>rw[layF,layF,h];rfl
 | succ d ih =>
   intro e t par a h1 h2;cases e with
   | zero =>
     have h:t.kids=[]:=h2;rw[layF,layF,h];rfl
   | succ e =>
     rw[layF,layF,Qg d e _ _ (fun k hk=>⟨h1 k hk,h2 k hk⟩),Q4 d e (layF d) (layF e) a _ _ (fun k hk=>⟨h1 k hk,h2 k hk⟩) (fun k hk p q=>ih e k p q (h1 k hk) (h2 k hk))]
theorem xm {ns:List Nd}{x:Nd}{t:Tr}{n:Nat}(hx:ns[0]?=some x)(h80:ns.length≤80)(hp:x.parent=-1)(hps:zb ns ns.length=true)(ht:treeF ns.length ns 0=t)(hd:Deep n t.kids) :
 qg ns=(qL t&&ndsB (layF n t (-1) 0) ns):=by
 have hpos:0<ns.length:=qk hx;rw[Bool.eq_iff_iff,jC,Bool.and_eq_true,ndsB_iff,ht]
 constructor
 · rintro ⟨_, _, _, _, hg, d, hd2, hl⟩;exact ⟨hg,by rw[lay_dep n d t (-1) 0 hd hd2];exact hl⟩
 · rintro ⟨hg, hl⟩;exact ⟨hpos,h80,⟨x,hx,hp⟩,hps,hg,n,hd,hl⟩
theorem zj {ns:List Nd}(h:¬ (0<ns.length∧ns.length≤80∧(∃ x,ns[0]?=some x∧x.parent=-1)∧zb ns ns.length=true)):qg ns=false:=by
 cases hg:qg ns with
 | false=>rfl
 | true =>
   have:=jC.1 hg;exact absurd ⟨this.1,this.2.1,this.2.2.1,this.2.2.2.1⟩ h
theorem jf {ns:List Nd}{k:Nat}(h:zb ns k=false):∀ m,k≤m→zb ns m=false:=by
  intro m
  induction m with
  | zero => intro hm;have : k = 0 := by omega
            subst this;exact h
  | succ m ih =>
    intro hm
    by_cases hk:k=m+1
    · rw[←hk];exact h
    · rw[zb,ih (by omega)];rfl
set_option maxHeartbeats 2000000 in
theorem Qw (hM:yx):IsDocOk:=by
 intro S v ns w hD;have hb1:=Below.alloc1 w (.cells #[v] 24);have hx1:=heap_alloc_new w (.cells #[v] 24);have HD:Hid (zM S w v ns):=hD;have HM:Hid yx:=hM;have HN1:Hid (qr S (w.alloc (.cells #[v] 24)) v ns):=hD.nodes.later hb1;obtain ⟨a,cap,rfl,hlc,hcm⟩:=hD.nodes.shape;unfold maxLen at hcm
 clear hD hM
 by_cases h0:ns.length=0
 · have hn : ns = [] := List.eq_nil_of_length_eq_zero h0;subst hn;have HE:Hid (qg []=false):=zj (by simp)
   clear hx1
   go_enter Tryz.func14,Tryz.ntmps14
   go_wp2_with fail;go_ret;exact ⟨by rw[HE.out];rfl,hb1⟩
 obtain ⟨x0,hx0⟩:∃ x,ns[0]?=some x:=⟨ns[0]'(by omega),by simp[show 0<ns.length by omega]⟩
 obtain ⟨b,o,cap2,xva,xvk,hv,_,_,hSb,hbw,_,_,_,c3,_,_,_⟩:=HN1.out.at hx0
 injection hv with hv1 hvl hv2
 subst hv1 hv2;clear hvl;have h0b:((ns.length:Int)==0)=false:=by simpa using h0
 have hpos:(0:Int)<(ns.length:Int):=by omega
 have c3z:(w.alloc (.cells #[.slice (some ⟨b,o,none⟩) ns.length cap] 24)).cell? ⟨b,o+3,none⟩=some (.int .i64 x0.parent):=by simpa using c3
 clear c3
 go_enter Tryz.func14,Tryz.ntmps14
 by_cases h80:ns.length≤80
 · have h80i : ¬ (80 : Int) < (ns.length : Int) := by omega
   by_cases hp0:x0.parent=-1
   · rw[hp0]at c3z
     go_wp2_with fail;have HN2:Hid (qr S (w.alloc (.cells #[.slice (some ⟨b,o,none⟩) ns.length cap] 24)) (.slice (some ⟨b,o,none⟩) ns.length cap) ns):=HN1.out
     generalize w.alloc (.cells #[.slice (some ⟨b,o,none⟩) ns.length cap] 24)=W1 at hb1 hx1 HN2 ⊢
     have hz1:=qe hx1;clear c3z HN1
     go_loopg [28] ns.length (fun g j wr=>∃ (k:Nat),k+g=ns.length∧j=.int .i64 (k:Int)∧Below W1.heap.size W1 wr∧zb ns k=true)
     case atStart => exact ⟨0,by omega,rfl,Below.refl _ _,rfl⟩
     case round =>
      obtain ⟨k,hk,rfl,hB,hpk⟩:=hrel;have HPK:Hid (zb ns k=true):=hpk;clear hpk;have hxr:=(hB.block _ hz1).trans hx1;have hBw:Below w.heap.size w wr:=hb1.trans (hB.mono hb1.size);have dr:wr.cell? ⟨w.heap.size,0,none⟩=some (.slice (some ⟨b,o,none⟩) ns.length cap):=by rw[cH9 hxr];rfl
      by_cases hkl:k<ns.length
      · have hkli : (k : Int) < (ns.length : Int) := by omega
        obtain ⟨y,hy⟩:∃ y,ns[k]?=some y:=⟨ns[k],by simp[hkl]⟩
        have HPS:Hid (zb ns (k+1)=(decide (k=0)||(decide (0≤y.parent)&&decide (y.parent<(k:Int))))):=by show _=_;rw[zb,HPK.out,hy];rfl
        obtain ⟨b',o',cap3,yva,yvk,hv,_,_,_,hbw2,c0,c1,c2,c3,c4,hAt,hKi⟩:=(HN2.out.later hB).at hy
        cases hv;obtain ⟨aa,ac,rfl⟩:=hAt.shape;obtain ⟨ka,kc,rfl,_,_⟩:=hKi.shape;have hBa:∀ X,Below W1.heap.size W1 (wr.alloc X):=fun X=>hB.alloc hB.size X
        have hBwa:∀ X,Below w.heap.size w (wr.alloc X):=fun X=>hBw.alloc hBw.size X
        clear hAt hKi hy hxr
        by_cases hk0:k=0
        · have HP2 : Hid (zb ns (k + 1) = true) := by show _ = _;rw[HPS.out];simp[hk0]
          have hk0i:¬ (0:Int)<(k:Int):=by omega
          clear hk0 HPS;go_wp2_with fail
          go_roundg (ns.length-(k+1))
          case measure => omega
          case rel => exact ⟨k+1,by omega,by go_num,hBa _,HP2.out⟩
        · have hk0i : (0 : Int) < (k : Int) := by omega
          by_cases hneg:y.parent<0
          · have HE:Hid (qg ns=false):=zj (fun h=>by
             have h1:zb ns (k+1)=false:=by rw[HPS.out];simp[hk0];omega
             have h2:=jf h1 ns.length (by omega)
             rw[h2]at h;exact absurd h.2.2.2 (by simp))
            clear hk0 HPS;go_wp2_with fail;go_ret;exact ⟨by rw[HE.out];rfl,hBwa _⟩
          · by_cases hge : (k : Int) ≤ y.parent
            · have HE:Hid (qg ns=false):=zj (fun h=>by
               have h1:zb ns (k+1)=false:=by rw[HPS.out];simp[hk0];omega
               have h2:=jf h1 ns.length (by omega)
               rw[h2]at h;exact absurd h.2.2.2 (by simp))
              clear hk0 HPS;go_wp2_with fail;go_ret;exact ⟨by rw[HE.out];rfl,hBwa _⟩
            · have HP2 : Hid (zb ns (k + 1) = true) := by show _ = _;rw[HPS.out];simp[hk0];omega
              clear hk0 HPS;go_wp2_with fail
              go_roundg (ns.length-(k+1))
              case measure => omega
              case rel => exact ⟨k+1,by omega,by go_num,hBa _,HP2.out⟩
      · have hkli : ¬ ((k : Int) < (ns.length : Int)) := by omega
        have hkk:k=ns.length:=by omega
        have HPA:Hid (zb ns ns.length=true):=by show _=_;rw[←hkk];exact HPK.out
        have HT:Hid _:=Qi ns.length S _ ns 0 wr (HD.out.later hBw).nodes HD.out.few h80 (by omega) (by omega)
        rw[show ((0:Nat):Int)=0 from rfl]at HT
        obtain ⟨t,ht⟩:∃ t,treeF ns.length ns 0=t:=⟨_,rfl⟩
        have HX:Hid (TextsN (ns.length+1) [t]):=by
         show TextsN (ns.length+1) [t]
         intro u hu;rw[List.mem_singleton]at hu
         rw[hu,←ht];exact Qj HD.out.short _ _
        have HCT:Hid (cnt (ns.length+1) [t]≤1048576):=by show cnt (ns.length+1) [t]≤1048576;rw[←ht];exact Zi (by omega) h80 h80
        rw[ht]at HT
        have HPT:Hid (∀ n,Deep n t.kids→qg ns=(qL t&&ndsB (layF n t (-1) 0) ns)):=fun n hd=>xm hx0 h80 hp0 HPA.out ht hd
        clear hkk ht hx0;go_wp2_with fail;refine (Calls.mono HT.out ?_);rintro e w3 ⟨va,vk,rfl,hA,hK,hb3⟩;have HTD:Hid _:=HPT.out _ (qd.deep _ hK);have HMM:Hid _:=HM.out _ _ _ _ t w3 hA.bounded (qd.bounded _ hK) HX.out HCT.out (fun b hb=>hb.2)
        obtain ⟨aa,ac,rfl⟩:=hA.shape;obtain ⟨ka,kc,rfl,_,_⟩:=qd.shape _ hK;have hB3:Below w.heap.size w w3:=hBw.trans (hb3.mono hBw.size);have hx3:=(hb3.block _ (qe hxr)).trans hxr;have d3:w3.cell? ⟨w.heap.size,0,none⟩=some (.slice (some ⟨b,o,none⟩) ns.length cap):=by rw[cH9 hx3];rfl
        clear hA hK HT;go_wp2_with fail;refine (Calls.mono HMM.out ?_);rintro e w4 ⟨v4,rfl,hN4,hb4⟩;have hB4:Below w.heap.size w w4:=hB3.trans (hb4.mono hB3.size);have hx4:=(hb4.block _ (qe hx3)).trans hx3;have d4:w4.cell? ⟨w.heap.size,0,none⟩=some (.slice (some ⟨b,o,none⟩) ns.length cap):=by rw[cH9 hx4];rfl
        have hb5:=Below.alloc1 w4 (.cells #[v4] 24);have HSD:Hid _:=jg _ S _ _ _ ns _ (hN4.later hb5) (HD.out.later (hB4.alloc hB4.size (.cells #[v4] 24))).nodes;have hx5:=(hb5.block _ (qe hx4)).trans hx4;have d5:(w4.alloc (.cells #[v4] 24)).cell? ⟨w.heap.size,0,none⟩=some (.slice (some ⟨b,o,none⟩) ns.length cap):=by rw[cH9 hx5];rfl
        have hB5:Below w.heap.size w (w4.alloc (.cells #[v4] 24)):=hB4.alloc hB4.size _;obtain ⟨a4,cap4,rfl,_,_⟩:=hN4.shape;obtain ⟨g,hg⟩:∃ g,qL t=g:=⟨_,rfl⟩;obtain ⟨q,hq⟩:∃ q,(jF ns.length t).length=q:=⟨_,rfl⟩;rw[hq]at HSD hB5 d5 ⊢
        unfold xu;unfold jF at HSD
        rw[hg]at HTD HSD ⊢
        clear hN4 HMM hg hxr hx3 hx4 hx5 hb5 hq;cases g with
        | false =>
          have HE:Hid (qg ns=false):=by show _=_;rw[HTD.out];rfl
          clear HTD HSD;go_wp2_with fail;go_ret;exact ⟨by rw[HE.out];rfl,hB5⟩
        | true =>
          have HE:Hid (qg ns=ndsB (layF ns.length t (-1) 0) ns):=by show _=_;rw[HTD.out];rfl
          clear HTD;simp only[if_true]at HSD
          go_wp2_with fail;refine (Calls.mono HSD.out ?_);rintro e w6 ⟨rfl,hb6⟩;go_wp2_with fail;go_ret;exact ⟨by rw[HE.out];rfl,hB5.trans (hb6.mono hB5.size)⟩
   · have hpb : (x0.parent == -1) = false := by simpa using hp0
     have HE:Hid (qg ns=false):=zj (fun h=>by obtain ⟨_,_,⟨x,hx,hp⟩,_⟩:=h;rw[hx0]at hx;cases hx;exact hp0 hp)
     clear hp0 hx0 HN1;go_wp2_with fail;go_ret;exact ⟨by rw[HE.out];rfl,hb1⟩
 · have h80i : (80 : Int) < (ns.length : Int) := by omega
   have HE:Hid (qg ns=false):=zj (fun h=>h80 h.2.1)
   clear h80 hx0 HN1;go_wp2_with fail;go_ret;exact ⟨by rw[HE.out];rfl,hb1⟩
end
section
attribute [local go_sem] qf
theorem Qt {ns:List Nd}{l:List Int}{k m:Nat}{x:Nd}(hk:l[k]?=some (m:Int))(hx:ns[m]?=some x)(name:ByteArray) :
 zJ ns (l.take (k+1)) name=zJ ns (l.take k) name++(if q9 x name then [(m:Int)] else []):=by
 have hl:=qk hk;have e:l[k]=(m:Int):=by simpa[hl] using hk
 unfold zJ;rw[List.take_succ_eq_append_getElem hl,List.filter_append,e,List.filter_cons,zD hx];rfl
theorem xh (ns:List Nd)(l:List Int)(name:ByteArray):(zJ ns l name).length≤l.length:=List.length_filter_le _ _
set_option maxHeartbeats 1000000 in
theorem jb (S:Nat→Prop)(vn vs:Value)(ns:List Nd)(l:List Int)(s:St)(w:World)(hN:qr S w vn ns)(hI:qx S w vs l)(hin:∀ u∈l,0≤u∧u<ns.length)(hs0:0≤s.n)(hl:l.length≤1048576) :
 Calls Tryz.prog 13 #[vn,vs,.agg #[.string s.name,.int .i64 s.n]] w fun e w'=>∃ v,e=.returned v∧qx (fun b=>w.heap.size≤b) w' v (qD ns l s)∧Below w.heap.size w w':=by
 have hb1:=Below.alloc1 w (.cells #[.string s.name,.int .i64 s.n] 42);have hx1:=heap_alloc_new w (.cells #[.string s.name,.int .i64 s.n] 42);have hz1:(w.alloc (.cells #[.string s.name,.int .i64 s.n] 42)).heap.size=w.heap.size+1:=by simp
 obtain ⟨na,nc,rfl,hnl,hnm⟩:=hN.shape;obtain ⟨sa,sc,rfl,hsl,hsm⟩:=hI.shape;unfold maxLen at hnm hsm
 obtain ⟨i0,hi,hz0,hzz1,hz2⟩:=info_parts intInfoR;have HN:Hid (qr S w (.slice na ns.length nc) ns):=hN;have HI:Hid (qx S w (.slice sa l.length sc) l):=hI;have HIN:Hid (∀ u∈l,0≤u∧u<ns.length):=hin;have HM:Hid (qD ns l s=if s.n=0 then zJ ns l s.name else ((zJ ns l s.name).drop (s.n.toNat-1)).take 1):=rfl
 have HLN:Hid (ns.length=ns.length):=rfl;clear hN hI hin
 go_enter Tryz.func13,Tryz.ntmps13
 go_wp2_with fail
 generalize w.alloc (.cells #[.string s.name,.int .i64 s.n] 42)=W1 at *
 have HZ1:Hid (W1.heap.size=w.heap.size+1):=hz1;have hle1:w.heap.size≤W1.heap.size:=by omega
 clear hz1
 go_loopg [12,7] l.length (fun g i o wr=>∃ (k:Nat),k+g=l.length∧i=.int .i64 (k:Int)∧qC W1.heap.size wr o (zJ ns (l.take k) s.name)∧Below W1.heap.size W1 wr)
 case atStart => exact ⟨0,by omega,rfl,qC.nil _ _,Below.refl _ _⟩
 case round =>
  obtain ⟨k,hk,rfl,hR,hB⟩:=hrel;have hsz:=hB.size;have hBw:Below w.heap.size w wr:=hb1.trans (hB.mono hle1);have hxr:=(hB.block _ (qe hx1)).trans hx1
  by_cases hil:k<l.length
  · obtain ⟨u, hu⟩ : ∃ u, l[k]? = some u := ⟨l[k], by simp[hil]⟩
    have hur:=HIN.out u (List.mem_of_getElem? hu);obtain ⟨m,rfl⟩:∃ m:Nat,u=(m:Int):=⟨u.toNat,by omega⟩
    obtain ⟨x,hx⟩:∃ x,ns[m]?=some x:=⟨ns[m]'(by omega),by simp⟩
    obtain ⟨ib,io,ic,hiv,_,hib,e1⟩:=(HI.out.later hBw).at hu
    injection hiv with hia _ hic
    subst hia hic;obtain ⟨b,o,cap,va,vk,hv,_,_,hSb,hbw,c0,c1,c2,c3,c4,hAt,hKi⟩:=(HN.out.later hBw).at hx
    injection hv with hv1 _ hv2
    subst hv1 hv2;obtain ⟨aa,ac,rfl⟩:=hAt.shape;obtain ⟨ka,kc,rfl,_,_⟩:=hKi.shape;have HSN:Hid _:=Qt hu hx s.name;have HF:Hid (∀ W,Calls Tryz.prog 23 #[.agg #[.bool x.text,.string x.s,.slice aa x.attrs.length ac,.int .i64 x.parent,.slice ka x.kids.length kc],.string s.name] W fun e w'=>e=.returned (.bool (q9 x s.name))∧Below W.heap.size W w'):=fun W=>Q1 x _ _ _ _ _ _ s.name W
    have hili:(k:Int)<(l.length:Int):=by omega
    have hmi:(m:Int)<(ns.length:Int):=by omega
    have d0:wr.cell? ⟨w.heap.size,0,none⟩=some (.string s.name):=by rw[cH9 hxr];rfl
    have hlen:=xh ns (l.take k) s.name;rw[List.length_take]at hlen
    have hlen2:(zJ ns (l.take k) s.name).length≤1048576:=by omega
    obtain ⟨us,hus⟩:∃ us,zJ ns (l.take k) s.name=us:=⟨_,rfl⟩;rw[hus]at hR HSN hlen2
    obtain ⟨ra,rc,rfl,_,_⟩:=hR.shape;have HR:Hid (qC W1.heap.size wr (.slice ra us.length rc) us):=hR
    have HC:Hid (∀ W,Below wr.heap.size wr W→Below wr.heap.size wr W∧W.cell? ⟨b,o+m*5,none⟩=some (.bool x.text)∧W.cell? ⟨b,o+m*5+1,none⟩=some (.string x.s)∧W.cell? ⟨b,o+m*5+2,none⟩=some (.slice aa x.attrs.length ac)∧W.cell? ⟨b,o+m*5+3,none⟩=some (.int .i64 x.parent)∧W.cell? ⟨b,o+m*5+4,none⟩=some (.slice ka x.kids.length kc)∧W.cell? ⟨w.heap.size,0,none⟩=some (.string s.name)):=by
     intro W h;refine ⟨h,?_,?_,?_,?_,?_,?_⟩
     · rw[h.cell (p:=⟨b,o+m*5,none⟩) hbw];exact c0
     · rw[h.cell (p:=⟨b,o+m*5+1,none⟩) hbw];exact c1
     · rw[h.cell (p:=⟨b,o+m*5+2,none⟩) hbw];exact c2
     · rw[h.cell (p:=⟨b,o+m*5+3,none⟩) hbw];exact c3
     · rw[h.cell (p:=⟨b,o+m*5+4,none⟩) hbw];exact c4
     · rw[h.cell (p:=⟨w.heap.size,0,none⟩) (qe hxr)];exact d0
    have hbn:Below wr.heap.size wr wr.drew:=(Below.refl _ _).drew;clear hu hx hAt hKi hus hR hlen hxr hur;cases hq:q9 x s.name with
    | true =>
      rw[hq]at HF HSN
      clear hq;go_wp2_with fail
      go_region_held3 (fun W:World=>Below wr.heap.size wr W∧W.cell? ⟨b,o+m*5,none⟩=some (.bool x.text)∧W.cell? ⟨b,o+m*5+1,none⟩=some (.string x.s)∧W.cell? ⟨b,o+m*5+2,none⟩=some (.slice aa x.attrs.length ac)∧W.cell? ⟨b,o+m*5+3,none⟩=some (.int .i64 x.parent)∧W.cell? ⟨b,o+m*5+4,none⟩=some (.slice ka x.kids.length kc)∧W.cell? ⟨w.heap.size,0,none⟩=some (.string s.name))
       (with_reducible exact HC.out _ hbn)
       (first|(go_at_call 23;refine (Calls.mono (HF.out _) ?_);rintro e w3 ⟨rfl,hb3⟩;have hbn:=hbn.trans (hb3.mono hbn.size)))
      have hR3:qC W1.heap.size w3 (.slice ra us.length rc) us:=HR.out.later hbn;have hs3:=hbn.size;have hB3:Below W1.heap.size W1 w3:=hB.trans (hbn.mono hsz);have hown3:w3.ownsRow W1.heap.size 3 1 (.slice ra us.length rc) us.length (qp us):=hR3;clear c0 c1 c2 c3 c4;go_wp2_with (at_builtin;refine wpList_append_own_at _ rfl _ _ 27 rfl W1.heap.size 3 i0 _ 1 8 Tryz.underlying27 hi hz0 hzz1 hz2 rfl (by decide) _ _ _ rfl (hown3.alloc _) ⟨w3.heap.size,0,none⟩ 1 1 [.int .i64 (m:Int)] rfl ?qc1 ?qc2 ?qc3 ?qc4 ?qc5 ?qc6 ?_)
      case qc1 => rfl
      case qc2 => exact yT _ _ _
      case qc3 => intro z hz;simp at hz;subst hz;rfl
      case qc4 => unfold maxLen;omega
      case qc5 => omega
      case qc6 => simp;omega
      intro v' w4 hown4 hgr4 _ _;obtain ⟨ja,jl,jc,rfl⟩:=qq hown4
      have hR4:qC W1.heap.size w4 (.slice ja jl jc) (us++[(m:Int)]):=by
       unfold qC;rw[qQ,List.length_append];exact hown4
      have hB4:Below W1.heap.size W1 w4:=(hB3.alloc (by omega) _).grown hgr4 (by simp;omega) (fun z hz=>(hR3.lt z hz).1)
      clear hown4 hown3 hR3;go_wp2_with fail
      go_roundg (l.length-(k+1))
      case measure => omega
      case rel => exact ⟨k+1,by omega,by go_num,by rw[HSN.out];exact hR4,hB4⟩
    | false =>
      rw[hq]at HF HSN
      clear hq;go_wp2_with fail
      go_region_held3 (fun W:World=>Below wr.heap.size wr W∧W.cell? ⟨b,o+m*5,none⟩=some (.bool x.text)∧W.cell? ⟨b,o+m*5+1,none⟩=some (.string x.s)∧W.cell? ⟨b,o+m*5+2,none⟩=some (.slice aa x.attrs.length ac)∧W.cell? ⟨b,o+m*5+3,none⟩=some (.int .i64 x.parent)∧W.cell? ⟨b,o+m*5+4,none⟩=some (.slice ka x.kids.length kc)∧W.cell? ⟨w.heap.size,0,none⟩=some (.string s.name))
       (with_reducible exact HC.out _ hbn)
       (first|(go_at_call 23;refine (Calls.mono (HF.out _) ?_);rintro e w3 ⟨rfl,hb3⟩;have hbn:=hbn.trans (hb3.mono hbn.size)))
      have hR3:qC W1.heap.size w3 (.slice ra us.length rc) us:=HR.out.later hbn;have hB3:Below W1.heap.size W1 w3:=hB.trans (hbn.mono hsz);clear c0 c1 c2 c3 c4;go_wp2_with fail
      go_roundg (l.length-(k+1))
      case measure => omega
      case rel => exact ⟨k+1,by omega,by go_num,by rw[HSN.out];simpa using hR3,hB3⟩
  · have hkk : k = l.length := by omega
    subst hkk;rw[List.take_length]at hR
    have hili:¬ ((l.length:Int)<(l.length:Int)):=by omega
    have d1:wr.cell? ⟨w.heap.size,1,none⟩=some (.int .i64 s.n):=by rw[cH9 hxr];rfl
    have hlen:=xh ns l s.name;obtain ⟨us,hus⟩:∃ us,zJ ns l s.name=us:=⟨_,rfl⟩;rw[hus]at hR HM hlen
    obtain ⟨ra,rc,rfl,hrc,hrm⟩:=hR.shape;have HRI:Hid (qx (fun b=>W1.heap.size≤b) wr (.slice ra us.length rc) us):=hR.ints
    clear hus hR
    by_cases hn0:s.n=0
    · have HE : Hid (qD ns l s = us) := by show _ = _;rw[HM.out, if_pos hn0]
      have hne:(s.n==0)=true:=by simp[hn0]
      clear HM hn0;go_wp2_with fail;go_ret;exact ⟨_,rfl,by rw[HE.out];exact HRI.out.carry fun b hb=>⟨by omega,rfl⟩,hBw⟩
    · have hne : (s.n == 0) = false := by simp[hn0]
      obtain ⟨m,hm⟩:∃ m:Nat,s.n=((m+1:Nat):Int):=⟨s.n.toNat-1,by omega⟩
      have HE:Hid (qD ns l s=(us.drop m).take 1):=by show _=_;rw[HM.out,if_neg hn0,hm];simp
      rw[hm]at d1 hne
      clear HM hn0 hm
      by_cases hgt:us.length<m+1
      · have hgi : (us.length : Int) < ((m + 1 : Nat) : Int) := by omega
        have HE2:Hid (qD ns l s=[]):=by show _=_;rw[HE.out,List.drop_of_length_le (by omega)];rfl
        clear HE;go_wp2_with fail;go_ret;exact ⟨_,rfl,by rw[HE2.out];exact qx.nil,hBw⟩
      · have hgi : ¬ (us.length : Int) < ((m + 1 : Nat) : Int) := by omega
        obtain ⟨y,hy⟩:∃ y,us[m]?=some y:=⟨us[m]'(by omega),by simp⟩
        have HE2:Hid (qD ns l s=[y]):=by
         show _=_
         rw[HE.out,List.drop_eq_getElem_cons (by omega)]
         have:us[m]'(by omega)=y:=by
          have:=hy;rw[List.getElem?_eq_getElem (by omega)]at this
          exact Option.some.inj this
         rw[this];rfl
        obtain ⟨rb,ro,rc2,hrv,hrS,hrb,e1⟩:=HRI.out.at hy
        injection hrv with hra _ hrc2
        subst hra hrc2;have HY:Hid (wr.cell? ⟨rb,ro+m,none⟩=some (.int .i64 y)):=e1;clear HE hy e1;unfold maxLen at hrm
        have hmc:m+1≤rc:=by omega
        go_wp2_with fail;go_ret;refine ⟨_,rfl,?_,hBw⟩;rw[HE2.out];refine ⟨some ⟨rb,ro+m,none⟩,rc-m,rfl,by simp;omega,by unfold maxLen;omega,fun _=>⟨rb,ro+m,rfl,by omega,fun i x hx=>?_⟩⟩
        match i,hx with
        | 0,hx=>simp at hx;subst hx;exact HY.out
end
section
attribute [local go_sem] qf
theorem yD {P:Program}{w:World}(base:Nat)(t ty e:TypeId)(i:TypeInfo)(size c:Nat)(ht:P.underlying t=some (.slice e))(hi:P.info? e=some i)
 (v:Value) (n:Nat) (xs:List Value) (hown:w.ownsRow base e size v n xs) :
 (Builtin.append_ #[t,t] ty #[v,.slice none 0 c]).run P w=.ok v w:=by
 rcases hown.2 with ⟨rfl,rfl⟩|⟨g,cap,cur,rfl,_,_,hnc,_⟩
 · simp[Builtin.append_,run_underlying ht,sizeOf,typeInfo,hi,Builtin.lenOf,Builtin.firstCells]
 · simp[Builtin.append_,run_underlying ht,sizeOf,typeInfo,hi,Builtin.lenOf,Builtin.firstCells,hnc,storeCells]
theorem QR {ops:Array Oper}{o:Oper}{a:Act}{w:World}{K:Act→World→Prop}{Q:Exit→Act→World→Prop}{E:Prop}
 (hg:o.guard=none) (s x:Operand) (hop:o.op=Op.call { callee:=Callee.builtin Builtin.append,args:=#[s,x],argTypes:=#[27,27] })
 (B:Nat) (v:Value) (l:List Int) (hs:a.eval s=v) (hown:qC B w v l) (S:Nat→Prop) (u:Value) (m:List Int) (hx:a.eval x=u) (hm:qx S w u m) (hn:l.length+m.length≤1048576) (hB:B≤w.heap.size)
 (hK:∀ v' w',qC B w' v' (l++m)→w.grownBy w' v.ownBlock→K (a.put o.dst v') w') :
 if Region.wanted o (yielded ops a.tmps)=true then Oper.wp Tryz.prog o a w K Q else E:=by
 have hw:Region.wanted o (yielded ops a.tmps)=true:=by simp[Region.wanted,hg]
 rw[if_pos hw];obtain ⟨i0,hi,hz0,hz1,hz2⟩:=info_parts intInfoR;obtain ⟨ua,uc,rfl,_,_⟩:=hm.shape;cases ua with
 | none =>
   have hm0:m=[]:=by
    obtain ⟨a',cap,h1,_,_,h4⟩:=hm
    apply Classical.byContradiction
    intro hne;obtain ⟨b,o,ha,_⟩:=h4 hne;rw[ha]at h1
    cases h1
   subst hm0;have hr:=yD (P:=Tryz.prog) (w:=w) B 27 o.type 3 i0 1 uc Tryz.underlying27 hi v l.length (qp l) hown;unfold Oper.wp;simp[execOp,hop,resolve,invoke,builtin,hs,hx,hr,Result.andThen];exact hK v w (by rw[List.append_nil];exact hown) (World.grownBy.refl _ _)
 | some ad =>
   obtain ⟨v',w',hr,h2,h3,_,h5⟩:=run_append_own_at (P:=Tryz.prog) w B 27 o.type 3 i0 _ 1 8 Tryz.underlying27 hi hz0 hz1 hz2 rfl (by decide) v l.length (qp l) hown ad m.length uc (qp m) (by rw[zL];omega) hm.cells (yn m) (by unfold maxLen;omega) (by omega) hB
   unfold Oper.wp;simp[execOp,hop,resolve,invoke,builtin,hs,hx,hr,Result.andThen];refine hK v' w' ?_ h3;unfold qC;rw[qQ,List.length_append];exact h2
theorem xW {ns:List Nd}{here:List Int}{k:Nat}{u:Int}(hk:here[k]?=some u)(s:St):z7 ns (here.take (k+1)) s=z7 ns (here.take k) s++qD ns (y8 ns u) s:=by
 have hl:=qk hk;have e:here[k]=u:=by simpa[hl] using hk
 unfold z7;rw[List.take_succ_eq_append_getElem hl,List.flatMap_append,e];simp
theorem jW {ns:List Nd}(hg:qg ns=true){d:Nat}{l:List Int}(h:Lev ns d l):l.length≤ns.length:=by
 have hr:=h.rises hg
 have hm:∀ u∈l,0≤u∧u<ns.length:=fun u hu=>by
  obtain ⟨k,x,rfl,hx,_⟩:=h.mem u hu;have:=qk hx;omega
 clear h
 have key:∀ (l:List Int) (a:Int),l.Pairwise (fun u v=>u<v)→(∀ u∈l,a≤u∧u<ns.length)→a≤ns.length→(l.length:Int)≤ns.length-a:=by
  intro l
  induction l with
  | nil=>intro a _ _ h;simp;omega
  | cons x l ih =>
    intro a hp hm ha;rw[List.pairwise_cons]at hp
    have hx:=hm x List.mem_cons_self;have:=ih (x+1) hp.2 (fun u hu=>⟨by have:=hp.1 u hu;omega,(hm u (List.mem_cons_of_mem _ hu)).2⟩) (by omega)
    simp;omega
 have:=key l 0 hr hm (by omega)
 omega
theorem Qo {ns:List Nd}(hg:qg ns=true){m:Nat}{x:Nd}(hx:ns[m]?=some x):∀ u∈x.kids,0≤u∧u<ns.length:=by
 intro u hu;obtain ⟨k,_,rfl,_,h,_⟩:=(qj hg hx).kids u hu;omega
set_option maxHeartbeats 2000000 in
theorem Qc (S:Nat→Prop)(vd vl:Value)(ns:List Nd)(l:List St)(w:World)(hD:zM S w vd ns)(hL:qy S w vl l)(hn:zf l) :
 Calls Tryz.prog 5 #[.agg #[vd],vl] w fun e w'=>∃ v,e=.returned (.tuple #[v,.int .i64 (yv ns l)])∧qx (fun b=>w.heap.size≤b) w' v (yu ns l)∧Below w.heap.size w w':=by
 have hb1:=Below.alloc1 w (.cells #[vd] 24);have hx1:=heap_alloc_new w (.cells #[vd] 24);have hz1:(w.alloc (.cells #[vd] 24)).heap.size=w.heap.size+1:=by simp
 have HG:Hid _:=(hD.later hb1).good;have HD:Hid (zM S w vd ns):=hD;have HL:Hid (qy S w vl l):=hL;have HPG:Hid (∀ W,Below w.heap.size w W→Calls Tryz.prog 8 #[vl] W fun e w'=>e=.returned (.bool (qE l))∧Below W.heap.size W w'):=fun W h=>yA S vl l W (hL.later h) hn
 have HSD:Hid (yu ns l=if qg ns&&qE l then yw ns l else []):=rfl
 have HSE:Hid (yv ns l=if qg ns&&qE l then 0 else 1):=rfl
 obtain ⟨na,nc,rfl,hnl,hnm⟩:=hD.nodes.shape;obtain ⟨la,lc,rfl,hll,hlm⟩:=hL.shape;unfold maxLen at hnm hlm
 clear hD hL hn
 go_enter Tryz.func5,Tryz.ntmps5
 go_wp2_with fail;refine (Calls.mono HG.out ?_);rintro e w2 ⟨rfl,hb2⟩;have hx2:=(hb2.block _ (qe hx1)).trans hx1;have hB2:Below w.heap.size w w2:=hb1.trans (hb2.mono hb1.size);have hz2:w.heap.size<w2.heap.size:=qe hx2;have d2:w2.cell? ⟨w.heap.size,0,none⟩=some (.slice na ns.length nc):=by rw[cH9 hx2];rfl
 clear HG hb1 hx1 hz1 hb2;obtain ⟨q,hq⟩:∃ q,qg ns=q:=⟨_,rfl⟩;rw[hq];cases q with
 | false =>
   have HSD2:Hid (yu ns l=[]):=by show _=_;rw[HSD.out,hq];rfl
   have HSE2:Hid (yv ns l=1):=by show _=_;rw[HSE.out,hq];rfl
   clear HSD HSE hq;go_wp2_with fail
   go_ret2
   exact ⟨_,by rw[HSE2.out];rfl,by rw[HSD2.out];exact qx.nil,hB2⟩
 | true =>
   have HGD:Hid (qg ns=true):=hq;have HSD2:Hid (yu ns l=if qE l then yw ns l else []):=by show _=_;rw[HSD.out,hq];rfl
   have HSE2:Hid (yv ns l=if qE l then 0 else 1):=by show _=_;rw[HSE.out,hq];rfl
   have h80:ns.length≤80:=by
    simp only[qg,Bool.and_eq_true,decide_eq_true_eq]at hq
    exact hq.1.1
   clear HSD HSE hq;go_wp2_with fail;refine (Calls.mono (HPG.out _ hB2) ?_);rintro e w3 ⟨rfl,hb3⟩;have hx3:=(hb3.block _ (qe hx2)).trans hx2;have hB3:Below w.heap.size w w3:=hB2.trans (hb3.mono hB2.size);have hz3:w.heap.size<w3.heap.size:=qe hx3;have d3:w3.cell? ⟨w.heap.size,0,none⟩=some (.slice na ns.length nc):=by rw[cH9 hx3];rfl
   clear hx2 hB2 hz2 d2 hb3;obtain ⟨q2,hq2⟩:∃ q,qE l=q:=⟨_,rfl⟩;rw[hq2];cases q2 with
   | false =>
     have HSD3:Hid (yu ns l=[]):=by show _=_;rw[HSD2.out,hq2];rfl
     have HSE3:Hid (yv ns l=1):=by show _=_;rw[HSE2.out,hq2];rfl
     clear HSD2 HSE2 hq2;go_wp2_with fail
     go_ret2
     exact ⟨_,by rw[HSE3.out];rfl,by rw[HSD3.out];exact qx.nil,hB3⟩
   | true =>
     have HSD3:Hid (yu ns l=yw ns l):=by show _=_;rw[HSD2.out,hq2];rfl
     have HSE3:Hid (yv ns l=0):=by show _=_;rw[HSE2.out,hq2];rfl
     have hpl:=hq2;simp only[qE,Bool.and_eq_true,decide_eq_true_eq]at hpl
     have HST:Hid (∀ s∈l,0≤s.n):=by
      intro s hs;have:=List.all_eq_true.1 hpl.2 s hs;simp only[qv,Bool.and_eq_true,decide_eq_true_eq]at this
      exact this.1.1
     have hl1:1≤l.length:=hpl.1.1;have hl5:l.length≤5:=hpl.1.2;clear HSD2 HSE2 hq2 hpl;obtain ⟨s0,hs0⟩:∃ s,l[0]?=some s:=⟨l[0]'(by omega),by simp⟩
     obtain ⟨lb,lo,lc2,hlv,_,hlb,e0,e1⟩:=(HL.out.later hB3).at hs0
     injection hlv with hla _ hlc2
     subst hla hlc2
     have HL0:Hid (∃ r,l=s0::r):=by
      cases l with
      | nil=>simp at hs0
      | cons a r=>simp at hs0;subst hs0;exact ⟨r,rfl⟩
     have hbn:Below w3.heap.size w3 w3.drew:=(Below.refl _ _).drew
     have HC:Hid (∀ W,Below w3.heap.size w3 W→Below w3.heap.size w3 W∧W.cell? ⟨w.heap.size,0,none⟩=some (.slice na ns.length nc)∧W.cell? ⟨lb,lo,none⟩=some (.string s0.name)∧W.cell? ⟨lb,lo+1,none⟩=some (.int .i64 s0.n)):=by
      intro W h;refine ⟨h,?_,?_,?_⟩
      · rw[h.cell (p:=⟨w.heap.size,0,none⟩) hz3];exact d3
      · rw[h.cell (p:=⟨lb,lo,none⟩) hlb];simpa using e0
      · rw[h.cell (p:=⟨lb,lo+1,none⟩) hlb];simpa using e1
     have hba:Below w3.heap.size w3 (w3.alloc (.cells #[.int .i64 0] 3)).drew:=((Below.refl _ w3).alloc (nR9 _) _).drew
     have HM:Hid (Calls Tryz.prog 13 #[.slice na ns.length nc,.slice (some ⟨w3.heap.size,0,none⟩) 1 1,.agg #[.string s0.name,.int .i64 s0.n]] (w3.alloc (.cells #[.int .i64 0] 3)).drew fun e w'=>∃ v,e=.returned v∧qx (fun b=>w.heap.size<b) w' v (qD ns [0] s0)∧Below w3.heap.size w3 w'):=by
      have hW:Below w.heap.size w (w3.alloc (.cells #[.int .i64 0] 3)).drew:=hB3.trans (hba.mono hB3.size);have hN:=((HD.out.nodes.later hW).carry (S':=fun b=>S b∨b=w3.heap.size) fun b hb=>⟨Or.inl hb,rfl⟩)
      have hI:qx (fun b=>S b∨b=w3.heap.size) (w3.alloc (.cells #[.int .i64 0] 3)).drew (.slice (some ⟨w3.heap.size,0,none⟩) 1 1) [0]:=by
       refine ⟨_,1,rfl,nR9 _,by unfold maxLen;omega,fun _=>⟨w3.heap.size,0,rfl,Or.inr rfl,fun i x hx=>?_⟩⟩
       match i,hx with
       | 0,hx=>simp at hx;subst hx;exact (by simp:(w3.alloc (.cells #[.int .i64 0] 3)).cell? ⟨w3.heap.size,0+0,none⟩=some (.int .i64 0))
      refine (jb _ _ _ ns [0] s0 _ hN hI (fun u hu=>?_) (HST.out s0 (List.mem_of_getElem? hs0)) (by simp)).mono ?_
      · rw[List.mem_singleton]at hu
        obtain ⟨x,hx,_⟩:=yb HGD.out;have:=qk hx;omega
      · rintro e w' ⟨v, rfl, hI', hb'⟩;have hsz:(w3.alloc (.cells #[.int .i64 0] 3)).drew.heap.size=w3.heap.size+1:=by show (w3.alloc (.cells #[.int .i64 0] 3)).heap.size=_;simp
        rw[hsz]at hI' hb'
        refine ⟨v,rfl,hI'.carry fun b hb=>⟨by omega,rfl⟩,?_⟩
        exact hba.trans (hb'.mono (by omega))
     have hl1i:(0:Int)<(l.length:Int):=by omega
     have hl0:0<l.length:=by omega
     have hlne:¬ l=[]:=by intro e;rw[e]at hl0;simp at hl0
     clear e0 e1 hs0;go_wp2_with fail
     go_region_held3 (fun W:World=>Below w3.heap.size w3 W∧W.cell? ⟨w.heap.size,0,none⟩=some (.slice na ns.length nc)∧W.cell? ⟨lb,lo,none⟩=some (.string s0.name)∧W.cell? ⟨lb,lo+1,none⟩=some (.int .i64 s0.n))
      (first
       | with_reducible exact HC.out _ hbn
       | with_reducible exact HC.out _ hba)
      (first|(go_at_call 13;refine (Calls.mono HM.out ?_);rintro e w4 ⟨v4,rfl,hI4,hbm⟩;obtain ⟨va4,vc4,rfl,_,_⟩:=hI4.shape;have hbn:=hbm))
     have hBw4:Below w.heap.size w w4:=hB3.trans (hbn.mono hB3.size);obtain ⟨H0,hH0⟩:∃ H0,qD ns [0] s0=H0:=⟨_,rfl⟩;have HH0:Hid (Lev ns 1 H0):=by show Lev ns 1 H0;rw[←hH0];exact xr HGD.out s0
     have HSP:Hid (yw ns l=yP ns (l.drop 1) H0):=by
      obtain ⟨r,rfl⟩:=HL0.out
      show yP ns r (qD ns [0] s0)=_
      rw[hH0];rfl
     rw[hH0]at hI4 ⊢
     have HI4:Hid (qx (fun b=>w.heap.size<b) w4 (.slice va4 H0.length vc4) H0):=hI4
     have hb4:=hbn;have HLR:Hid ((l.drop 1).length=l.length-1):=List.length_drop;have HC4:Hid (∀ W,Below w3.heap.size w3 W→W.cell? ⟨w.heap.size,0,none⟩=some (.slice na ns.length nc)):=fun W h=>(HC.out W h).2.1
     clear hH0 HM HC hbm hI4 hba;go_wp2_with fail
     all_goals
      go_loopg [30,6] (l.length-1) (fun g j h wr=>∃ (i:Nat) (X:List Int),i+g=l.length-1∧j=.int .i64 (i:Int)∧X=yP ns ((l.drop 1).take i) H0∧qx (fun b=>w.heap.size<b) wr h X∧Below w3.heap.size w3 wr)
      case atStart => exact ⟨0,H0,by omega,rfl,rfl,HI4.out,hb4⟩
      case round =>
       rename World=>wo
       obtain ⟨i,X,hi,rfl,hX,hIX,hBX⟩:=hrel;have hBwr:Below w.heap.size w wo:=hB3.trans (hBX.mono hB3.size)
       by_cases hil:i<l.length-1
       · first
         | (exfalso;omega)
         | (obtain ⟨s, hs⟩ : ∃ s, l[i + 1]? = some s := ⟨l[i + 1]'(by omega), by simp⟩
            have HLev:Hid (Lev ns (1+i) X):=by
             have:=Qp HGD.out ((l.drop 1).take i) 1 H0 HH0.out;rw[List.length_take,HLR.out,Nat.min_eq_left (by omega),←hX]at this
             exact this
            have HXN:Hid (yP ns ((l.drop 1).take (i+1)) H0=z7 ns X s):=by
             have e:(l.drop 1).take (i+1)=(l.drop 1).take i++[s]:=by
              rw[List.take_succ_eq_append_getElem (by rw[HLR.out];exact hil)]
              congr 2
              have:=hs;rw[List.getElem?_eq_getElem (by omega)]at this
              have:=Option.some.inj this;rw[List.getElem_drop];rw[←this]
              congr 1
              omega
             show _=_
             rw[e,jN,←hX]
            obtain ⟨lb2,lo2,lc2,hlv,_,hlb2,e0,e1⟩:=(HL.out.later hBwr).at hs
            injection hlv with hla _ hlc2
            injection hla with hla
            injection hla with hla1 hla2
            subst hla1 hla2 hlc2;have e0':wo.cell? ⟨lb,lo+2+i*2,none⟩=some (.string s.name):=by rw[show lo+2+i*2=lo+(i+1)*2 by omega];exact e0
            have e1':wo.cell? ⟨lb,lo+2+i*2+1,none⟩=some (.int .i64 s.n):=by rw[show lo+2+i*2=lo+(i+1)*2 by omega];exact e1
            have hsn:=HST.out s (List.mem_of_getElem? hs);have hXl:X.length≤80:=Nat.le_trans (jW HGD.out HLev.out) h80;obtain ⟨xa,xc,rfl,hxl,hxm⟩:=hIX.shape;unfold maxLen at hxm
            have HIX:Hid (qx (fun b=>w.heap.size<b) wo (.slice xa X.length xc) X):=hIX
            have hili:(i:Int)<((l.length-1:Nat):Int):=by omega
            have hb5:=Below.alloc1 wo (.cells #[.string s.name,.int .i64 s.n] 42);have hx5:=heap_alloc_new wo (.cells #[.string s.name,.int .i64 s.n] 42);have hz5:(wo.alloc (.cells #[.string s.name,.int .i64 s.n] 42)).heap.size=wo.heap.size+1:=by simp
            clear e0 e1 hs hX hIX;go_wp2_with fail
            generalize wo.alloc (.cells #[.string s.name,.int .i64 s.n] 42)=W5 at *
            have HZ5:Hid (W5.heap.size=wo.heap.size+1):=hz5;have hle5:wo.heap.size≤W5.heap.size:=by omega
            clear hz5
            go_loopg [36,9] X.length (fun g k o wr=>∃ (kk:Nat) (Y:List Int),kk+g=X.length∧k=.int .i64 (kk:Int)∧Y=z7 ns (X.take kk) s∧qC W5.heap.size wr o Y∧Below W5.heap.size W5 wr)
            case atStart => exact ⟨0,[],by omega,rfl,rfl,qC.nil _ _,Below.refl _ _⟩
            case round =>
             obtain ⟨kk,Y,hkk,rfl,hY,hIY,hBY⟩:=hrel;have hB5:Below wo.heap.size wo wr:=hb5.trans (hBY.mono hle5);have hBwx:Below w.heap.size w wr:=hBwr.trans (hB5.mono hBwr.size);have hB3x:Below w3.heap.size w3 wr:=hBX.trans (hB5.mono hBX.size);have hszx:=hBY.size
             by_cases hkl:kk<X.length
             · obtain ⟨u, hu⟩ : ∃ u, X[kk]? = some u := ⟨X[kk], by simp[hkl]⟩
               obtain ⟨m,x,rfl,hx,_⟩:=HLev.out.mem u (List.mem_of_getElem? hu);have hmn:=qk hx;obtain ⟨xb,xo,xc2,hxv,_,hxbw,e2⟩:=(HIX.out.later hB5).at hu
               injection hxv with hxa _ hxc2
               subst hxa hxc2;obtain ⟨b,o,cap,va,vk,hv,_,_,hSb,hbw,c0,c1,c2,c3,c4,hAt,hKi⟩:=(HD.out.nodes.later hBwx).at hx
               injection hv with hv1 _ hv2
               subst hv1 hv2;obtain ⟨ka,kc,rfl,hkl2,hkm⟩:=hKi.shape
               have HYN:Hid (z7 ns (X.take (kk+1)) s=Y++qD ns x.kids s):=by
                show _=_
                rw[xW hu,←hY,qY hx]
               have HYL:Hid (Y.length+(qD ns x.kids s).length≤80):=by
                show _≤_
                rw[←List.length_append,←HYN.out];exact Nat.le_trans (jW HGD.out (xq HGD.out (HLev.out.sub (List.take_sublist _ _)) s)) h80
               have hkidl:x.kids.length≤80:=by
                have:=(xP HD.out HGD.out m x hx).2.1;have h1:=Qo HGD.out hx
                have h2:x.kids.length≤ns.length:=jW HGD.out (d:=dp ns m+1) ⟨fun u hu=>by
                 obtain ⟨k,y,rfl,hjk,_,_,hy,hp⟩:=(qj HGD.out hx).kids u hu;exact ⟨k,y,rfl,hy,QZ HGD.out hy hp hjk⟩,(qj HGD.out hx).row⟩
                omega
               have HMC:Hid (∀ W,Below wr.heap.size wr W→Calls Tryz.prog 13 #[.slice (some ⟨b,o,none⟩) ns.length nc,.slice ka x.kids.length kc,.agg #[.string s.name,.int .i64 s.n]] W fun e w'=>∃ v,e=.returned v∧qx (fun b=>W.heap.size≤b) w' v (qD ns x.kids s)∧Below W.heap.size W w'):=by
                intro W h;exact jb S _ _ ns x.kids s W ((HD.out.nodes.later hBwx).later h) (hKi.later h) (Qo HGD.out hx) hsn (by omega)
               have hbW5:b<W5.heap.size:=by
                have h1:=HD.out.here b hSb;have h2:=hBwr.size;have h3:=hb5.size;omega
               have hB35:Below w3.heap.size w3 W5:=hBX.trans (hb5.mono hBX.size);have c4':W5.cell? ⟨b,o+m*5+4,none⟩=some (.slice ka x.kids.length kc):=by rw[←hBY.cell (p:=⟨b,o+m*5+4,none⟩) hbW5];exact c4
               have HC:Hid (∀ W,Below W5.heap.size W5 W→Below W5.heap.size W5 W∧W.cell? ⟨w.heap.size,0,none⟩=some (.slice (some ⟨b,o,none⟩) ns.length nc)∧W.cell? ⟨b,o+m*5+4,none⟩=some (.slice ka x.kids.length kc)∧W.cell? ⟨wo.heap.size,0,none⟩=some (.string s.name)∧W.cell? ⟨wo.heap.size,1,none⟩=some (.int .i64 s.n)):=by
                intro W h;have h5:=(h.block _ (qe hx5)).trans hx5;refine ⟨h,HC4.out W (hB35.trans (h.mono hB35.size)),?_,?_,?_⟩
                · rw[h.cell (p:=⟨b,o+m*5+4,none⟩) hbW5];exact c4'
                · rw[cH9 h5];rfl
                · rw[cH9 h5];rfl
               obtain ⟨ya,yc,rfl,_,_⟩:=hIY.shape;have HIY:Hid (qC W5.heap.size wr (.slice ya Y.length yc) Y):=hIY;have hkli:(kk:Int)<(X.length:Int):=by omega
               have hmi:(m:Int)<(ns.length:Int):=by omega
               have hbx:Below wr.heap.size wr wr.drew:=(Below.refl _ _).drew;have hbn:Below W5.heap.size W5 wr.drew:=hBY.drew;obtain ⟨Z,hZ⟩:∃ Z,qD ns x.kids s=Z:=⟨_,rfl⟩;rw[hZ]at HMC HYN HYL
               clear hu hx hY hIY hKi hAt c0 c1 c2 c3 hZ c4';go_wp2_with fail
               go_region_held3 (fun W:World=>Below W5.heap.size W5 W∧W.cell? ⟨w.heap.size,0,none⟩=some (.slice (some ⟨b,o,none⟩) ns.length nc)∧W.cell? ⟨b,o+m*5+4,none⟩=some (.slice ka x.kids.length kc)∧W.cell? ⟨wo.heap.size,0,none⟩=some (.string s.name)∧W.cell? ⟨wo.heap.size,1,none⟩=some (.int .i64 s.n))
                (with_reducible exact HC.out _ hbn)
                (first
                 | (go_at_call 13;refine (Calls.mono (HMC.out _ hbx) ?_);rintro e w7 ⟨v7,rfl,hI7,hb7⟩;obtain ⟨va7,vc7,rfl,_,_⟩:=hI7.shape;have hbx:=hbx.trans (hb7.mono hbx.size);have hbn:=hBY.trans (hbx.mono hszx))
                 | (refine QR (by rfl) (.tmp 40) (.tmp 50) (by rfl) W5.heap.size (.slice ya Y.length yc) Y (by simp[Act.eval]) (HIY.out.later hbx) _ (.slice va7 Z.length vc7) Z (by simp[Act.eval]) hI7 (by have:=HYL.out;omega) hbn.size ?_;intro v8 w8 hR8 hg8;obtain ⟨va8,vc8,rfl,_,_⟩:=hR8.shape;have hbn:=hbn.grown hg8 hbn.size (fun z hz=>(HIY.out.lt z hz).1)))
               clear c4;go_wp2_with fail
               go_roundg (X.length-(kk+1))
               case measure => omega
               case rel => exact ⟨kk+1,Y++Z,by omega,by go_num,HYN.out.symm,by rw[List.length_append]at hR8;exact hR8,hbn⟩
             · have hkk2 : kk = X.length := by omega
               subst hkk2;rw[List.take_length]at hY
               have hkli:¬ ((X.length:Int)<(X.length:Int)):=by omega
               obtain ⟨ya,yc,rfl,_,_⟩:=hIY.shape;have hR:=hIY.ints;have hY2:yP ns ((l.drop 1).take (i+1)) H0=Y:=by rw[HXN.out,hY]
               have HY2:Hid (yP ns ((l.drop 1).take (i+1)) H0=Y):=hY2
               have h5w:w.heap.size<W5.heap.size:=by
                have h1:=hBwr.size;have h2:=HZ5.out;omega
               clear hIY hY hY2;go_wp2_with fail
               go_roundg (l.length-1-(i+1))
               case measure => omega
               case rel => exact ⟨i+1,Y,by omega,by go_num,HY2.out.symm,hR.carry fun b hb=>⟨by omega,rfl⟩,hB3x⟩)
       · have hili : ¬ ((i : Int) < ((l.length - 1 : Nat) : Int)) := by omega
         obtain ⟨xa,xc,rfl,hxl,hxm⟩:=hIX.shape
         have hXe:yw ns l=X:=by
          rw[HSP.out,hX,List.take_of_length_le (by rw[HLR.out];omega)]
         have HX:Hid (yw ns l=X):=hXe;clear hX hXe;go_wp2_with fail
         go_ret2
         exact ⟨_,by rw[HSE3.out];rfl,by rw[HSD3.out,HX.out];exact hIX.carry fun b hb=>⟨by omega,rfl⟩,hBwr⟩
end
end Go.Proofs.YtfdbipeidmpciaaGreatDoor
