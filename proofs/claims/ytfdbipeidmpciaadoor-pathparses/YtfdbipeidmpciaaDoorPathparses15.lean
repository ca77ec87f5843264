/- The document's own IsPath and SameSteps, for every list of steps. Condition: names no longer than a text may be. -/
import Derived.Test.YtfdbipeidmpciaaDoorPathparses14
import Derived.Test.YtfdbipeidmpciaaDoorPathparses11
namespace Go.Proofs.YtfdbipeidmpciaaDoor
open Go.ChangeShapes Go.WideShapes Go.ChangeAt Go.RowKit
set_option maxRecDepth 100000
section
attribute [local go_sem] qf
theorem VP (l:List St):yM l=(l.all qN&&(decide (0<l.length)&&decide (l.length<6))):=by
 unfold yM;have e1:decide (1≤l.length)=decide (0<l.length):=rfl;have e2:decide (l.length≤5)=decide (l.length<6):=by rw[decide_eq_decide];omega
 rw[e1,e2,Bool.and_comm]
set_option maxHeartbeats 2000000 in
theorem XV (S:Nat→Prop)(v:Value)(l:List St)(w:World)(h:zh S w v l)(hn:QY l) :
 Calls Tryd.prog 81 #[v] w fun e w'=>e=.returned (.bool (yM l))∧Below w.heap.size w w':=by
 have HP:Hid (yM l=(l.all qN&&(decide (0<l.length)&&decide (l.length<6)))):=VP l;have HL:Hid (zh S w v l):=h;have HN:Hid (QY l):=hn;obtain ⟨a,cap,rfl,hlc,hcm⟩:=h.shape;unfold maxLen at hcm
 clear h hn
 go_enter Tryd.func81,Tryd.ntmps81
 go_wp2_with fail
 go_loopg [7] l.length (fun g j wr=>∃ (i:Nat),i+g=l.length∧j=.int .i64 (i:Int)∧Below w.heap.size w wr∧l.all qN=(l.drop i).all qN)
 case atStart => exact ⟨0,by omega,rfl,Below.refl _ _,rfl⟩
 case round =>
  obtain ⟨i,hi,rfl,hB,hA⟩:=hrel;have HA:Hid (l.all qN=(l.drop i).all qN):=hA;clear hA;have hsz:=hB.size
  by_cases hil:i<l.length
  · obtain ⟨s, hs⟩ : ∃ s, l[i]? = some s := ⟨l[i], by simp[hil]⟩
    obtain ⟨b,o,c2,hv,_,_,e0,e1⟩:=(HL.out.later hB).at hs
    injection hv with hv1 hvl hv2
    subst hv1 hv2;clear hvl
    have hdr:l.drop i=s::l.drop (i+1):=by
     rw[List.drop_eq_getElem_cons hil];congr 1;simpa[hil] using hs
    have HD:Hid ((l.drop i).all qN=(qN s&&(l.drop (i+1)).all qN)):=by show _=_;rw[hdr];rfl
    have HF:Hid (qN s=(decide (0≤s.n)&&decide (s.n≤99)&&(decide (s.name=⟨#[]⟩)||decide (s.name=⟨#[42]⟩)||qF s.name))):=rfl
    have HNM:Hid (∀ W,Calls Tryd.prog 14 #[.string s.name] W fun e w'=>e=.returned (.bool (qF s.name))∧Below W.heap.size W w'):=fun W=>jy s.name W (HN.out s (List.mem_of_getElem? hs))
    have hili:(i:Int)<(l.length:Int):=by omega
    have hb1:=hB.alloc hsz (.cells #[.string s.name,.int .i64 s.n] 110);clear hs hdr
    have KF:qN s=false→Hid (yM l=false):=by
     intro hq
     show _=_
     rw[HP.out,HA.out,HD.out,hq];rfl
    have KT:qN s=true→Hid (l.all qN=(l.drop (i+1)).all qN):=by
     intro hq
     show _=_
     rw[HA.out,HD.out,hq];rfl
    by_cases h0:s.n<0
    · have HE := KF (by rw[HF.out];simp[show ¬ 0 ≤ s.n by omega])
      clear KF KT HF;go_wp2_with fail;go_ret;exact ⟨by rw[HE.out];rfl,hb1⟩
    · by_cases h99 : 99 < s.n
      · have HE := KF (by rw[HF.out];simp[show ¬ s.n ≤ 99 by omega])
        clear KF KT HF;go_wp2_with fail;go_ret;exact ⟨by rw[HE.out];rfl,hb1⟩
      · have h1 : 0 ≤ s.n := by omega
        have h2:s.n≤99:=by omega
        by_cases he:s.name=⟨#[]⟩
        · have hl1 : s.name.toList = [] := (zt _ _).2 he;have HE:=KT (by rw[HF.out];simp[h1,h2,he])
          clear KF KT HF he;go_wp2_with fail
          go_roundg (l.length-(i+1))
          case measure => omega
          case rel => exact ⟨i+1,by omega,by go_num,hb1,HE.out⟩
        · have hl1 : ¬ s.name.toList = [] := fun e => he ((zt _ _).1 e)
          by_cases hst:s.name=⟨#[42]⟩
          · have hl2 : s.name.toList = [42] := (zt _ _).2 hst;have HE:=KT (by rw[HF.out];simp[h1,h2,hst])
            clear KF KT HF he hst hl1;go_wp2_with fail
            go_roundg (l.length-(i+1))
            case measure => omega
            case rel => exact ⟨i+1,by omega,by go_num,hb1,HE.out⟩
          · have hl2 : ¬ s.name.toList = [42] := fun e => hst ((zt _ _).1 e)
            have hl3:s.name.toList.isEmpty=false:=by simpa using hl1
            have hl4:(s.name.toList==[42])=false:=by simpa using hl2
            cases hq:qF s.name with
            | true =>
              have HE:=KT (by rw[HF.out];simp[h1,h2,hq])
              rw[hq]at HNM
              clear KF KT HF he hst hq;go_wp2_with fail;refine (Calls.mono (HNM.out _) ?_);rintro e w3 ⟨rfl,hb3⟩;go_wp2_with fail
              go_roundg (l.length-(i+1))
              case measure => omega
              case rel => exact ⟨i+1,by omega,by go_num,hb1.trans (hb3.mono hb1.size),HE.out⟩
            | false =>
              have HE:=KF (by rw[HF.out];simp[he,hst,hq])
              rw[hq]at HNM
              clear KF KT HF he hst hq;go_wp2_with fail;refine (Calls.mono (HNM.out _) ?_);rintro e w3 ⟨rfl,hb3⟩;go_wp2_with fail;go_ret;exact ⟨by rw[HE.out];rfl,hb1.trans (hb3.mono hb1.size)⟩
  · have hili : ¬ (i : Int) < (l.length : Int) := by omega
    have HE:Hid (yM l=(decide (0<l.length)&&decide (l.length<6))):=by show _=_;rw[HP.out,HA.out,List.drop_of_length_le (by omega)];rfl
    clear HP HA
    by_cases hp:0<l.length
    · have hpi : (0 : Int) < (l.length : Int) := by omega
      have HE2:Hid (yM l=decide ((l.length:Int)<6)):=by
       show _=_
       rw[HE.out];simp only[hp,decide_true,Bool.true_and];rw[decide_eq_decide];omega
      clear HE;go_wp2_with fail;go_ret;exact ⟨by rw[HE2.out];rfl,hB⟩
    · have hpi : ¬ (0 : Int) < (l.length : Int) := by omega
      have HE2:Hid (yM l=false):=by show _=_;rw[HE.out];simp[hp]
      clear HE;go_wp2_with fail;go_ret;exact ⟨by rw[HE2.out];rfl,hB⟩
set_option maxHeartbeats 2000000 in
theorem ZZ (S T:Nat→Prop)(va vb:Value)(l:List St)(w:World)(h1:zh S w va l)(h2:zh T w vb l) :
 Calls Tryd.prog 50 #[va,vb] w fun e w'=>e=.returned (.bool true)∧Below w.heap.size w w':=by
 have H1:Hid (zh S w va l):=h1;have H2:Hid (zh T w vb l):=h2;obtain ⟨a,ca,rfl,_,hcm⟩:=h1.shape;obtain ⟨b,cb,rfl,_,hcm2⟩:=h2.shape;unfold maxLen at hcm hcm2
 clear h1 h2
 go_enter Tryd.func50,Tryd.ntmps50
 go_wp2_with fail
 go_loopg [13] l.length (fun g j wr=>∃ (i:Nat),i+g=l.length∧j=.int .i64 (i:Int)∧Below w.heap.size w wr)
 case atStart => exact ⟨0,by omega,rfl,Below.refl _ _⟩
 case round =>
  obtain ⟨i,hi,rfl,hB⟩:=hrel
  by_cases hil:i<l.length
  · obtain ⟨s, hs⟩ : ∃ s, l[i]? = some s := ⟨l[i], by simp[hil]⟩
    obtain ⟨b1,o1,c1,hv1,_,hbw1,e0,e1⟩:=(H1.out.later hB).at hs
    injection hv1 with hv1 hvl hv2
    subst hv1 hv2;clear hvl;obtain ⟨b2,o2,c2,hv3,_,hbw2,g0,g1⟩:=(H2.out.later hB).at hs
    injection hv3 with hv3 hvl hv4
    subst hv3 hv4;clear hvl hs;have hili:(i:Int)<(l.length:Int):=by omega
    have hbn:Below wr.heap.size wr wr.drew:=(Below.refl _ _).drew
    have HC:Hid (∀ W,Below wr.heap.size wr W→Below wr.heap.size wr W∧W.cell? ⟨b1,o1+i*2,none⟩=some (.string s.name)∧W.cell? ⟨b1,o1+i*2+1,none⟩=some (.int .i64 s.n)∧W.cell? ⟨b2,o2+i*2,none⟩=some (.string s.name)∧W.cell? ⟨b2,o2+i*2+1,none⟩=some (.int .i64 s.n)):=by
     intro W h;refine ⟨h,?_,?_,?_,?_⟩
     · rw[h.cell (p:=⟨b1,o1+i*2,none⟩) hbw1];exact e0
     · rw[h.cell (p:=⟨b1,o1+i*2+1,none⟩) hbw1];exact e1
     · rw[h.cell (p:=⟨b2,o2+i*2,none⟩) hbw2];exact g0
     · rw[h.cell (p:=⟨b2,o2+i*2+1,none⟩) hbw2];exact g1
    go_wp2_with fail
    go_region_held3 (fun W:World=>Below wr.heap.size wr W∧W.cell? ⟨b1,o1+i*2,none⟩=some (.string s.name)∧W.cell? ⟨b1,o1+i*2+1,none⟩=some (.int .i64 s.n)∧W.cell? ⟨b2,o2+i*2,none⟩=some (.string s.name)∧W.cell? ⟨b2,o2+i*2+1,none⟩=some (.int .i64 s.n))
     (with_reducible exact HC.out _ hbn)
     (fail)
    go_wp2_with fail
    go_roundg (l.length-(i+1))
    case measure => omega
    case rel => exact ⟨i+1,by omega,by go_num,hB.trans (hbn.mono hB.size)⟩
  · have hili : ¬ (i : Int) < (l.length : Int) := by omega
    go_wp2_with fail;go_ret;exact ⟨rfl,hB⟩
end
end Go.Proofs.YtfdbipeidmpciaaDoor
