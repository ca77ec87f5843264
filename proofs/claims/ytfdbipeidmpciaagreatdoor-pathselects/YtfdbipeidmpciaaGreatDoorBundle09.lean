/- Bundled: GoodA RefSame. What each says stands ahead of it. -/
import Derived.Test.YtfdbipeidmpciaaGreatDoorBundle01
import Derived.Deep.RegionWith
import Derived.BigQuiet
import Derived.WalkSmall
namespace Go.Proofs.YtfdbipeidmpciaaGreatDoor
open Go.ChangeShapes Go.WideShapes Go.ChangeAt Go.RowKit
set_option maxRecDepth 100000
section
theorem ZB (t:TypeId)(a b:ByteArray):binOp .geq t (.string a) (.string b)=pure (.bool (!(Op.bytesLess a.toList b.toList))):=by simp[binOp,Op.stringOp]
attribute [local go_sem] ZB
def okA (l:List (ByteArray × ByteArray))(i:Nat):Bool :=
 match l[i]? with
 | none=>true
 | some x => qB x.1 && qU x.2 && (match i with
   | 0=>true
   | j + 1 => match l[j]? with
     | none=>true
     | some y=>Op.bytesLess y.1.toList x.1.toList)
def q7 (l:List (ByteArray × ByteArray)):Bool:=decide (l.length≤4)&&(List.range l.length).all (okA l)
theorem zq {l:List (ByteArray × ByteArray)}{k:Nat}(h:k<l.length)(hk:okA l k=false):q7 l=false:=by
 unfold q7
 have:(List.range l.length).all (okA l)=false:=by
  rw[List.all_eq_false];exact ⟨k,by simpa using h,by simp[hk]⟩
 rw[this];simp
theorem jn (S:Nat→Prop)(v:Value)(l:List (ByteArray × ByteArray))(w:World)(h:qh S w v l)(hl:∀ x∈l,x.1.size≤maxLen∧x.2.size≤maxLen) :
 Calls Tryz.prog 76 #[v] w fun e w'=>e=.returned (.bool (q7 l))∧Below w.heap.size w w':=by
 obtain ⟨a,cap,rfl,_,hm,h5⟩:=h;unfold maxLen at hm
 by_cases h4:4<l.length
 · go_enter Tryz.func76, Tryz.ntmps76
   go_wp2_with fail;go_ret;exact ⟨by simp[q7];omega,Below.refl _ _⟩
 · have h4' : l.length ≤ 4 := by omega
   clear h4
   go_enter Tryz.func76,Tryz.ntmps76
   go_wp2_with fail
   go_loopg [10] l.length (fun g i wr=>∃ k:Nat,k+g=l.length∧i=.int .i64 k∧(∀ i,i<k→okA l i=true)∧Below w.heap.size w wr)
   case atStart => exact ⟨0,by omega,rfl,fun i hi=>by omega,Below.refl _ _⟩
   case round =>
    obtain ⟨k,hk,rfl,hok,hB⟩:=hrel;have HO:Hid (∀ i,i<k→okA l i=true):=hok;clear hok
    by_cases hlt:k<l.length
    · have hne : l ≠ [] := by intro e;subst e;simp at hlt
      obtain ⟨b,o,rfl,hs,hcc⟩:=h5 hne;obtain ⟨x,hx⟩:∃ x,l[k]?=some x:=⟨l[k],by simp[hlt]⟩
      obtain ⟨c0,c1⟩:=hcc k x hx;have hbl:b<w.heap.size:=World.block_lt_of_cell? w _ c0;rw[←hB.cell (p:=⟨b,o+k*2,none⟩) hbl]at c0
      rw[←hB.cell (p:=⟨b,o+k*2+1,none⟩) hbl]at c1
      have hsz:=hB.size;have hblr:b<wr.heap.size:=by omega
      have hxl:=hl x (List.mem_of_getElem? hx);have HX:Hid (l[k]?=some x):=hx
      have next:okA l k=true→∀ i,i<k+1→okA l i=true:=by
       intro h i hi
       by_cases hik:i=k
       · rw[hik];exact h
       · exact HO.out i (by omega)
      have HN:Hid (okA l k=true→∀ i,i<k+1→okA l i=true):=next;clear hx next;cases hn:qB x.1 with
      | false =>
        have HK:Hid (okA l k=false):=by show _=_;unfold okA;rw[HX.out];simp[hn]
        clear h5 hcc;go_wp2_with fail;refine (qZ x.1 _ hxl.1).mono ?_;rintro e w' ⟨rfl,rfl⟩;rw[hn];go_wp2_with fail;go_ret;exact ⟨by rw[zq hlt HK.out];rfl,hB.alloc hsz _⟩
      | true =>
        cases hp:qU x.2 with
        | false =>
          have HK:Hid (okA l k=false):=by show _=_;unfold okA;rw[HX.out];simp[hp]
          clear h5 hcc;go_wp2_with fail;refine (qZ x.1 _ hxl.1).mono ?_;rintro e w' ⟨rfl,rfl⟩;rw[hn];go_wp2_with fail;refine (q6 x.2 _ hxl.2).mono ?_;rintro e w' ⟨rfl,rfl⟩;rw[hp];go_wp2_with fail;go_ret;exact ⟨by rw[zq hlt HK.out];rfl,hB.alloc hsz _⟩
        | true =>
          by_cases h0:k=0
          · subst h0;have HK:Hid (okA l 0=true):=by show _=_;unfold okA;rw[HX.out];simp[hn,hp]
            have hkb:decide ((0:Int)<(0:Int))=false:=by simp
            clear h5 hcc;simp only[Nat.zero_mul,Nat.add_zero]at c0 c1
            rw[show ((0:Nat):Int)=0 from rfl]
            go_wp2_with fail;refine (qZ x.1 _ hxl.1).mono ?_;rintro e w' ⟨rfl,rfl⟩;rw[hn];go_wp2_with fail;refine (q6 x.2 _ hxl.2).mono ?_;rintro e w' ⟨rfl,rfl⟩;rw[hp];go_wp2_with fail
            go_quiet (fail)
            go_wp2_with fail
            go_roundg (l.length-1)
            case measure => omega
            case rel => exact ⟨1,by omega,by go_num,HN.out HK.out,below_drewN (hB.alloc hsz _) nq⟩
          · obtain ⟨j, rfl⟩ : ∃ j, k = j + 1 := ⟨k - 1, by omega⟩
            obtain ⟨y,hy⟩:∃ y,l[j]?=some y:=⟨l[j]'(by omega),by simp⟩
            have d0:=(hcc j y hy).1;rw[←hB.cell (p:=⟨b,o+j*2,none⟩) hbl]at d0
            have hj1:(j:Int)<(l.length:Int):=by omega
            have hj2:(j:Int)+1<(l.length:Int):=by omega
            have hkb:decide ((0:Int)<(j:Int)+1)=true:=by simp
            have hk0:(0:Int)<(j:Int)+1:=by omega
            have hwj:IntKind.i64.wrap (j:Int)=(j:Int):=IntWalk.i64_in _ (by omega)
            have HY:Hid (l[j]?=some y):=hy;clear h5 hcc hy;cases hlss:Op.bytesLess y.1.toList x.1.toList with
            | false =>
              have HK:Hid (okA l (j+1)=false):=by show _=_;unfold okA;rw[HX.out];simp only[];rw[HY.out];simp[hlss]
              go_wp2_with fail;refine (qZ x.1 _ hxl.1).mono ?_;rintro e w' ⟨rfl,rfl⟩;rw[hn];go_wp2_with fail;refine (q6 x.2 _ hxl.2).mono ?_;rintro e w' ⟨rfl,rfl⟩;rw[hp];go_wp2_with fail
              go_quiet (fail)
              go_wp2_with fail;go_ret;exact ⟨by rw[zq hlt HK.out];rfl,below_drewN (hB.alloc hsz _) nq⟩
            | true =>
              have HK:Hid (okA l (j+1)=true):=by show _=_;unfold okA;rw[HX.out];simp only[];rw[HY.out];simp[hlss,hn,hp]
              go_wp2_with fail;refine (qZ x.1 _ hxl.1).mono ?_;rintro e w' ⟨rfl,rfl⟩;rw[hn];go_wp2_with fail;refine (q6 x.2 _ hxl.2).mono ?_;rintro e w' ⟨rfl,rfl⟩;rw[hp];go_wp2_with fail
              go_quiet (fail)
              go_wp2_with fail
              go_roundg (l.length-(j+2))
              case measure => omega
              case rel => exact ⟨j+2,by omega,by go_num,HN.out HK.out,below_drewN (hB.alloc hsz _) nq⟩
    · go_wp2_with fail;go_ret;refine ⟨?_,hB⟩
      have:q7 l=true:=by
       unfold q7;simp only[Bool.and_eq_true,decide_eq_true_eq,List.all_eq_true,List.mem_range];exact ⟨h4',fun i hi=>HO.out i (by omega)⟩
      rw[this];rfl
end
theorem Zh {α:Type}{l m:List α}(hl:l.length=m.length)(h:l.take l.length=m.take l.length):l=m:=by
 rw[List.take_length,hl,List.take_length]at h;exact h
theorem yt (S S':Nat→Prop)(v v':Value)(l m:List (ByteArray × ByteArray))(w:World)(h1:qh S w v l)(h2:qh S' w v' m) :
 Calls Tryz.prog 18 #[v,v'] w fun e w'=>e=.returned (.bool (decide (l=m)))∧Below w.heap.size w w':=by
 obtain ⟨a,cap,rfl,_,hm,h5⟩:=h1;obtain ⟨a',cap',rfl,_,_,h5'⟩:=h2;unfold maxLen at hm
 by_cases hlen:l.length=m.length
 · have hne : ((l.length : Int) != m.length) = false := by simp[hlen]
   have HL:Hid (l.length=m.length):=hlen;clear hlen
   go_enter Tryz.func18,Tryz.ntmps18
   go_wp2_with fail
   go_loopg [13] l.length (fun g i wr=>∃ k:Nat,k+g=l.length∧i=.int .i64 k∧Below w.heap.size w wr∧l.take k=m.take k)
   case atStart => exact ⟨0,by omega,rfl,Below.refl _ _,by simp⟩
   case round =>
    obtain ⟨k,hk,rfl,hB,htk⟩:=hrel;have HTK:Hid (l.take k=m.take k):=htk;clear htk
    by_cases hlt:k<l.length
    · have hne1 : l ≠ [] := by intro e;subst e;simp at hlt
      have hlt':k<m.length:=by have:=HL.out;omega
      have hne2:m≠[]:=by intro e;subst e;simp at hlt'
      obtain ⟨b,o,rfl,hs,hcc⟩:=h5 hne1;obtain ⟨b',o',rfl,hs',hcc'⟩:=h5' hne2;obtain ⟨x,hx⟩:∃ x,l[k]?=some x:=⟨l[k],by simp[hlt]⟩
      obtain ⟨y,hy⟩:∃ y,m[k]?=some y:=⟨m[k],by simp[hlt']⟩
      obtain ⟨c0,c1⟩:=hcc k x hx;obtain ⟨c0',c1'⟩:=hcc' k y hy;have hbl:b<w.heap.size:=World.block_lt_of_cell? w _ c0;have hbl':b'<w.heap.size:=World.block_lt_of_cell? w _ c0';rw[←hB.cell (p:=⟨b,o+k*2,none⟩) hbl]at c0
      rw[←hB.cell (p:=⟨b,o+k*2+1,none⟩) hbl]at c1
      rw[←hB.cell (p:=⟨b',o'+k*2,none⟩) hbl']at c0'
      rw[←hB.cell (p:=⟨b',o'+k*2+1,none⟩) hbl']at c1'
      have hlti:(k:Int)<(l.length:Int):=by omega
      have hlti':(k:Int)<(m.length:Int):=by omega
      have hstep:x=y→l.take (k+1)=m.take (k+1):=by
       intro e;have e1:l.take (k+1)=l.take k++[x]:=by rw[List.take_succ_eq_append_getElem hlt];congr 2;simpa[hlt] using hx
       have e2:m.take (k+1)=m.take k++[y]:=by rw[List.take_succ_eq_append_getElem hlt'];congr 2;simpa[hlt'] using hy
       rw[e1,e2,HTK.out,e]
      have hno:x≠y→decide (l=m)=false:=by
       intro e;simp only[decide_eq_false_iff_not];rintro rfl;rw[hx]at hy;exact e (by cases hy;rfl)
      have HSTEP:Hid (x=y→l.take (k+1)=m.take (k+1)):=hstep;have HNO:Hid (x≠y→decide (l=m)=false):=hno;clear hcc hcc' h5 h5' hx hy hstep hno;obtain ⟨x1,x2⟩:=x;obtain ⟨y1,y2⟩:=y;simp only at c0 c1 c0' c1'
      by_cases he:x1=y1
      · by_cases he2 : x2 = y2
        · subst he;subst he2;have HS2:Hid (l.take (k+1)=m.take (k+1)):=HSTEP.out rfl;clear HSTEP HNO;go_wp2_with fail
          go_quiet (fail)
          go_wp2_with fail
          go_roundg (l.length-(k+1))
          case measure => omega
          case rel => exact ⟨k+1,by omega,by go_num,below_drewN hB nq,HS2.out⟩
        · have hb : (x2.toList == y2.toList) = false := zP he2;have HQ:Hid (decide (l=m)=false):=HNO.out (by intro e;cases e;exact he2 rfl)
          subst he;clear HSTEP HNO he2;go_wp2_with fail
          go_quiet (fail)
          go_wp2_with fail;go_ret;exact ⟨by rw[HQ.out];rfl,below_drewN hB nq⟩
      · have hb : (x1.toList == y1.toList) = false := zP he;have HQ:Hid (decide (l=m)=false):=HNO.out (by intro e;cases e;exact he rfl)
        clear HSTEP HNO he;go_wp2_with fail
        go_quiet (fail)
        go_wp2_with fail;go_ret;exact ⟨by rw[HQ.out];rfl,below_drewN hB nq⟩
    · have hkk : k = l.length := by omega
      subst hkk;have HQ:Hid (decide (l=m)=true):=decide_eq_true (Zh HL.out HTK.out);go_wp2_with fail;go_ret;exact ⟨by rw[HQ.out];rfl,hB⟩
 · have hne:((l.length:Int) != m.length)=true:=by
    have:(l.length:Int)≠m.length:=by omega
    simpa using this
   have hq:decide (l=m)=false:=by
    simp only[decide_eq_false_iff_not];rintro rfl;exact hlen rfl
   rw[hq]
   go_enter Tryz.func18,Tryz.ntmps18
   go_wp2_with fail;go_ret;exact ⟨rfl,Below.refl _ _⟩
end Go.Proofs.YtfdbipeidmpciaaGreatDoor
