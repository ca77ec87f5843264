/- tree.GoodAttrs, for every list of attributes. Condition: texts of at most 2^20 letters. -/
import Derived.Test.YtfdbipeidmpciaaDoorFive01
import Derived.Test.YtfdbipeidmpciaaDoorFive03
import Derived.Deep.RegionWith
import Derived.BigQuiet
import Derived.WalkSmall
namespace Go.Proofs.YtfdbipeidmpciaaDoor
open Go.ChangeShapes Go.WideShapes Go.ChangeAt Go.RowKit
set_option maxRecDepth 100000
section
theorem X1 (t:TypeId)(a b:ByteArray):binOp .geq t (.string a) (.string b)=pure (.bool (!(Op.bytesLess a.toList b.toList))):=by simp[binOp,Op.stringOp]
attribute [local go_sem] X1
def okA (l:List (ByteArray × ByteArray))(i:Nat):Bool :=
 match l[i]? with
 | none=>true
 | some x => qN x.1 && qO x.2 && (match i with
   | 0=>true
   | j + 1 => match l[j]? with
     | none=>true
     | some y=>Op.bytesLess y.1.toList x.1.toList)
def qW (l:List (ByteArray × ByteArray)):Bool:=decide (l.length≤4)&&(List.range l.length).all (okA l)
theorem zL {l:List (ByteArray × ByteArray)}{k:Nat}(h:k<l.length)(hk:okA l k=false):qW l=false:=by
 unfold qW
 have:(List.range l.length).all (okA l)=false:=by
  rw[List.all_eq_false];exact ⟨k,by simpa using h,by simp[hk]⟩
 rw[this];simp
theorem Qi (S:Nat→Prop)(v:Value)(l:List (ByteArray × ByteArray))(w:World)(h:qe S w v l)(hl:∀ x∈l,x.1.size≤maxLen∧x.2.size≤maxLen) :
 Calls Tryd.prog 17 #[v] w fun e w'=>e=.returned (.bool (qW l))∧Below w.heap.size w w':=by
 obtain ⟨a,cap,rfl,_,hm,h5⟩:=h;unfold maxLen at hm
 by_cases h4:4<l.length
 · go_enter Tryd.func17, Tryd.ntmps17
   go_wp2_with fail;go_ret;exact ⟨by simp[qW];omega,Below.refl _ _⟩
 · have h4' : l.length ≤ 4 := by omega
   clear h4
   go_enter Tryd.func17,Tryd.ntmps17
   go_wp2_with fail
   go_loopg [10] l.length (fun g i wr=>∃ k:Nat,k+g=l.length∧i=.int .i64 k∧(∀ i,i<k→okA l i=true)∧Below w.heap.size w wr)
   case atStart => exact ⟨0,by omega,rfl,fun i hi=>by omega,Below.refl _ _⟩
   case round =>
    obtain ⟨k,hk,rfl,hok,hB⟩:=hrel;have HO:Hid (∀ i,i<k→okA l i=true):=hok;clear hok
    by_cases hlt:k<l.length
    · have hne : l ≠ [] := by intro e;subst e;simp at hlt
      obtain ⟨b,o,rfl,hs,hcc⟩:=h5 hne;obtain ⟨x,hx⟩:∃ x,l[k]?=some x:=⟨l[k],by simp[hlt]⟩
      obtain ⟨c0,c1⟩:=hcc k x hx;have hbl:b<w.heap.size:=World.block_lt_of_cell? w _ c0;rw[←hB.cell (p:=⟨b,o+k*2,none⟩) hbl]at c0
      rw[←hB.cell (p:=⟨b,o+k*2+1,none⟩) hbl]at c1
      have hsz:=hB.size;have hblr:b<wr.heap.size:=by omega
      have hxl:=hl x (List.mem_of_getElem? hx);have HX:Hid (l[k]?=some x):=hx
      have next:okA l k=true→∀ i,i<k+1→okA l i=true:=by
       intro h i hi
       by_cases hik:i=k
       · rw[hik];exact h
       · exact HO.out i (by omega)
      have HN:Hid (okA l k=true→∀ i,i<k+1→okA l i=true):=next;clear hx next;cases hn:qN x.1 with
      | false =>
        have HK:Hid (okA l k=false):=by show _=_;unfold okA;rw[HX.out];simp[hn]
        clear h5 hcc;go_wp2_with fail;refine (zv x.1 _ hxl.1).mono ?_;rintro e w' ⟨rfl,rfl⟩;rw[hn];go_wp2_with fail;go_ret;exact ⟨by rw[zL hlt HK.out];rfl,hB.alloc hsz _⟩
      | true =>
        cases hp:qO x.2 with
        | false =>
          have HK:Hid (okA l k=false):=by show _=_;unfold okA;rw[HX.out];simp[hp]
          clear h5 hcc;go_wp2_with fail;refine (zv x.1 _ hxl.1).mono ?_;rintro e w' ⟨rfl,rfl⟩;rw[hn];go_wp2_with fail;refine (zk x.2 _ hxl.2).mono ?_;rintro e w' ⟨rfl,rfl⟩;rw[hp];go_wp2_with fail;go_ret;exact ⟨by rw[zL hlt HK.out];rfl,hB.alloc hsz _⟩
        | true =>
          by_cases h0:k=0
          · subst h0;have HK:Hid (okA l 0=true):=by show _=_;unfold okA;rw[HX.out];simp[hn,hp]
            have hkb:decide ((0:Int)<(0:Int))=false:=by simp
            clear h5 hcc;simp only[Nat.zero_mul,Nat.add_zero]at c0 c1
            rw[show ((0:Nat):Int)=0 from rfl]
            go_wp2_with fail;refine (zv x.1 _ hxl.1).mono ?_;rintro e w' ⟨rfl,rfl⟩;rw[hn];go_wp2_with fail;refine (zk x.2 _ hxl.2).mono ?_;rintro e w' ⟨rfl,rfl⟩;rw[hp];go_wp2_with fail
            go_quiet (fail)
            go_wp2_with fail
            go_roundg (l.length-1)
            case measure => omega
            case rel => exact ⟨1,by omega,by go_num,HN.out HK.out,below_drewN (hB.alloc hsz _) nq⟩
          · obtain ⟨j, rfl⟩ : ∃ j, k = j + 1 := ⟨k - 1, by omega⟩
            obtain ⟨y,hy⟩:∃ y,l[j]?=some y:=⟨l[j]'(by omega),by simp⟩
            have d0:=(hcc j y hy).1;rw[←hB.cell (p:=⟨b,o+j*2,none⟩) hbl]at d0
            have hj1:(j:Int)<(l.length:Int):=by omega
            have hj2:(j:Int)+1<(l.length:Int):=by omega
            have hkb:decide ((0:Int)<(j:Int)+1)=true:=by simp
            have hk0:(0:Int)<(j:Int)+1:=by omega
            have hwj:IntKind.i64.wrap (j:Int)=(j:Int):=IntWalk.i64_in _ (by omega)
            have HY:Hid (l[j]?=some y):=hy;clear h5 hcc hy;cases hlss:Op.bytesLess y.1.toList x.1.toList with
            | false =>
              have HK:Hid (okA l (j+1)=false):=by show _=_;unfold okA;rw[HX.out];simp only[];rw[HY.out];simp[hlss]
              go_wp2_with fail;refine (zv x.1 _ hxl.1).mono ?_;rintro e w' ⟨rfl,rfl⟩;rw[hn];go_wp2_with fail;refine (zk x.2 _ hxl.2).mono ?_;rintro e w' ⟨rfl,rfl⟩;rw[hp];go_wp2_with fail
              go_quiet (fail)
              go_wp2_with fail;go_ret;exact ⟨by rw[zL hlt HK.out];rfl,below_drewN (hB.alloc hsz _) nq⟩
            | true =>
              have HK:Hid (okA l (j+1)=true):=by show _=_;unfold okA;rw[HX.out];simp only[];rw[HY.out];simp[hlss,hn,hp]
              go_wp2_with fail;refine (zv x.1 _ hxl.1).mono ?_;rintro e w' ⟨rfl,rfl⟩;rw[hn];go_wp2_with fail;refine (zk x.2 _ hxl.2).mono ?_;rintro e w' ⟨rfl,rfl⟩;rw[hp];go_wp2_with fail
              go_quiet (fail)
              go_wp2_with fail
              go_roundg (l.length-(j+2))
              case measure => omega
              case rel => exact ⟨j+2,by omega,by go_num,HN.out HK.out,below_drewN (hB.alloc hsz _) nq⟩
    · go_wp2_with fail;go_ret;refine ⟨?_,hB⟩
      have:qW l=true:=by
       unfold qW;simp only[Bool.and_eq_true,decide_eq_true_eq,List.all_eq_true,List.mem_range];exact ⟨h4',fun i hi=>HO.out i (by omega)⟩
      rw[this];rfl
end
end Go.Proofs.YtfdbipeidmpciaaDoor
