/- topiaryref.IsAttrs, for every list of attributes: the same as tree.GoodAttrs. Condition: texts of at most 2^20 letters. -/
import Derived.Test.YtfdbipeidmpciaaDoorDocmakesupto12
import Derived.Test.YtfdbipeidmpciaaDoorDocmakesupto15
namespace Go.Proofs.YtfdbipeidmpciaaDoor
open Go.ChangeShapes Go.WideShapes Go.ChangeAt Go.RowKit
set_option maxRecDepth 100000
section
theorem less_not:∀ a b:List UInt8,(Op.bytesLess a b||a==b)=!(Op.bytesLess b a)
 | [],[]=>by simp[Op.bytesLess]
 | [],y::r=>by simp[Op.bytesLess]
 | x::q,[]=>by simp[Op.bytesLess]
 | x :: q, y :: r => by
   have ih:=less_not q r;simp only[Op.bytesLess]
   by_cases h:x=y
   · subst h;simp only[List.cons_beq_cons,UInt8.lt_irrefl,decide_false,Bool.false_or,beq_self_eq_true,Bool.true_and];exact ih
   · have h' : (x == y) = false := by simpa using h
     have h2:(y==x)=false:=by simpa using fun e=>h e.symm
     simp only[List.cons_beq_cons,h',h2,Bool.false_and,Bool.or_false]
     have:(y<x)↔¬ (x<y):=by
      rw[UInt8.lt_iff_toNat_lt,UInt8.lt_iff_toNat_lt];have hn:x.toNat≠y.toNat:=fun e=>h (UInt8.toNat_inj.1 e)
      omega
     by_cases hxy:x<y
     · have : ¬ (y < x) := fun e => (this.1 e) hxy
       simp[hxy,this]
     · have := this.2 hxy;simp[hxy,this]
theorem X2 (t:TypeId)(a b:ByteArray):binOp .leq t (.string a) (.string b)=pure (.bool (!(Op.bytesLess b.toList a.toList))):=by
 simp only[binOp,Op.stringOp,less_not]
attribute [local go_sem] X2
def jk (l:List (ByteArray × ByteArray)):Nat→ByteArray
 | 0=>⟨#[]⟩
 | j+1=>match l[j]? with|none=>⟨#[]⟩|some y=>y.1
theorem Ke {l:List (ByteArray × ByteArray)}{k:Nat}{x:ByteArray × ByteArray}(hx:l[k]?=some x)(hn:qN x.1=true)(hp:qO x.2=true) :
 okA l k=Op.bytesLess (jk l k).toList x.1.toList:=by
 unfold okA;rw[hx];simp only[hn,hp,Bool.true_and];cases k with
 | zero =>
   show true=Op.bytesLess (jk l 0).toList x.1.toList
   have h0:(jk l 0).toList=[]:=by show (⟨#[]⟩:ByteArray).toList=[];rw[ByteArray.toList_eq]
   rw[h0];cases hl:x.1.toList with
   | cons a r=>rfl
   | nil =>
     rw[ByteArray.toList_eq]at hl
     have:x.1.size=0:=by
      have h1:x.1.data.toList.length=0:=by rw[hl];rfl
      simpa using h1
     simp[qN,this]at hn
 | succ j =>
   have hj:j+1<l.length:=(List.getElem?_eq_some_iff.1 hx).1;have hy:l[j]?=some (l[j]'(by omega)):=by simp
   simp only[jk,hy]
theorem Yv {l:List (ByteArray × ByteArray)}{k:Nat}{x:ByteArray × ByteArray}(hx:l[k]?=some x):jk l (k+1)=x.1:=by
 simp[jk,hx]
theorem ZJ (S:Nat→Prop)(v:Value)(l:List (ByteArray × ByteArray))(w:World)(h:qe S w v l)(hl:∀ x∈l,x.1.size≤maxLen∧x.2.size≤maxLen) :
 Calls Tryd.prog 18 #[v] w fun e w'=>e=.returned (.bool (qW l))∧Below w.heap.size w w':=by
 obtain ⟨a,cap,rfl,hle,hm,h5⟩:=h;unfold maxLen at hm
 go_enter Tryd.func18,Tryd.ntmps18
 go_wp2_with fail
 go_loopg [3,8] l.length (fun g z i wr=>∃ k:Nat,k+g=l.length∧z=.string (jk l k)∧i=.int .i64 k∧(∀ i,i<k→okA l i=true)∧Below w.heap.size w wr)
 case atStart => exact ⟨0,by omega,rfl,rfl,fun i hi=>by omega,Below.refl _ _⟩
 case round =>
  obtain ⟨k,hk,rfl,rfl,hok,hB⟩:=hrel;have HO:Hid (∀ i,i<k→okA l i=true):=hok;clear hok
  by_cases hlt:k<l.length
  · have hne : l ≠ [] := by intro e;subst e;simp at hlt
    obtain ⟨b,o,rfl,hs,hcc⟩:=h5 hne;obtain ⟨x,hx⟩:∃ x,l[k]?=some x:=⟨l[k],by simp[hlt]⟩
    obtain ⟨c0,c1⟩:=hcc k x hx;have hbl:b<w.heap.size:=World.block_lt_of_cell? w _ c0;rw[←hB.cell (p:=⟨b,o+k*2,none⟩) hbl]at c0
    rw[←hB.cell (p:=⟨b,o+k*2+1,none⟩) hbl]at c1
    have hsz:=hB.size;have hblr:b<wr.heap.size:=by omega
    have hxl:=hl x (List.mem_of_getElem? hx);have HX:Hid (l[k]?=some x):=hx
    have next:okA l k=true→∀ i,i<k+1→okA l i=true:=by
     intro h i hi
     by_cases hik:i=k
     · rw[hik];exact h
     · exact HO.out i (by omega)
    have HN:Hid (okA l k=true→∀ i,i<k+1→okA l i=true):=next;have HL:Hid (jk l (k+1)=x.1):=Yv hx;clear hx next;have hB1:Below w.heap.size w (wr.alloc (.cells #[.string x.1,.string x.2] 69)):=hB.alloc hsz _;have e0:(wr.alloc (.cells #[.string x.1,.string x.2] 69)).cell? ⟨wr.heap.size,0,none⟩=some (.string x.1):=by simp
    have e1:(wr.alloc (.cells #[.string x.1,.string x.2] 69)).cell? ⟨wr.heap.size,1,none⟩=some (.string x.2):=by simp
    have es:wr.heap.size<(wr.alloc (.cells #[.string x.1,.string x.2] 69)).heap.size:=by simp
    clear h5 hcc;go_wp2_with fail
    generalize wr.alloc (.cells #[.string x.1,.string x.2] 69)=W1 at hB1 e0 e1 es ⊢
    refine (xP x.1 W1 (by omega)).mono ?_
    rintro e W2 ⟨rfl,hb2⟩;have f0:W2.cell? ⟨wr.heap.size,0,none⟩=some (.string x.1):=by rw[hb2.cell (p:=⟨wr.heap.size,0,none⟩) es];exact e0
    have f1:W2.cell? ⟨wr.heap.size,1,none⟩=some (.string x.2):=by rw[hb2.cell (p:=⟨wr.heap.size,1,none⟩) es];exact e1
    have hB2:Below w.heap.size w W2:=hB1.trans (hb2.mono hB1.size);have fs:wr.heap.size<W2.heap.size:=by have:=hb2.size;omega
    cases hn:qN x.1 with
    | false =>
      have HK:Hid (okA l k=false):=by show _=_;unfold okA;rw[HX.out];simp[hn]
      go_wp2_with fail;go_ret;exact ⟨by rw[zL hlt HK.out];rfl,hB2⟩
    | true =>
      go_wp2_with fail;refine (xh x.2 W2 hxl.2).mono ?_;rintro e W3 ⟨rfl,hb3⟩;have g0:W3.cell? ⟨wr.heap.size,0,none⟩=some (.string x.1):=by rw[hb3.cell (p:=⟨wr.heap.size,0,none⟩) fs];exact f0
      have hB3:Below w.heap.size w W3:=hB2.trans (hb3.mono hB2.size);cases hp:qO x.2 with
      | false =>
        have HK:Hid (okA l k=false):=by show _=_;unfold okA;rw[HX.out];simp[hp]
        go_wp2_with fail;go_ret;exact ⟨by rw[zL hlt HK.out];rfl,hB3⟩
      | true =>
        have HK:Hid (okA l k=Op.bytesLess (jk l k).toList x.1.toList):=Ke HX.out hn hp;cases hlss:Op.bytesLess (jk l k).toList x.1.toList with
        | false =>
          go_wp2_with fail;go_ret;exact ⟨by rw[zL hlt (HK.out.trans hlss)];rfl,hB3⟩
        | true =>
          go_wp2_with fail
          go_roundg (l.length-(k+1))
          case measure => omega
          case rel => exact ⟨k+1,by omega,by rw[HL.out],by go_num,HN.out (HK.out.trans hlss),hB3⟩
  · have HT:Hid ((List.range l.length).all (okA l)=true):=by
     show _=_
     simp only[List.all_eq_true,List.mem_range];exact fun i hi=>HO.out i (by omega)
    by_cases h4:l.length≤4
    · go_wp2_with fail;go_ret;exact ⟨by simp[qW,HT.out,h4];omega,hB⟩
    · go_wp2_with fail;go_ret;exact ⟨by simp[qW,h4];omega,hB⟩
end
end Go.Proofs.YtfdbipeidmpciaaDoor
