/- topiaryref.IsName, for every text: the same as tree.Named. Condition: at most 2^47 letters. -/
import Derived.Test.YtnppmdpmippcoaaGreatDoorBundle01
import Derived.Test.YtnppmdpmippcoaaGreatDoorBundle25
import Derived.Shelf.Strings.SlTrimAscii
namespace Go.Proofs.YtnppmdpmippcoaaGreatDoor
open Go.ChangeShapes Go.WideShapes Go.ChangeAt Go.RowKit
set_option maxRecDepth 100000
def abc:List UInt8:=[97,98,99,100,101,102,103,104,105,106,107,108,109,110,111,112,113,114,115,116,117,118,119,120,121,122]
theorem abc_letter:∀ n:Fin 256,abc.contains (UInt8.ofNat n.val)=zX (UInt8.ofNat n.val):=by decide
theorem Yr (c:UInt8):abc.contains c=zX c:=by
 have h:=abc_letter ⟨c.toNat,c.toNat_lt⟩
 simpa using h
theorem yW {p:UInt8→Bool}(l:List UInt8):l.dropWhile p=[]↔l.all p=true:=by
 induction l with
 | nil=>simp
 | cons x r ih =>
   rw[List.dropWhile_cons]
   by_cases h:p x=true
   · rw[if_pos h,ih];simp[h]
   · rw[if_neg h];simp[h]
theorem Yl (l:List UInt8):Lib.trimS l abc=[]↔l.all zX=true:=by
 unfold Lib.trimS Lib.trimLeftS;have he:(fun x=>abc.contains x)=zX:=funext Yr
 rw[he,yW];unfold Lib.trimRightS;rw[he]
 constructor
 · intro h;rw[List.all_reverse]at h
   have h2:l.reverse.dropWhile zX=[]:=by
    cases hd:l.reverse.dropWhile zX with
    | nil=>rfl
    | cons x r =>
      have h3:=List.head_dropWhile_not (l:=l.reverse) zX (by rw[hd];simp)
      simp only[hd,List.head_cons]at h3
      rw[hd]at h
      simp[h3]at h
   rw[yW,List.all_reverse]at h2
   exact h2
 · intro h;have h2:l.reverse.dropWhile zX=[]:=by rw[yW,List.all_reverse];exact h
   rw[h2];rfl
theorem Qb (s:ByteArray)(w:World)(hs:s.size≤maxLen) :
 Calls Tryz.prog 25 #[.string s] w fun e w'=>e=.returned (.bool (zI s))∧Below w.heap.size w w':=by
 have hcon:=Any.strings_Trim_laid Tryz.lays160 (by kernel_rfl) s ⟨#[97,98,99,100,101,102,103,104,105,106,107,108,109,110,111,112,113,114,115,116,117,118,119,120,121,122]⟩ w (by unfold maxLen at hs;omega) (by decide) (ascii_of_all (by decide))
 unfold maxLen at hs
 have HC:Hid (Calls Tryz.prog 52 #[.string s,.string ⟨#[97,98,99,100,101,102,103,104,105,106,107,108,109,110,111,112,113,114,115,116,117,118,119,120,121,122]⟩] w fun e w'=>e=.returned (.string ⟨(Lib.trimS s.data.toList abc).toArray⟩)∧Below w.heap.size w w'):=hcon
 clear hcon
 by_cases h1:s=⟨#[]⟩
 · subst h1
   go_enter Tryz.func25,Tryz.ntmps25
   go_wp2;go_ret;exact ⟨rfl,Below.refl _ _⟩
 have hne:s.size≠0:=by
  intro h
  apply h1
  cases s with|mk d=>simp[ByteArray.size]at h;subst h;rfl
 have hie:s.toList.isEmpty=false:=by
  rw[ByteArray.toList_eq]
  cases s with|mk d=>cases d with|mk l=>cases l with
   | nil=>exact absurd rfl h1
   | cons=>rfl
 clear h1
 by_cases h8:8<s.size
 · go_enter Tryz.func25, Tryz.ntmps25
   go_wp2;go_ret;exact ⟨by simp[zI];omega,Below.refl _ _⟩
 · have h8' : s.size ≤ 8 := by omega
   clear h8
   go_enter Tryz.func25,Tryz.ntmps25
   go_wp2_with fail;refine (HC.out).mono ?_;rintro e W' ⟨rfl,hb⟩;have HB:Hid (Below w.heap.size w W'):=hb;clear hb
   have HT:Hid ((⟨(Lib.trimS s.data.toList abc).toArray⟩:ByteArray).toList.isEmpty=s.data.toList.all zX):=by
    show _=_
    rw[ByteArray.toList_eq]
    show (Lib.trimS s.data.toList abc).isEmpty=_
    cases ha:s.data.toList.all zX with
    | true=>rw[(Yl _).2 ha];rfl
    | false =>
      cases ht:Lib.trimS s.data.toList abc with
      | nil=>rw[(Yl _).1 ht]at ha;cases ha
      | cons=>rfl
   generalize (⟨(Lib.trimS s.data.toList abc).toArray⟩:ByteArray)=r at HT ⊢
   cases hr:r.toList.isEmpty with
   | true =>
     have HX:Hid (s.data.toList.all zX=true):=by have:=HT.out;rw[hr]at this;exact this.symm
     clear HT;go_wp2;go_ret;exact ⟨by simp[zI,HX.out];omega,HB⟩
   | false =>
     have HX:Hid (s.data.toList.all zX=false):=by have:=HT.out;rw[hr]at this;exact this.symm
     clear HT;go_wp2;go_ret;exact ⟨by simp[zI,HX.out],HB⟩
end Go.Proofs.YtnppmdpmippcoaaGreatDoor
