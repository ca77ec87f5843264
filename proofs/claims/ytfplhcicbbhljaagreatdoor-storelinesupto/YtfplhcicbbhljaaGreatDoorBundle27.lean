/- The library's functions that the document's own reader calls, on lists of signs. Condition: at most 2^40 letters. -/
import Derived.Test.YtfplhcicbbhljaaGreatDoorBundle26
namespace Go.Proofs.YtfplhcicbbhljaaGreatDoor
open Go.ChangeShapes Go.WideShapes Go.ChangeAt Go.RowKit
set_option maxRecDepth 100000
theorem qfi (l:List UInt8):(⟨l.toArray⟩:ByteArray)=qa l:=rfl
theorem qcO (u:List UInt8)(w:World) :
 Calls Tryz.prog 103 #[.string (qa (60::u)),.string ⟨#[60]⟩] w fun e w'=>e=.returned (.string (qa u))∧w'=w :=
 Tryz.strings_TrimPrefix (qa (60::u)) ⟨#[60]⟩ w
theorem qfg (u:List UInt8)(c:UInt8):Lib.trimSuffix (u++[c]) [c]=u:=by
 unfold Lib.trimSuffix Lib.hasSuffix;rw[if_pos (by rw[List.isSuffixOf_iff_suffix];exact ⟨u,rfl⟩)]
 simp
theorem XA (u:List UInt8)(w:World)(h:u.length≤1099511627776) :
 Calls Tryz.prog 68 #[.string (qa (u++[62])),.string ⟨#[62]⟩] w fun e w'=>e=.returned (.string (qa u))∧w'=w:=by
 have:=Tryz.strings_TrimSuffix (qa (u++[62])) ⟨#[62]⟩ w (by rw[qe,List.length_append,List.length_singleton];omega)
 rw[zA,show (⟨#[62]⟩:ByteArray).data.toList=[62] from rfl,qfg]at this
 exact this
theorem VQ (u:List UInt8)(c:UInt8):Lib.hasSuffix u [c]=decide (u.getLast?=some c)∧Lib.trimSuffix u [c]=if decide (u.getLast?=some c) then u.dropLast else u:=by
 have h:Lib.hasSuffix u [c]=decide (u.getLast?=some c):=by
  rcases List.eq_nil_or_concat u with rfl|⟨v,d,rfl⟩
  · rfl
  · unfold Lib.hasSuffix;have e:(v.concat d).getLast?=some d:=by rw[List.concat_eq_append];simp
    rw[e,List.concat_eq_append]
    by_cases hd:d=c
    · subst hd;rw[decide_eq_true rfl,List.isSuffixOf_iff_suffix];exact ⟨v,rfl⟩
    · have hf : ¬ (some d = some c) := by simpa using hd
      rw[decide_eq_false hf]
      apply Bool.eq_false_iff.2
      intro hp;obtain ⟨q,hq⟩:=List.isSuffixOf_iff_suffix.1 hp;have:=congrArg List.getLast? hq;simp at this
      exact hd this.symm
 refine ⟨h,?_⟩;unfold Lib.trimSuffix;rw[h]
 by_cases hc:u.getLast?=some c
 · rw[decide_eq_true hc, if_pos rfl, if_pos rfl, List.dropLast_eq_take];rfl
 · rw[decide_eq_false hc];rfl
theorem qbT (u:List UInt8)(w:World)(h:u.length≤1099511627776) :
 Calls Tryz.prog 85 #[.string (qa u),.string ⟨#[47]⟩] w fun e w'=>e=.returned (.tuple #[.string (qa (if decide (u.getLast?=some 47) then u.dropLast else u)),.bool (decide (u.getLast?=some 47))])∧w'=w:=by
 have:=Tryz.strings_CutSuffix (qa u) ⟨#[47]⟩ w (by rw[qe];omega)
 rw[zA,show (⟨#[47]⟩:ByteArray).data.toList=[47] from rfl,(VQ u 47).1,(VQ u 47).2]at this
 exact this
theorem qcJ (u:List UInt8)(w:World) :
 Calls Tryz.prog 104 #[.string (qa u),.string ⟨#[97,98,99,100,101,102,103,104,105,106,107,108,109,110,111,112,113,114,115,116,117,118,119,120,121,122]⟩] w fun e w'=>e=.returned (.string (qa (u.dropWhile qg)))∧Below w.heap.size w w':=by
 have:=Any.strings_TrimLeft_laid Tryz.lays161 (by kernel_rfl) (qa u) ⟨#[97,98,99,100,101,102,103,104,105,106,107,108,109,110,111,112,113,114,115,116,117,118,119,120,121,122]⟩ w (by decide) (ascii_of_all (by decide))
 have he:(fun x=>abc.contains x)=qg:=funext Zo
 rw[←he];exact this
theorem VV (l:List UInt8):Lib.trimS l [32,10]=[]↔l.all qo=true:=by
 unfold Lib.trimS Lib.trimLeftS;have he:(fun x=>([32,10]:List UInt8).contains x)=qo:=rfl
 rw[he,zx];unfold Lib.trimRightS;rw[he]
 constructor
 · intro h;rw[List.all_reverse]at h
   have h2:l.reverse.dropWhile qo=[]:=by
    cases hd:l.reverse.dropWhile qo with
    | nil=>rfl
    | cons x r =>
      have h3:=List.head_dropWhile_not (l:=l.reverse) qo (by rw[hd];simp)
      simp only[hd,List.head_cons]at h3
      rw[hd]at h
      simp[h3]at h
   rw[zx,List.all_reverse]at h2
   exact h2
 · intro h;have h2:l.reverse.dropWhile qo=[]:=by rw[zx,List.all_reverse];exact h
   rw[h2];rfl
theorem qcS (u:List UInt8)(w:World)(h:u.length≤1099511627776) :
 Calls Tryz.prog 97 #[.string (qa u),.string ⟨#[32,10]⟩] w fun e w'=>∃ z,e=.returned (.string z)∧z.toList.isEmpty=u.all qo∧Below w.heap.size w w':=by
 have:=Any.strings_Trim_laid Tryz.lays160 (by kernel_rfl) (qa u) ⟨#[32,10]⟩ w (by rw[qe];omega) (by decide) (ascii_of_all (by decide))
 refine this.mono ?_;rintro e w' ⟨rfl,hb⟩;refine ⟨_,rfl,?_,hb⟩;rw[qfi,qD];have h1:=VV u
 show (Lib.trimS u [32,10]).isEmpty=_
 cases ha:u.all qo with
 | true=>rw[h1.2 ha];rfl
 | false =>
   cases ht:Lib.trimS u [32,10] with
   | nil=>rw[h1.1 ht]at ha;cases ha
   | cons x r=>rfl
theorem qcR (u:List UInt8)(w:World)(h:u.length≤1099511627776) :
 Calls Tryz.prog 67 #[.string (qa u),.string ⟨#[32,10]⟩] w fun e w'=>e=.returned (.string (qa ((u.reverse.dropWhile qo).reverse)))∧Below w.heap.size w w' :=
 Any.strings_TrimRight_laid Tryz.lays162 (by kernel_rfl) (qa u) ⟨#[32,10]⟩ w (by rw[qe];omega) (by decide) (ascii_of_all (by decide))
theorem qfO (w:World)(n:Nat):Below w.heap.size w (w.drewN n):=by
 induction n with
 | zero=>exact Below.refl _ _
 | succ n ih=>exact ih.drew
theorem KR (u sep:List UInt8)(w:World)(h:u.length≤1048576)(hm:xH w) :
 Calls Tryz.prog 9 #[.string (qa u),.string (qa sep)] w fun e w'=>e=.returned (.tuple #[.string (qa (Lib.cut u sep).1),.string (qa (Lib.cut u sep).2.1),.bool (Lib.cut u sep).2.2])∧Below w.heap.size w w':=by
 obtain ⟨m,hm⟩:=hm;refine (Tryz.strings_Cut (qa u) (qa sep) m w (by rw[qe];omega) hm).mono ?_
 rintro e w' ⟨rfl,n,rfl⟩;exact ⟨rfl,qfO _ _⟩
theorem Y0 (u:List UInt8)(w:World) :
 Calls Tryz.prog 66 #[.string (qa (60::u)),.string ⟨#[60,47]⟩] w fun e w'=>e=.returned (.bool (match u with|[]=>false|c::_=>decide (c=47)))∧w'=w:=by
 refine (Tryz.strings_HasPrefix (qa (60::u)) ⟨#[60,47]⟩ w).mono ?_;rintro e w' ⟨rfl,rfl⟩;refine ⟨?_,rfl⟩;rw[zA,show (⟨#[60,47]⟩:ByteArray).data.toList=[60,47] from rfl]
 cases u with
 | nil=>rfl
 | cons c u =>
   have:Lib.hasPrefix (60::c::u) [60,47]=decide (c=47):=by
    by_cases h:c=47
    · subst h;simp[Lib.hasPrefix,List.isPrefixOf]
    · have : ((47 : UInt8) == c) = false := by simpa using fun e => h e.symm
      simp[Lib.hasPrefix,List.isPrefixOf,this,h]
   rw[this]
end Go.Proofs.YtfplhcicbbhljaaGreatDoor
