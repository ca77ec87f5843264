/- Bundled: Trim RefName. What each says stands ahead of it. -/
import Derived.Test.YtfdbipeidmpciaaDoorFive01
import Derived.Shelf.Strings.SlTrimAscii
/-
  DERIVED: THE SHELF's CONTRACTS AT THIS DUMP, IN PLAIN WORDS (tools/lay-plain.mjs out of 'YtfdbipeidmpciaaDoorTrim.lean', which tools/lay-shelf.mjs wrote): THE SAME DECLARATIONS UNDER THE SAME NAMES: 'import', 'namespace', 'open', 'def', 'theorem' AND NOTHING ELSE: no command of the shelf's: FOR A HAND-IN. Each laying: the table of numbers ('.._ren') and one theorem, a field a fact of the dump's own or the kernel's comparison; each contract: ONE APPLICATION.
-/
namespace Go.Proofs
open Go.Shelf
def Tryd.lays160_ren:Go.Shelf.Ren:=⟨fun|160=>53|232=>85|231=>84|227=>86|234=>88|233=>87|236=>90|235=>89|228=>109|271=>112|151=>111|197=>110|120=>143|152=>142|260=>141|137=>146|119=>162|224=>163|225=>164|217=>165|266=>186|n=>n,fun|9=>9|4=>4|3=>3|5=>5|117=>124|116=>123|0=>0|124=>127|21=>21|105=>147|46=>176|119=>180|139=>183|138=>182|n=>n,fun|3=>1|4=>2|n=>n⟩
theorem Tryd.lays160:Go.Proofs.Lays.n160 Tryd.prog Tryd.lays160_ren:={
 mixed:=by kernel_rfl
 f119:=Tryd.func162.trans (congrArg some (by kernel_rfl))
 f120:=Tryd.func143.trans (congrArg some (by kernel_rfl))
 f137:=Tryd.func146.trans (congrArg some (by kernel_rfl))
 f151:=Tryd.func111.trans (congrArg some (by kernel_rfl))
 f152:=Tryd.func142.trans (congrArg some (by kernel_rfl))
 f160:=Tryd.func53.trans (congrArg some (by kernel_rfl))
 f197:=Tryd.func110.trans (congrArg some (by kernel_rfl))
 f217:=Tryd.func165.trans (congrArg some (by kernel_rfl))
 f224:=Tryd.func163.trans (congrArg some (by kernel_rfl))
 f225:=Tryd.func164.trans (congrArg some (by kernel_rfl))
 f227:=Tryd.func86.trans (congrArg some (by kernel_rfl))
 f228:=Tryd.func109.trans (congrArg some (by kernel_rfl))
 f231:=Tryd.func84.trans (congrArg some (by kernel_rfl))
 f232:=Tryd.func85.trans (congrArg some (by kernel_rfl))
 f233:=Tryd.func87.trans (congrArg some (by kernel_rfl))
 f234:=Tryd.func88.trans (congrArg some (by kernel_rfl))
 f235:=Tryd.func89.trans (congrArg some (by kernel_rfl))
 f236:=Tryd.func90.trans (congrArg some (by kernel_rfl))
 f260:=Tryd.func141.trans (congrArg some (by kernel_rfl))
 f266:=Tryd.func186.trans (congrArg some (by kernel_rfl))
 f271:=Tryd.func112.trans (congrArg some (by kernel_rfl))
 t0:=Tryd.underlying0
 a0:=Tryd.isAgg0
 z0:=Tryd.sizeOf0
 v0:=Tryd.zeroValue0
 t3:=Tryd.underlying3
 a3:=Tryd.isAgg3
 z3:=Tryd.sizeOf3
 v3:=Tryd.zeroValue3
 t4:=Tryd.underlying4
 a4:=Tryd.isAgg4
 z4:=Tryd.sizeOf4
 v4:=Tryd.zeroValue4
 t5:=Tryd.underlying5
 a5:=Tryd.isAgg5
 z5:=Tryd.sizeOf5
 v5:=Tryd.zeroValue5
 t9:=Tryd.underlying9
 a9:=Tryd.isAgg9
 z9:=Tryd.sizeOf9
 v9:=Tryd.zeroValue9
 t21:=Tryd.underlying21
 a21:=Tryd.isAgg21
 z21:=Tryd.sizeOf21
 v21:=Tryd.zeroValue21
 t46:=Tryd.underlying176
 a46:=Tryd.isAgg176
 z46:=Tryd.sizeOf176
 v46:=Tryd.zeroValue176
 t105:=Tryd.underlying147
 a105:=Tryd.isAgg147
 z105:=Tryd.sizeOf147
 v105:=Tryd.zeroValue147
 t116:=Tryd.underlying123
 a116:=Tryd.isAgg123
 z116:=Tryd.sizeOf123
 t117:=Tryd.underlying124
 a117:=Tryd.isAgg124
 z117:=Tryd.sizeOf124
 v117:=Tryd.zeroValue124
 t119:=Tryd.underlying180
 a119:=Tryd.isAgg180
 z119:=Tryd.sizeOf180
 t124:=Tryd.underlying127
 a124:=Tryd.isAgg127
 z124:=Tryd.sizeOf127
 v124:=Tryd.zeroValue127
 t138:=Tryd.underlying182
 a138:=Tryd.isAgg182
 z138:=Tryd.sizeOf182
 v138:=Tryd.zeroValue182
 t139:=Tryd.underlying183
 a139:=Tryd.isAgg183
 z139:=Tryd.sizeOf183
 v139:=Tryd.zeroValue183
 g3:=by kernel_rfl
 g4:=by kernel_rfl }
end Go.Proofs
namespace Go.Proofs.YtfdbipeidmpciaaDoor
open Go.ChangeShapes Go.WideShapes Go.ChangeAt Go.RowKit
set_option maxRecDepth 100000
def abc:List UInt8:=[97,98,99,100,101,102,103,104,105,106,107,108,109,110,111,112,113,114,115,116,117,118,119,120,121,122]
theorem abc_letter:∀ n:Fin 256,abc.contains (UInt8.ofNat n.val)=ql (UInt8.ofNat n.val):=by decide
theorem QU (c:UInt8):abc.contains c=ql c:=by
 have h:=abc_letter ⟨c.toNat,c.toNat_lt⟩
 simpa using h
theorem zo {p:UInt8→Bool}(l:List UInt8):l.dropWhile p=[]↔l.all p=true:=by
 induction l with
 | nil=>simp
 | cons x r ih =>
   rw[List.dropWhile_cons]
   by_cases h:p x=true
   · rw[if_pos h,ih];simp[h]
   · rw[if_neg h];simp[h]
theorem QN (l:List UInt8):Lib.trimS l abc=[]↔l.all ql=true:=by
 unfold Lib.trimS Lib.trimLeftS;have he:(fun x=>abc.contains x)=ql:=funext QU
 rw[he,zo];unfold Lib.trimRightS;rw[he]
 constructor
 · intro h;rw[List.all_reverse]at h
   have h2:l.reverse.dropWhile ql=[]:=by
    cases hd:l.reverse.dropWhile ql with
    | nil=>rfl
    | cons x r =>
      have h3:=List.head_dropWhile_not (l:=l.reverse) ql (by rw[hd];simp)
      simp only[hd,List.head_cons]at h3
      rw[hd]at h
      simp[h3]at h
   rw[zo,List.all_reverse]at h2
   exact h2
 · intro h;have h2:l.reverse.dropWhile ql=[]:=by rw[zo,List.all_reverse];exact h
   rw[h2];rfl
theorem xP (s:ByteArray)(w:World)(hs:s.size≤maxLen) :
 Calls Tryd.prog 14 #[.string s] w fun e w'=>e=.returned (.bool (qN s))∧Below w.heap.size w w':=by
 have hcon:=Any.strings_Trim_laid Tryd.lays160 (by kernel_rfl) s ⟨#[97,98,99,100,101,102,103,104,105,106,107,108,109,110,111,112,113,114,115,116,117,118,119,120,121,122]⟩ w (by unfold maxLen at hs;omega) (by decide) (ascii_of_all (by decide))
 unfold maxLen at hs
 have HC:Hid (Calls Tryd.prog 53 #[.string s,.string ⟨#[97,98,99,100,101,102,103,104,105,106,107,108,109,110,111,112,113,114,115,116,117,118,119,120,121,122]⟩] w fun e w'=>e=.returned (.string ⟨(Lib.trimS s.data.toList abc).toArray⟩)∧Below w.heap.size w w'):=hcon
 clear hcon
 by_cases h1:s=⟨#[]⟩
 · subst h1
   go_enter Tryd.func14,Tryd.ntmps14
   go_wp2;go_ret;exact ⟨rfl,Below.refl _ _⟩
 have hne:s.size≠0:=by
  intro h
  apply h1
  cases s with|mk d=>simp[ByteArray.size]at h;subst h;rfl
 have hie:s.toList.isEmpty=false:=by
  rw[ByteArray.toList_eq]
  cases s with|mk d=>cases d with|mk l=>cases l with
   | nil=>exact absurd rfl h1
   | cons=>rfl
 clear h1
 by_cases h8:8<s.size
 · go_enter Tryd.func14, Tryd.ntmps14
   go_wp2;go_ret;exact ⟨by simp[qN];omega,Below.refl _ _⟩
 · have h8' : s.size ≤ 8 := by omega
   clear h8
   go_enter Tryd.func14,Tryd.ntmps14
   go_wp2_with fail;refine (HC.out).mono ?_;rintro e W' ⟨rfl,hb⟩;have HB:Hid (Below w.heap.size w W'):=hb;clear hb
   have HT:Hid ((⟨(Lib.trimS s.data.toList abc).toArray⟩:ByteArray).toList.isEmpty=s.data.toList.all ql):=by
    show _=_
    rw[ByteArray.toList_eq]
    show (Lib.trimS s.data.toList abc).isEmpty=_
    cases ha:s.data.toList.all ql with
    | true=>rw[(QN _).2 ha];rfl
    | false =>
      cases ht:Lib.trimS s.data.toList abc with
      | nil=>rw[(QN _).1 ht]at ha;cases ha
      | cons=>rfl
   generalize (⟨(Lib.trimS s.data.toList abc).toArray⟩:ByteArray)=r at HT ⊢
   cases hr:r.toList.isEmpty with
   | true =>
     have HX:Hid (s.data.toList.all ql=true):=by have:=HT.out;rw[hr]at this;exact this.symm
     clear HT;go_wp2;go_ret;exact ⟨by simp[qN,HX.out];omega,HB⟩
   | false =>
     have HX:Hid (s.data.toList.all ql=false):=by have:=HT.out;rw[hr]at this;exact this.symm
     clear HT;go_wp2;go_ret;exact ⟨by simp[qN,HX.out],HB⟩
end Go.Proofs.YtfdbipeidmpciaaDoor
