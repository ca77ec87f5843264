/- Bundled: Trim RefName. What each says stands ahead of it. -/
import Derived.Test.YtfdbipeidmpciaaGreatDoorBundle01
import Derived.Shelf.Strings.SlTrimAscii
/-
  DERIVED: THE SHELF's CONTRACTS AT THIS DUMP, IN PLAIN WORDS (tools/lay-plain.mjs out of 'YtfdbipeidmpciaaGreatDoorTrim.lean', which tools/lay-shelf.mjs wrote): THE SAME DECLARATIONS UNDER THE SAME NAMES: 'import', 'namespace', 'open', 'def', 'theorem' AND NOTHING ELSE: no command of the shelf's: FOR A HAND-IN. Each laying: the table of numbers ('.._ren') and one theorem, a field a fact of the dump's own or the kernel's comparison; each contract: ONE APPLICATION.
-/
namespace Go.Proofs
open Go.Shelf
def Tryz.lays160_ren:Go.Shelf.Ren:=⟨fun|160=>28|232=>37|231=>36|227=>38|234=>40|233=>39|236=>42|235=>41|228=>50|271=>53|151=>52|197=>51|120=>67|152=>66|260=>65|137=>78|119=>79|224=>80|225=>81|217=>82|266=>91|n=>n,fun|9=>9|4=>4|3=>3|5=>5|117=>78|116=>77|0=>0|124=>81|21=>21|105=>91|46=>109|119=>108|139=>112|138=>111|n=>n,fun|3=>0|4=>1|n=>n⟩
theorem Tryz.lays160:Go.Proofs.Lays.n160 Tryz.prog Tryz.lays160_ren:={
 mixed:=by kernel_rfl
 f119:=Tryz.func79.trans (congrArg some (by kernel_rfl))
 f120:=Tryz.func67.trans (congrArg some (by kernel_rfl))
 f137:=Tryz.func78.trans (congrArg some (by kernel_rfl))
 f151:=Tryz.func52.trans (congrArg some (by kernel_rfl))
 f152:=Tryz.func66.trans (congrArg some (by kernel_rfl))
 f160:=Tryz.func28.trans (congrArg some (by kernel_rfl))
 f197:=Tryz.func51.trans (congrArg some (by kernel_rfl))
 f217:=Tryz.func82.trans (congrArg some (by kernel_rfl))
 f224:=Tryz.func80.trans (congrArg some (by kernel_rfl))
 f225:=Tryz.func81.trans (congrArg some (by kernel_rfl))
 f227:=Tryz.func38.trans (congrArg some (by kernel_rfl))
 f228:=Tryz.func50.trans (congrArg some (by kernel_rfl))
 f231:=Tryz.func36.trans (congrArg some (by kernel_rfl))
 f232:=Tryz.func37.trans (congrArg some (by kernel_rfl))
 f233:=Tryz.func39.trans (congrArg some (by kernel_rfl))
 f234:=Tryz.func40.trans (congrArg some (by kernel_rfl))
 f235:=Tryz.func41.trans (congrArg some (by kernel_rfl))
 f236:=Tryz.func42.trans (congrArg some (by kernel_rfl))
 f260:=Tryz.func65.trans (congrArg some (by kernel_rfl))
 f266:=Tryz.func91.trans (congrArg some (by kernel_rfl))
 f271:=Tryz.func53.trans (congrArg some (by kernel_rfl))
 t0:=Tryz.underlying0
 a0:=Tryz.isAgg0
 z0:=Tryz.sizeOf0
 v0:=Tryz.zeroValue0
 t3:=Tryz.underlying3
 a3:=Tryz.isAgg3
 z3:=Tryz.sizeOf3
 v3:=Tryz.zeroValue3
 t4:=Tryz.underlying4
 a4:=Tryz.isAgg4
 z4:=Tryz.sizeOf4
 v4:=Tryz.zeroValue4
 t5:=Tryz.underlying5
 a5:=Tryz.isAgg5
 z5:=Tryz.sizeOf5
 v5:=Tryz.zeroValue5
 t9:=Tryz.underlying9
 a9:=Tryz.isAgg9
 z9:=Tryz.sizeOf9
 v9:=Tryz.zeroValue9
 t21:=Tryz.underlying21
 a21:=Tryz.isAgg21
 z21:=Tryz.sizeOf21
 v21:=Tryz.zeroValue21
 t46:=Tryz.underlying109
 a46:=Tryz.isAgg109
 z46:=Tryz.sizeOf109
 v46:=Tryz.zeroValue109
 t105:=Tryz.underlying91
 a105:=Tryz.isAgg91
 z105:=Tryz.sizeOf91
 v105:=Tryz.zeroValue91
 t116:=Tryz.underlying77
 a116:=Tryz.isAgg77
 z116:=Tryz.sizeOf77
 t117:=Tryz.underlying78
 a117:=Tryz.isAgg78
 z117:=Tryz.sizeOf78
 v117:=Tryz.zeroValue78
 t119:=Tryz.underlying108
 a119:=Tryz.isAgg108
 z119:=Tryz.sizeOf108
 t124:=Tryz.underlying81
 a124:=Tryz.isAgg81
 z124:=Tryz.sizeOf81
 v124:=Tryz.zeroValue81
 t138:=Tryz.underlying111
 a138:=Tryz.isAgg111
 z138:=Tryz.sizeOf111
 v138:=Tryz.zeroValue111
 t139:=Tryz.underlying112
 a139:=Tryz.isAgg112
 z139:=Tryz.sizeOf112
 v139:=Tryz.zeroValue112
 g3:=by kernel_rfl
 g4:=by kernel_rfl }
end Go.Proofs
namespace Go.Proofs.YtfdbipeidmpciaaGreatDoor
open Go.ChangeShapes Go.WideShapes Go.ChangeAt Go.RowKit
set_option maxRecDepth 100000
def abc:List UInt8:=[97,98,99,100,101,102,103,104,105,106,107,108,109,110,111,112,113,114,115,116,117,118,119,120,121,122]
theorem abc_letter:∀ n:Fin 256,abc.contains (UInt8.ofNat n.val)=qG (UInt8.ofNat n.val):=by decide
theorem jR (c:UInt8):abc.contains c=qG c:=by
 have h:=abc_letter ⟨c.toNat,c.toNat_lt⟩
 simpa using h
theorem q8 {p:UInt8→Bool}(l:List UInt8):l.dropWhile p=[]↔l.all p=true:=by
 induction l with
 | nil=>simp
 | cons x r ih =>
   rw[List.dropWhile_cons]
   by_cases h:p x=true
   · rw[if_pos h,ih];simp[h]
   · rw[if_neg h];simp[h]
theorem jP (l:List UInt8):Lib.trimS l abc=[]↔l.all qG=true:=by
 unfold Lib.trimS Lib.trimLeftS;have he:(fun x=>abc.contains x)=qG:=funext jR
 rw[he,q8];unfold Lib.trimRightS;rw[he]
 constructor
 · intro h;rw[List.all_reverse]at h
   have h2:l.reverse.dropWhile qG=[]:=by
    cases hd:l.reverse.dropWhile qG with
    | nil=>rfl
    | cons x r =>
      have h3:=List.head_dropWhile_not (l:=l.reverse) qG (by rw[hd];simp)
      simp only[hd,List.head_cons]at h3
      rw[hd]at h
      simp[h3]at h
   rw[q8,List.all_reverse]at h2
   exact h2
 · intro h;have h2:l.reverse.dropWhile qG=[]:=by rw[q8,List.all_reverse];exact h
   rw[h2];rfl
theorem yd (s:ByteArray)(w:World)(hs:s.size≤maxLen) :
 Calls Tryz.prog 17 #[.string s] w fun e w'=>e=.returned (.bool (qB s))∧Below w.heap.size w w':=by
 have hcon:=Any.strings_Trim_laid Tryz.lays160 (by kernel_rfl) s ⟨#[97,98,99,100,101,102,103,104,105,106,107,108,109,110,111,112,113,114,115,116,117,118,119,120,121,122]⟩ w (by unfold maxLen at hs;omega) (by decide) (ascii_of_all (by decide))
 unfold maxLen at hs
 have HC:Hid (Calls Tryz.prog 28 #[.string s,.string ⟨#[97,98,99,100,101,102,103,104,105,106,107,108,109,110,111,112,113,114,115,116,117,118,119,120,121,122]⟩] w fun e w'=>e=.returned (.string ⟨(Lib.trimS s.data.toList abc).toArray⟩)∧Below w.heap.size w w'):=hcon
 clear hcon
 by_cases h1:s=⟨#[]⟩
 · subst h1
   go_enter Tryz.func17,Tryz.ntmps17
   go_wp2;go_ret;exact ⟨rfl,Below.refl _ _⟩
 have hne:s.size≠0:=by
  intro h
  apply h1
  cases s with|mk d=>simp[ByteArray.size]at h;subst h;rfl
 have hie:s.toList.isEmpty=false:=by
  rw[ByteArray.toList_eq]
  cases s with|mk d=>cases d with|mk l=>cases l with
   | nil=>exact absurd rfl h1
   | cons=>rfl
 clear h1
 by_cases h8:8<s.size
 · go_enter Tryz.func17, Tryz.ntmps17
   go_wp2;go_ret;exact ⟨by simp[qB];omega,Below.refl _ _⟩
 · have h8' : s.size ≤ 8 := by omega
   clear h8
   go_enter Tryz.func17,Tryz.ntmps17
   go_wp2_with fail;refine (HC.out).mono ?_;rintro e W' ⟨rfl,hb⟩;have HB:Hid (Below w.heap.size w W'):=hb;clear hb
   have HT:Hid ((⟨(Lib.trimS s.data.toList abc).toArray⟩:ByteArray).toList.isEmpty=s.data.toList.all qG):=by
    show _=_
    rw[ByteArray.toList_eq]
    show (Lib.trimS s.data.toList abc).isEmpty=_
    cases ha:s.data.toList.all qG with
    | true=>rw[(jP _).2 ha];rfl
    | false =>
      cases ht:Lib.trimS s.data.toList abc with
      | nil=>rw[(jP _).1 ht]at ha;cases ha
      | cons=>rfl
   generalize (⟨(Lib.trimS s.data.toList abc).toArray⟩:ByteArray)=r at HT ⊢
   cases hr:r.toList.isEmpty with
   | true =>
     have HX:Hid (s.data.toList.all qG=true):=by have:=HT.out;rw[hr]at this;exact this.symm
     clear HT;go_wp2;go_ret;exact ⟨by simp[qB,HX.out];omega,HB⟩
   | false =>
     have HX:Hid (s.data.toList.all qG=false):=by have:=HT.out;rw[hr]at this;exact this.symm
     clear HT;go_wp2;go_ret;exact ⟨by simp[qB,HX.out],HB⟩
end Go.Proofs.YtfdbipeidmpciaaGreatDoor
