/- Bundled: Reader CompL RefName BytL. What each says stands ahead of it. -/
import Derived.Test.YtkbhckhbgalaoaaGreatDoorBundle03
import Derived.Test.YtkbhckhbgalaoaaGreatDoorBundle04
import Derived.Shelf.Strings.SlTrimAscii
namespace Go.Proofs.YtkbhckhbgalaoaaGreatDoor
open Go.ChangeShapes Go.WideShapes Go.ChangeAt Go.RowKit
set_option maxRecDepth 100000
section
attribute [local go_sem] qi
def qa (l:List UInt8):ByteArray:=⟨l.toArray⟩
theorem qc (l:List UInt8):(qa l).size=l.length:=by simp[qa,ByteArray.size]
theorem qY (l:List UInt8):(qa l).data.toList=l:=rfl
theorem qq (l:List UInt8):(qa l).toList=l:=by rw[ByteArray.toList_eq];rfl
theorem yJ (s:ByteArray):qa s.data.toList=s:=rfl
theorem yI (l:List UInt8)(k:Nat):(qa l).extract k (qa l).size=qa (l.drop k):=by
 apply ByteArray.ext
 apply Array.ext'
 rw[Lib.extract_data];simp only[qY,qc];exact List.take_of_length_le (by simp)
theorem yK (l:List UInt8)(k:Nat):(qa l).extract 0 k=qa (l.take k):=by
 apply ByteArray.ext
 apply Array.ext'
 rw[Lib.extract_data];simp[qa]
structure Rd (B rb:Nat) (r:Rs) (w:World):Prop where
 base:B≤rb
 held:w.heap[rb]?=some (.cells #[.string (qa r.rest),.bool r.wrong] 39 (0,0))
structure RFr (B rb:Nat) (w w':World):Prop where
 below:Below B w w'
 frame:∀ x,x<w.heap.size→x≠rb→w'.heap[x]?=w.heap[x]?
theorem Rd.lt {B rb:Nat}{r:Rs}{w:World}(h:Rd B rb r w):rb<w.heap.size:=by
 rcases Nat.lt_or_ge rb w.heap.size with h'|h'
 · exact h'
 · have:=h.held;simp[Array.getElem?_eq_none h']at this
theorem Rd.c0 {B rb:Nat}{r:Rs}{w:World}(h:Rd B rb r w):w.cell? ⟨rb,0,none⟩=some (.string (qa r.rest)):=by rw[Lib.cell_of_heap h.held];rfl
theorem Rd.c1 {B rb:Nat}{r:Rs}{w:World}(h:Rd B rb r w):w.cell? ⟨rb,1,none⟩=some (.bool r.wrong):=by rw[Lib.cell_of_heap h.held];rfl
theorem Rd.f0 {B rb:Nat}{r:Rs}{w:World}(h:Rd B rb r w):w.frozen? ⟨rb,0,none⟩=false:=Lib.frozen_of_heap h.held 0
theorem Rd.f1 {B rb:Nat}{r:Rs}{w:World}(h:Rd B rb r w):w.frozen? ⟨rb,1,none⟩=false:=Lib.frozen_of_heap h.held 1
theorem Rd.later {B rb:Nat}{r:Rs}{w w':World}(h:Rd B rb r w)(hb:Below w.heap.size w w'):Rd B rb r w':=⟨h.base,by rw[hb.block rb h.lt];exact h.held⟩
theorem Rd.put0 {B rb:Nat}{r:Rs}{w:World}(h:Rd B rb r w)(l:List UInt8):Rd B rb ⟨l,r.wrong⟩ (w.setCell ⟨rb,0,none⟩ (.string (qa l))):=⟨h.base,by simp[World.setCell,Array.getElem?_modify,h.held]⟩
theorem Rd.put1 {B rb:Nat}{r:Rs}{w:World}(h:Rd B rb r w):Rd B rb ⟨r.rest,true⟩ (w.setCell ⟨rb,1,none⟩ (.bool true)):=⟨h.base,by simp[World.setCell,Array.getElem?_modify,h.held]⟩
theorem RFr.refl (B rb:Nat)(w:World):RFr B rb w w:=⟨Below.refl _ _,fun _ _ _=>rfl⟩
theorem RFr.trans {B rb:Nat}{w w1 w2:World}(h:RFr B rb w w1)(k:RFr B rb w1 w2):RFr B rb w w2 :=
 ⟨h.below.trans k.below,fun x hx h1=>by rw[k.frame x (Nat.lt_of_lt_of_le hx h.below.size) h1,h.frame x hx h1]⟩
theorem RFr.later {B rb:Nat}{w w':World}(hB:B≤w.heap.size)(h:Below w.heap.size w w'):RFr B rb w w':=⟨h.mono hB,fun x hx _=>h.block x hx⟩
theorem RFr.put {B rb:Nat}{w:World}(hB:B≤rb)(k:Nat)(v:Value):RFr B rb w (w.setCell ⟨rb,k,none⟩ v):=⟨(Below.refl B w).setCell hB _,fun _ _ h1=>Below.heap_setCell _ _ _ _ h1⟩
theorem y7 (p l:List UInt8):p.isPrefixOf l=(decide (p.length≤l.length)&&(l.take p.length==p)):=by
 induction p generalizing l with
 | nil=>simp
 | cons c p ih =>
   cases l with
   | nil=>simp
   | cons d l =>
     rw[List.isPrefixOf,ih]
     by_cases h:c=d
     · subst h;simp
     · have h1 : (c == d) = false := by simpa using h
       have h2:(d==c)=false:=by simpa using fun e=>h e.symm
       simp[h1,h2]
theorem x9 (s p:List UInt8)(w:World) :
 Calls Tryz.prog 33 #[.string (qa s),.string (qa p)] w fun e w'=>e=.returned (.bool (p.isPrefixOf s))∧w'=w:=by
 have hz:=qc s;have hz2:=qc p
 have hlite:Calls Tryz.prog 57 #[.string (qa s),.string (qa p)] w fun e w'=>e=.returned (.bool (p.isPrefixOf s))∧w'=w:=by
  by_cases hp:p.length≤s.length
  · have HE:Hid (p.isPrefixOf s=(((qa s).extract 0 (qa p).size).toList==(qa p).toList)):=by
     show _=_
     rw[y7,qc,yK,qq,qq];simp[hp]
    go_enter Tryz.func57,Tryz.ntmps57
    go_wp2;go_ret;exact ⟨by rw[HE.out];rfl,rfl⟩
  · have HE : Hid (p.isPrefixOf s = false) := by show _ = _;rw[y7];simp[hp]
    go_enter Tryz.func57,Tryz.ntmps57
    go_wp2;go_ret;exact ⟨by rw[HE.out];rfl,rfl⟩
 have HL:Hid _:=hlite;clear hlite hz hz2
 go_enter Tryz.func33,Tryz.ntmps33
 go_wp2_with fail;refine (Calls.mono HL.out ?_);rintro e w' ⟨rfl,rfl⟩;go_wp2_with fail;go_ret;exact ⟨rfl,rfl⟩
theorem zQ (B rb:Nat)(r:Rs)(p:List UInt8)(w:World)(h:Rd B rb r w)(_hs:r.rest.length≤1099511627776) :
 Calls Tryz.prog 30 #[.pointer (some ⟨rb,0,none⟩),.string (qa p)] w fun e w'=>e=.returned (.bool (r.ahead p))∧w'=w:=by
 have c0:=h.c0;have c1:=h.c1;have HP:Hid _:=x9 r.rest p w;have HA:Hid (r.ahead p=(!r.wrong&&p.isPrefixOf r.rest)):=rfl;clear h;cases hw:r.wrong with
 | true =>
   rw[hw]at c1
   have HF:Hid (r.ahead p=false):=by show _=_;rw[HA.out,hw];rfl
   go_enter Tryz.func30,Tryz.ntmps30
   go_wp2_with fail;go_ret;exact ⟨by rw[HF.out];rfl,rfl⟩
 | false =>
   rw[hw]at c1
   have HF:Hid (r.ahead p=p.isPrefixOf r.rest):=by show _=_;rw[HA.out,hw];rfl
   go_enter Tryz.func30,Tryz.ntmps30
   go_wp2_with fail;refine (Calls.mono HP.out ?_);rintro e w' ⟨rfl,rfl⟩;go_wp2_with fail;go_ret;exact ⟨by rw[HF.out];rfl,rfl⟩
theorem xR {p l:List UInt8}(h:p.isPrefixOf l=true):p.length≤l.length:=by
 rw[y7]at h;simp at h;exact h.1
theorem yF (B rb:Nat)(r:Rs)(p:List UInt8)(w:World)(h:Rd B rb r w)(hs:r.rest.length≤1099511627776) :
 Calls Tryz.prog 56 #[.pointer (some ⟨rb,0,none⟩),.string (qa p)] w fun e w'=>e=.returned (.bool (r.ahead p))∧Rd B rb (r.take p) w'∧RFr B rb w w':=by
 have c0:=h.c0;have f0:=h.f0;have HR:Hid (Rd B rb r w):=h;have HA:Hid _:=zQ B rb r p w h hs;have hz:=qc r.rest;have hz2:=qc p;clear h;obtain ⟨q,hq⟩:∃ q,r.ahead p=q:=⟨_,rfl⟩;rw[hq]at HA ⊢
 cases q with
 | false =>
   have HT:Hid (r.take p=r):=by show _=_;simp[Rs.take,hq]
   clear hq
   go_enter Tryz.func56,Tryz.ntmps56
   go_wp2_with fail;refine (Calls.mono HA.out ?_);rintro e w' ⟨rfl,rfl⟩;go_wp2_with fail;go_ret;exact ⟨rfl,by rw[HT.out];exact HR.out,RFr.refl _ _ _⟩
 | true =>
   have HT:Hid (r.take p=⟨r.rest.drop p.length,r.wrong⟩):=by show _=_;simp[Rs.take,hq]
   have hpl:p.length≤r.rest.length:=xR (by unfold Rs.ahead at hq;simp only[Bool.and_eq_true]at hq;exact hq.2)
   have HD:Hid ((qa r.rest).extract p.length r.rest.length=qa (r.rest.drop p.length)):=by show _=_;rw[←yI,qc]
   clear hq
   go_enter Tryz.func56,Tryz.ntmps56
   go_wp2_with fail;refine (Calls.mono HA.out ?_);rintro e w' ⟨rfl,rfl⟩;go_wp2_with fail;go_ret;refine ⟨rfl,?_,?_⟩
   · rw[HT.out];have:=HR.out.put0 (r.rest.drop p.length);rw[←HD.out]at this
     exact this
   · exact RFr.put HR.out.base _ _
theorem yp (B rb:Nat)(r:Rs)(p:List UInt8)(w:World)(h:Rd B rb r w)(hs:r.rest.length≤1099511627776) :
 Calls Tryz.prog 47 #[.pointer (some ⟨rb,0,none⟩),.string (qa p)] w fun e w'=>e=.returned (.tuple #[])∧Rd B rb (r.must p) w'∧RFr B rb w w':=by
 have HA:Hid _:=yF B rb r p w h hs
 have HM:Hid (r.must p=if r.ahead p then r.take p else ⟨r.rest,true⟩):=by
  show _=_;unfold Rs.must Rs.take;split<;>simp_all
 have HT:Hid (r.ahead p=false→r.take p=r):=by intro e;simp[Rs.take,e]
 have hB:=h.base;clear h;obtain ⟨q,hq⟩:∃ q,r.ahead p=q:=⟨_,rfl⟩;rw[hq]at HA HM HT
 clear hq;cases q with
 | true =>
   go_enter Tryz.func47,Tryz.ntmps47
   go_wp2_with fail;refine (Calls.mono HA.out ?_);rintro e w' ⟨rfl,h1,h2⟩;go_wp2_with fail
   go_returns
   exact ⟨rfl,by rw[HM.out];exact h1,h2⟩
 | false =>
   have HTT:Hid (r.take p=r):=HT.out rfl;clear HT
   go_enter Tryz.func47,Tryz.ntmps47
   go_wp2_with fail;refine (Calls.mono HA.out ?_);rintro e w' ⟨rfl,h1,h2⟩;rw[HTT.out]at h1
   have c1:=h1.c1;have f1:=h1.f1;have HR:Hid _:=h1;clear h1;go_wp2_with fail
   go_returns
   exact ⟨rfl,by rw[HM.out];exact HR.out.put1,h2.trans (RFr.put hB _ _)⟩
theorem xV (B rb:Nat)(r:Rs)(w:World)(h:Rd B rb r w)(hBw:B≤w.heap.size) :
 Calls Tryz.prog 55 #[.pointer (some ⟨rb,0,none⟩)] w fun e w'=>e=.returned (.tuple #[])∧Rd B rb r.skip w'∧RFr B rb w w':=by
 have hcon:=Any.strings_TrimLeft_laid Tryz.lays161 (by kernel_rfl) (qa r.rest) ⟨#[32,10]⟩ w (by decide) (ascii_of_all (by decide))
 have HC:Hid (Calls Tryz.prog 65 #[.string (qa r.rest),.string ⟨#[32,10]⟩] w fun e w'=>e=.returned (.string (qa (r.rest.dropWhile qe)))∧Below w.heap.size w w'):=hcon
 have c0:=h.c0;have HR:Hid (Rd B rb r w):=h;clear hcon h
 go_enter Tryz.func55,Tryz.ntmps55
 go_wp2_with fail;refine (Calls.mono HC.out ?_);rintro e w1 ⟨rfl,hb1⟩;have HR1:Hid (Rd B rb r w1):=HR.out.later hb1;have d0:=HR1.out.c0;have f0:=HR1.out.f0;go_wp2_with fail
 go_returns
 exact ⟨rfl,HR1.out.put0 _,(RFr.later hBw hb1).trans (RFr.put HR.out.base _ _)⟩
end
end Go.Proofs.YtkbhckhbgalaoaaGreatDoor
/-
  DERIVED: THE SHELF's CONTRACTS AT THIS DUMP, IN PLAIN WORDS (tools/lay-plain.mjs out of 'YtkbhckhbgalaoaaGreatDoorCompL.lean', which tools/lay-shelf.mjs wrote): THE SAME DECLARATIONS UNDER THE SAME NAMES: 'import', 'namespace', 'open', 'def', 'theorem' AND NOTHING ELSE: no command of the shelf's: FOR A HAND-IN. Each laying: the table of numbers ('.._ren') and one theorem, a field a fact of the dump's own or the kernel's comparison; each contract: ONE APPLICATION.
-/
namespace Go.Proofs
open Go.Shelf
def Tryz.lays106_ren:Go.Shelf.Ren:=⟨fun|106=>54|213=>81|265=>112|n=>n,fun|9=>9|3=>3|n=>n,fun|n=>n⟩
theorem Tryz.lays106:Go.Proofs.Lays.n106 Tryz.prog Tryz.lays106_ren:={
 mixed:=by kernel_rfl
 f106:=Tryz.func54.trans (congrArg some (by kernel_rfl))
 f213:=Tryz.func81.trans (congrArg some (by kernel_rfl))
 f265:=Tryz.func112.trans (congrArg some (by kernel_rfl))
 t3:=Tryz.underlying3
 a3:=Tryz.isAgg3
 z3:=Tryz.sizeOf3
 v3:=Tryz.zeroValue3
 t9:=Tryz.underlying9
 a9:=Tryz.isAgg9
 z9:=Tryz.sizeOf9
 v9:=Tryz.zeroValue9 }
open Go.RowKit in
/-- strings.Compare: "Compare returns an integer comparing two strings lexicographically. The result will be 0 if a == b, -1 if a < b, and +1 if a > b.": IT RETURNS 'Lib.compareBytes a b'; the world is as it was. (LAID: no walk: one application.) -/
theorem Tryz.strings_Compare (a b:ByteArray)(w:World) :
 Calls Tryz.prog 54 #[.string a,.string b] w fun e w'=>e=.returned (.int .i64 (Lib.compareBytes a.data.toList b.data.toList))∧w'=w:=Any.strings_Compare Tryz.lays106 a b w
end Go.Proofs
namespace Go.Proofs.YtkbhckhbgalaoaaGreatDoor
open Go.ChangeShapes Go.WideShapes Go.ChangeAt Go.RowKit
set_option maxRecDepth 100000
def abc:List UInt8:=[97,98,99,100,101,102,103,104,105,106,107,108,109,110,111,112,113,114,115,116,117,118,119,120,121,122]
theorem abc_letter:∀ n:Fin 256,abc.contains (UInt8.ofNat n.val)=qd (UInt8.ofNat n.val):=by decide
theorem jy (c:UInt8):abc.contains c=qd c:=by
 have h:=abc_letter ⟨c.toNat,c.toNat_lt⟩
 simpa using h
theorem qL {p:UInt8→Bool}(l:List UInt8):l.dropWhile p=[]↔l.all p=true:=by
 induction l with
 | nil=>simp
 | cons x r ih =>
   rw[List.dropWhile_cons]
   by_cases h:p x=true
   · rw[if_pos h,ih];simp[h]
   · rw[if_neg h];simp[h]
theorem QK (l:List UInt8):Lib.trimS l abc=[]↔l.all qd=true:=by
 unfold Lib.trimS Lib.trimLeftS;have he:(fun x=>abc.contains x)=qd:=funext jy
 rw[he,qL];unfold Lib.trimRightS;rw[he]
 constructor
 · intro h;rw[List.all_reverse]at h
   have h2:l.reverse.dropWhile qd=[]:=by
    cases hd:l.reverse.dropWhile qd with
    | nil=>rfl
    | cons x r =>
      have h3:=List.head_dropWhile_not (l:=l.reverse) qd (by rw[hd];simp)
      simp only[hd,List.head_cons]at h3
      rw[hd]at h
      simp[h3]at h
   rw[qL,List.all_reverse]at h2
   exact h2
 · intro h;have h2:l.reverse.dropWhile qd=[]:=by rw[qL,List.all_reverse];exact h
   rw[h2];rfl
theorem yM (s:ByteArray)(w:World)(hs:s.size≤maxLen) :
 Calls Tryz.prog 68 #[.string s] w fun e w'=>e=.returned (.bool (qK s))∧Below w.heap.size w w':=by
 have hcon:=Any.strings_Trim_laid Tryz.lays160 (by kernel_rfl) s ⟨#[97,98,99,100,101,102,103,104,105,106,107,108,109,110,111,112,113,114,115,116,117,118,119,120,121,122]⟩ w (by unfold maxLen at hs;omega) (by decide) (ascii_of_all (by decide))
 unfold maxLen at hs
 have HC:Hid (Calls Tryz.prog 66 #[.string s,.string ⟨#[97,98,99,100,101,102,103,104,105,106,107,108,109,110,111,112,113,114,115,116,117,118,119,120,121,122]⟩] w fun e w'=>e=.returned (.string ⟨(Lib.trimS s.data.toList abc).toArray⟩)∧Below w.heap.size w w'):=hcon
 clear hcon
 by_cases h1:s=⟨#[]⟩
 · subst h1
   go_enter Tryz.func68,Tryz.ntmps68
   go_wp2;go_ret;exact ⟨rfl,Below.refl _ _⟩
 have hne:s.size≠0:=by
  intro h
  apply h1
  cases s with|mk d=>simp[ByteArray.size]at h;subst h;rfl
 have hie:s.toList.isEmpty=false:=by
  rw[ByteArray.toList_eq]
  cases s with|mk d=>cases d with|mk l=>cases l with
   | nil=>exact absurd rfl h1
   | cons=>rfl
 clear h1
 by_cases h8:8<s.size
 · go_enter Tryz.func68, Tryz.ntmps68
   go_wp2;go_ret;exact ⟨by simp[qK];omega,Below.refl _ _⟩
 · have h8' : s.size ≤ 8 := by omega
   clear h8
   go_enter Tryz.func68,Tryz.ntmps68
   go_wp2_with fail;refine (HC.out).mono ?_;rintro e W' ⟨rfl,hb⟩;have HB:Hid (Below w.heap.size w W'):=hb;clear hb
   have HT:Hid ((⟨(Lib.trimS s.data.toList abc).toArray⟩:ByteArray).toList.isEmpty=s.data.toList.all qd):=by
    show _=_
    rw[ByteArray.toList_eq]
    show (Lib.trimS s.data.toList abc).isEmpty=_
    cases ha:s.data.toList.all qd with
    | true=>rw[(QK _).2 ha];rfl
    | false =>
      cases ht:Lib.trimS s.data.toList abc with
      | nil=>rw[(QK _).1 ht]at ha;cases ha
      | cons=>rfl
   generalize (⟨(Lib.trimS s.data.toList abc).toArray⟩:ByteArray)=r at HT ⊢
   cases hr:r.toList.isEmpty with
   | true =>
     have HX:Hid (s.data.toList.all qd=true):=by have:=HT.out;rw[hr]at this;exact this.symm
     clear HT;go_wp2;go_ret;exact ⟨by simp[qK,HX.out];omega,HB⟩
   | false =>
     have HX:Hid (s.data.toList.all qd=false):=by have:=HT.out;rw[hr]at this;exact this.symm
     clear HT;go_wp2;go_ret;exact ⟨by simp[qK,HX.out],HB⟩
end Go.Proofs.YtkbhckhbgalaoaaGreatDoor
/-
  DERIVED: THE SHELF's CONTRACTS AT THIS DUMP, IN PLAIN WORDS (tools/lay-plain.mjs out of 'YtkbhckhbgalaoaaGreatDoorBytL.lean', which tools/lay-shelf.mjs wrote): THE SAME DECLARATIONS UNDER THE SAME NAMES: 'import', 'namespace', 'open', 'def', 'theorem' AND NOTHING ELSE: no command of the shelf's: FOR A HAND-IN. Each laying: the table of numbers ('.._ren') and one theorem, a field a fact of the dump's own or the kernel's comparison; each contract: ONE APPLICATION.
-/
namespace Go.Proofs
open Go.Shelf
def Tryz.lays137_ren:Go.Shelf.Ren:=⟨fun|137=>44|217=>75|266=>97|n=>n,fun|9=>9|5=>5|3=>3|n=>n,fun|n=>n⟩
theorem Tryz.lays137:Go.Proofs.Lays.n137 Tryz.prog Tryz.lays137_ren:={
 mixed:=by kernel_rfl
 f137:=Tryz.func44.trans (congrArg some (by kernel_rfl))
 f217:=Tryz.func75.trans (congrArg some (by kernel_rfl))
 f266:=Tryz.func97.trans (congrArg some (by kernel_rfl))
 t3:=Tryz.underlying3
 a3:=Tryz.isAgg3
 z3:=Tryz.sizeOf3
 v3:=Tryz.zeroValue3
 t5:=Tryz.underlying5
 a5:=Tryz.isAgg5
 z5:=Tryz.sizeOf5
 v5:=Tryz.zeroValue5
 t9:=Tryz.underlying9
 a9:=Tryz.isAgg9
 z9:=Tryz.sizeOf9
 v9:=Tryz.zeroValue9 }
open Go.RowKit in
/-- strings.IndexByte: "IndexByte returns the index of the first instance of c in s, or -1 if c is not present in s.": IT RETURNS 'Lib.indexByte s c'; the world is as it was. (LAID: no walk: one application.) -/
theorem Tryz.strings_IndexByte (s:ByteArray)(c:Int)(w:World) :
 Calls Tryz.prog 44 #[.string s,.int .u8 c] w fun e w'=>e=.returned (.int .i64 (Lib.indexByte s.data.toList c.toNat.toUInt8))∧w'=w:=Any.strings_IndexByte Tryz.lays137 s c w
end Go.Proofs
