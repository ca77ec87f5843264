/- Bundled: TrimL Trim TrrL Reader CompL RefName BytL NilK. What each says stands ahead of it. -/
import Derived.Shelf.LaySoft
import Derived.Test.YtfplhcicbbhljaaGreatDoorBundle03
import Derived.Shelf.Strings.SlTrimAscii
/-
  DERIVED: LAID BY THE SHELF's lay-shelf.mjs AT THE DUMP 'toys/ytfplhcicbbhljaagreatdoor/ytfplhcicbbhljaagreatdoor.cut.gsa' (alias 'Tryz'): THE LIBRARY CONTRACTS THAT ARE PROVED ONCE, OVER ANY PROGRAM AND ANY NUMBERING, AS THEOREMS OF THIS PROGRAM: WITHOUT A WALK: 'shelf_lay' reads the table of numbers off the bodies and has the kernel compare each body; then each contract is ONE APPLICATION. EACH COMMAND STANDS UNDER 'shelf_try': one that errs is rolled back and told in the build's print ('SHELF: NOT LAID: <name>: ..'); THE MODULE's LAST ROW OF PRINT COUNTS THEM ('SHELF: n LAID, m NOT LAID'): READ IT: a contract that is not laid is not there to be used.
-/
namespace Go.Proofs
open Go.Shelf
shelf_try shelf_lay Lays.n161 Nm 161 at Tryz as Tryz.lays161
shelf_try open Go.RowKit in
shelf_try #print axioms Tryz.strings_TrimLeft_one
shelf_tried
end Go.Proofs
/-
  DERIVED: LAID BY THE SHELF's lay-shelf.mjs AT THE DUMP 'toys/ytfplhcicbbhljaagreatdoor/ytfplhcicbbhljaagreatdoor.cut.gsa' (alias 'Tryz'): THE LIBRARY CONTRACTS THAT ARE PROVED ONCE, OVER ANY PROGRAM AND ANY NUMBERING, AS THEOREMS OF THIS PROGRAM: WITHOUT A WALK: 'shelf_lay' reads the table of numbers off the bodies and has the kernel compare each body; then each contract is ONE APPLICATION. EACH COMMAND STANDS UNDER 'shelf_try': one that errs is rolled back and told in the build's print ('SHELF: NOT LAID: <name>: ..'); THE MODULE's LAST ROW OF PRINT COUNTS THEM ('SHELF: n LAID, m NOT LAID'): READ IT: a contract that is not laid is not there to be used.
-/
namespace Go.Proofs
open Go.Shelf
shelf_try shelf_lay Lays.n160 Nm 160 at Tryz as Tryz.lays160
shelf_try open Go.RowKit in
shelf_try #print axioms Tryz.strings_Trim_one
shelf_tried
end Go.Proofs
/-
  DERIVED: LAID BY THE SHELF's lay-shelf.mjs AT THE DUMP 'toys/ytfplhcicbbhljaagreatdoor/ytfplhcicbbhljaagreatdoor.cut.gsa' (alias 'Tryz'): THE LIBRARY CONTRACTS THAT ARE PROVED ONCE, OVER ANY PROGRAM AND ANY NUMBERING, AS THEOREMS OF THIS PROGRAM: WITHOUT A WALK: 'shelf_lay' reads the table of numbers off the bodies and has the kernel compare each body; then each contract is ONE APPLICATION. EACH COMMAND STANDS UNDER 'shelf_try': one that errs is rolled back and told in the build's print ('SHELF: NOT LAID: <name>: ..'); THE MODULE's LAST ROW OF PRINT COUNTS THEM ('SHELF: n LAID, m NOT LAID'): READ IT: a contract that is not laid is not there to be used.
-/
namespace Go.Proofs
open Go.Shelf
shelf_try shelf_lay Lays.n162 Nm 162 at Tryz as Tryz.lays162
shelf_try open Go.RowKit in
shelf_try #print axioms Tryz.strings_TrimRight_one
shelf_tried
end Go.Proofs
namespace Go.Proofs.YtfplhcicbbhljaaGreatDoor
open Go.ChangeShapes Go.WideShapes Go.ChangeAt Go.RowKit
set_option maxRecDepth 100000
section
attribute [local go_sem] qd
def qa (l:List UInt8):ByteArray:=⟨l.toArray⟩
theorem qe (l:List UInt8):(qa l).size=l.length:=by simp[qa,ByteArray.size]
theorem zA (l:List UInt8):(qa l).data.toList=l:=rfl
theorem qD (l:List UInt8):(qa l).toList=l:=by rw[ByteArray.toList_eq];rfl
theorem V5 (s:ByteArray):qa s.data.toList=s:=rfl
theorem x8 (l:List UInt8)(k:Nat):(qa l).extract k (qa l).size=qa (l.drop k):=by
 apply ByteArray.ext
 apply Array.ext'
 rw[Lib.extract_data];simp only[zA,qe];exact List.take_of_length_le (by simp)
theorem x9 (l:List UInt8)(k:Nat):(qa l).extract 0 k=qa (l.take k):=by
 apply ByteArray.ext
 apply Array.ext'
 rw[Lib.extract_data];simp[qa]
structure Rd (B rb:Nat) (r:Rs) (w:World):Prop where
 base:B≤rb
 held:w.heap[rb]?=some (.cells #[.string (qa r.rest),.bool r.wrong] 101 (0,0))
structure RFr (B rb:Nat) (w w':World):Prop where
 below:Below B w w'
 frame:∀ x,x<w.heap.size→x≠rb→w'.heap[x]?=w.heap[x]?
theorem Rd.lt {B rb:Nat}{r:Rs}{w:World}(h:Rd B rb r w):rb<w.heap.size:=by
 rcases Nat.lt_or_ge rb w.heap.size with h'|h'
 · exact h'
 · have:=h.held;simp[Array.getElem?_eq_none h']at this
theorem Rd.c0 {B rb:Nat}{r:Rs}{w:World}(h:Rd B rb r w):w.cell? ⟨rb,0,none⟩=some (.string (qa r.rest)):=by rw[Lib.cell_of_heap h.held];rfl
theorem Rd.c1 {B rb:Nat}{r:Rs}{w:World}(h:Rd B rb r w):w.cell? ⟨rb,1,none⟩=some (.bool r.wrong):=by rw[Lib.cell_of_heap h.held];rfl
theorem Rd.f0 {B rb:Nat}{r:Rs}{w:World}(h:Rd B rb r w):w.frozen? ⟨rb,0,none⟩=false:=Lib.frozen_of_heap h.held 0
theorem Rd.f1 {B rb:Nat}{r:Rs}{w:World}(h:Rd B rb r w):w.frozen? ⟨rb,1,none⟩=false:=Lib.frozen_of_heap h.held 1
theorem Rd.later {B rb:Nat}{r:Rs}{w w':World}(h:Rd B rb r w)(hb:Below w.heap.size w w'):Rd B rb r w':=⟨h.base,by rw[hb.block rb h.lt];exact h.held⟩
theorem Rd.put0 {B rb:Nat}{r:Rs}{w:World}(h:Rd B rb r w)(l:List UInt8):Rd B rb ⟨l,r.wrong⟩ (w.setCell ⟨rb,0,none⟩ (.string (qa l))):=⟨h.base,by simp[World.setCell,Array.getElem?_modify,h.held]⟩
theorem Rd.put1 {B rb:Nat}{r:Rs}{w:World}(h:Rd B rb r w):Rd B rb ⟨r.rest,true⟩ (w.setCell ⟨rb,1,none⟩ (.bool true)):=⟨h.base,by simp[World.setCell,Array.getElem?_modify,h.held]⟩
theorem RFr.refl (B rb:Nat)(w:World):RFr B rb w w:=⟨Below.refl _ _,fun _ _ _=>rfl⟩
theorem RFr.trans {B rb:Nat}{w w1 w2:World}(h:RFr B rb w w1)(k:RFr B rb w1 w2):RFr B rb w w2 :=
 ⟨h.below.trans k.below,fun x hx h1=>by rw[k.frame x (Nat.lt_of_lt_of_le hx h.below.size) h1,h.frame x hx h1]⟩
theorem RFr.later {B rb:Nat}{w w':World}(hB:B≤w.heap.size)(h:Below w.heap.size w w'):RFr B rb w w':=⟨h.mono hB,fun x hx _=>h.block x hx⟩
theorem RFr.put {B rb:Nat}{w:World}(hB:B≤rb)(k:Nat)(v:Value):RFr B rb w (w.setCell ⟨rb,k,none⟩ v):=⟨(Below.refl B w).setCell hB _,fun _ _ h1=>Below.heap_setCell _ _ _ _ h1⟩
theorem QI (p l:List UInt8):p.isPrefixOf l=(decide (p.length≤l.length)&&(l.take p.length==p)):=by
 induction p generalizing l with
 | nil=>simp
 | cons c p ih =>
   cases l with
   | nil=>simp
   | cons d l =>
     rw[List.isPrefixOf,ih]
     by_cases h:c=d
     · subst h;simp
     · have h1 : (c == d) = false := by simpa using h
       have h2:(d==c)=false:=by simpa using fun e=>h e.symm
       simp[h1,h2]
theorem JI (s p:List UInt8)(w:World) :
 Calls Tryz.prog 66 #[.string (qa s),.string (qa p)] w fun e w'=>e=.returned (.bool (p.isPrefixOf s))∧w'=w:=by
 have hz:=qe s;have hz2:=qe p
 have hlite:Calls Tryz.prog 84 #[.string (qa s),.string (qa p)] w fun e w'=>e=.returned (.bool (p.isPrefixOf s))∧w'=w:=by
  by_cases hp:p.length≤s.length
  · have HE:Hid (p.isPrefixOf s=(((qa s).extract 0 (qa p).size).toList==(qa p).toList)):=by
     show _=_
     rw[QI,qe,x9,qD,qD];simp[hp]
    go_enter Tryz.func84,Tryz.ntmps84
    go_wp2;go_ret;exact ⟨by rw[HE.out];rfl,rfl⟩
  · have HE : Hid (p.isPrefixOf s = false) := by show _ = _;rw[QI];simp[hp]
    go_enter Tryz.func84,Tryz.ntmps84
    go_wp2;go_ret;exact ⟨by rw[HE.out];rfl,rfl⟩
 have HL:Hid _:=hlite;clear hlite hz hz2
 go_enter Tryz.func66,Tryz.ntmps66
 go_wp2_with fail;refine (Calls.mono HL.out ?_);rintro e w' ⟨rfl,rfl⟩;go_wp2_with fail;go_ret;exact ⟨rfl,rfl⟩
theorem jF (B rb:Nat)(r:Rs)(p:List UInt8)(w:World)(h:Rd B rb r w)(_hs:r.rest.length≤1099511627776) :
 Calls Tryz.prog 124 #[.pointer (some ⟨rb,0,none⟩),.string (qa p)] w fun e w'=>e=.returned (.bool (r.ahead p))∧w'=w:=by
 have c0:=h.c0;have c1:=h.c1;have HP:Hid _:=JI r.rest p w;have HA:Hid (r.ahead p=(!r.wrong&&p.isPrefixOf r.rest)):=rfl;clear h;cases hw:r.wrong with
 | true =>
   rw[hw]at c1
   have HF:Hid (r.ahead p=false):=by show _=_;rw[HA.out,hw];rfl
   go_enter Tryz.func124,Tryz.ntmps124
   go_wp2_with fail;go_ret;exact ⟨by rw[HF.out];rfl,rfl⟩
 | false =>
   rw[hw]at c1
   have HF:Hid (r.ahead p=p.isPrefixOf r.rest):=by show _=_;rw[HA.out,hw];rfl
   go_enter Tryz.func124,Tryz.ntmps124
   go_wp2_with fail;refine (Calls.mono HP.out ?_);rintro e w' ⟨rfl,rfl⟩;go_wp2_with fail;go_ret;exact ⟨by rw[HF.out];rfl,rfl⟩
theorem Jg {p l:List UInt8}(h:p.isPrefixOf l=true):p.length≤l.length:=by
 rw[QI]at h;simp at h;exact h.1
theorem xW (B rb:Nat)(r:Rs)(p:List UInt8)(w:World)(h:Rd B rb r w)(hs:r.rest.length≤1099511627776) :
 Calls Tryz.prog 178 #[.pointer (some ⟨rb,0,none⟩),.string (qa p)] w fun e w'=>e=.returned (.bool (r.ahead p))∧Rd B rb (r.take p) w'∧RFr B rb w w':=by
 have c0:=h.c0;have f0:=h.f0;have HR:Hid (Rd B rb r w):=h;have HA:Hid _:=jF B rb r p w h hs;have hz:=qe r.rest;have hz2:=qe p;clear h;obtain ⟨q,hq⟩:∃ q,r.ahead p=q:=⟨_,rfl⟩;rw[hq]at HA ⊢
 cases q with
 | false =>
   have HT:Hid (r.take p=r):=by show _=_;simp[Rs.take,hq]
   clear hq
   go_enter Tryz.func178,Tryz.ntmps178
   go_wp2_with fail;refine (Calls.mono HA.out ?_);rintro e w' ⟨rfl,rfl⟩;go_wp2_with fail;go_ret;exact ⟨rfl,by rw[HT.out];exact HR.out,RFr.refl _ _ _⟩
 | true =>
   have HT:Hid (r.take p=⟨r.rest.drop p.length,r.wrong⟩):=by show _=_;simp[Rs.take,hq]
   have hpl:p.length≤r.rest.length:=Jg (by unfold Rs.ahead at hq;simp only[Bool.and_eq_true]at hq;exact hq.2)
   have HD:Hid ((qa r.rest).extract p.length r.rest.length=qa (r.rest.drop p.length)):=by show _=_;rw[←x8,qe]
   clear hq
   go_enter Tryz.func178,Tryz.ntmps178
   go_wp2_with fail;refine (Calls.mono HA.out ?_);rintro e w' ⟨rfl,rfl⟩;go_wp2_with fail;go_ret;refine ⟨rfl,?_,?_⟩
   · rw[HT.out];have:=HR.out.put0 (r.rest.drop p.length);rw[←HD.out]at this
     exact this
   · exact RFr.put HR.out.base _ _
theorem xf (B rb:Nat)(r:Rs)(p:List UInt8)(w:World)(h:Rd B rb r w)(hs:r.rest.length≤1099511627776) :
 Calls Tryz.prog 169 #[.pointer (some ⟨rb,0,none⟩),.string (qa p)] w fun e w'=>e=.returned (.tuple #[])∧Rd B rb (r.must p) w'∧RFr B rb w w':=by
 have HA:Hid _:=xW B rb r p w h hs
 have HM:Hid (r.must p=if r.ahead p then r.take p else ⟨r.rest,true⟩):=by
  show _=_;unfold Rs.must Rs.take;split<;>simp_all
 have HT:Hid (r.ahead p=false→r.take p=r):=by intro e;simp[Rs.take,e]
 have hB:=h.base;clear h;obtain ⟨q,hq⟩:∃ q,r.ahead p=q:=⟨_,rfl⟩;rw[hq]at HA HM HT
 clear hq;cases q with
 | true =>
   go_enter Tryz.func169,Tryz.ntmps169
   go_wp2_with fail;refine (Calls.mono HA.out ?_);rintro e w' ⟨rfl,h1,h2⟩;go_wp2_with fail
   go_returns
   exact ⟨rfl,by rw[HM.out];exact h1,h2⟩
 | false =>
   have HTT:Hid (r.take p=r):=HT.out rfl;clear HT
   go_enter Tryz.func169,Tryz.ntmps169
   go_wp2_with fail;refine (Calls.mono HA.out ?_);rintro e w' ⟨rfl,h1,h2⟩;rw[HTT.out]at h1
   have c1:=h1.c1;have f1:=h1.f1;have HR:Hid _:=h1;clear h1;go_wp2_with fail
   go_returns
   exact ⟨rfl,by rw[HM.out];exact HR.out.put1,h2.trans (RFr.put hB _ _)⟩
theorem Jl (B rb:Nat)(r:Rs)(w:World)(h:Rd B rb r w)(hBw:B≤w.heap.size) :
 Calls Tryz.prog 177 #[.pointer (some ⟨rb,0,none⟩)] w fun e w'=>e=.returned (.tuple #[])∧Rd B rb r.skip w'∧RFr B rb w w':=by
 have hcon:=Any.strings_TrimLeft_laid Tryz.lays161 (by kernel_rfl) (qa r.rest) ⟨#[32,10]⟩ w (by decide) (ascii_of_all (by decide))
 have HC:Hid (Calls Tryz.prog 104 #[.string (qa r.rest),.string ⟨#[32,10]⟩] w fun e w'=>e=.returned (.string (qa (r.rest.dropWhile qo)))∧Below w.heap.size w w'):=hcon
 have c0:=h.c0;have HR:Hid (Rd B rb r w):=h;clear hcon h
 go_enter Tryz.func177,Tryz.ntmps177
 go_wp2_with fail;refine (Calls.mono HC.out ?_);rintro e w1 ⟨rfl,hb1⟩;have HR1:Hid (Rd B rb r w1):=HR.out.later hb1;have d0:=HR1.out.c0;have f0:=HR1.out.f0;go_wp2_with fail
 go_returns
 exact ⟨rfl,HR1.out.put0 _,(RFr.later hBw hb1).trans (RFr.put HR.out.base _ _)⟩
end
end Go.Proofs.YtfplhcicbbhljaaGreatDoor
/-
  DERIVED: LAID BY THE SHELF's lay-shelf.mjs AT THE DUMP 'toys/ytfplhcicbbhljaagreatdoor/ytfplhcicbbhljaagreatdoor.cut.gsa' (alias 'Tryz'): THE LIBRARY CONTRACTS THAT ARE PROVED ONCE, OVER ANY PROGRAM AND ANY NUMBERING, AS THEOREMS OF THIS PROGRAM: WITHOUT A WALK: 'shelf_lay' reads the table of numbers off the bodies and has the kernel compare each body; then each contract is ONE APPLICATION. EACH COMMAND STANDS UNDER 'shelf_try': one that errs is rolled back and told in the build's print ('SHELF: NOT LAID: <name>: ..'); THE MODULE's LAST ROW OF PRINT COUNTS THEM ('SHELF: n LAID, m NOT LAID'): READ IT: a contract that is not laid is not there to be used.
-/
namespace Go.Proofs
open Go.Shelf
shelf_try shelf_lay Lays.n106 Nm 106 at Tryz as Tryz.lays106
shelf_try open Go.RowKit in
theorem Tryz.strings_Compare (a b:ByteArray)(w:World) :
 Calls Tryz.prog 176 #[.string a,.string b] w fun e w'=>e=.returned (.int .i64 (Lib.compareBytes a.data.toList b.data.toList))∧w'=w:=Any.strings_Compare Tryz.lays106 a b w
shelf_try #print axioms Tryz.strings_Compare
shelf_tried
end Go.Proofs
namespace Go.Proofs.YtfplhcicbbhljaaGreatDoor
open Go.ChangeShapes Go.WideShapes Go.ChangeAt Go.RowKit
set_option maxRecDepth 100000
def abc:List UInt8:=[97,98,99,100,101,102,103,104,105,106,107,108,109,110,111,112,113,114,115,116,117,118,119,120,121,122]
theorem abc_letter:∀ n:Fin 256,abc.contains (UInt8.ofNat n.val)=qg (UInt8.ofNat n.val):=by decide
theorem Zo (c:UInt8):abc.contains c=qg c:=by
 have h:=abc_letter ⟨c.toNat,c.toNat_lt⟩
 simpa using h
theorem zx {p:UInt8→Bool}(l:List UInt8):l.dropWhile p=[]↔l.all p=true:=by
 induction l with
 | nil=>simp
 | cons x r ih =>
   rw[List.dropWhile_cons]
   by_cases h:p x=true
   · rw[if_pos h,ih];simp[h]
   · rw[if_neg h];simp[h]
theorem Xz (l:List UInt8):Lib.trimS l abc=[]↔l.all qg=true:=by
 unfold Lib.trimS Lib.trimLeftS;have he:(fun x=>abc.contains x)=qg:=funext Zo
 rw[he,zx];unfold Lib.trimRightS;rw[he]
 constructor
 · intro h;rw[List.all_reverse]at h
   have h2:l.reverse.dropWhile qg=[]:=by
    cases hd:l.reverse.dropWhile qg with
    | nil=>rfl
    | cons x r =>
      have h3:=List.head_dropWhile_not (l:=l.reverse) qg (by rw[hd];simp)
      simp only[hd,List.head_cons]at h3
      rw[hd]at h
      simp[h3]at h
   rw[zx,List.all_reverse]at h2
   exact h2
 · intro h;have h2:l.reverse.dropWhile qg=[]:=by rw[zx,List.all_reverse];exact h
   rw[h2];rfl
theorem j7 (s:ByteArray)(w:World)(hs:s.size≤maxLen) :
 Calls Tryz.prog 62 #[.string s] w fun e w'=>e=.returned (.bool (qM s))∧Below w.heap.size w w':=by
 have hcon:=Any.strings_Trim_laid Tryz.lays160 (by kernel_rfl) s ⟨#[97,98,99,100,101,102,103,104,105,106,107,108,109,110,111,112,113,114,115,116,117,118,119,120,121,122]⟩ w (by unfold maxLen at hs;omega) (by decide) (ascii_of_all (by decide))
 unfold maxLen at hs
 have HC:Hid (Calls Tryz.prog 97 #[.string s,.string ⟨#[97,98,99,100,101,102,103,104,105,106,107,108,109,110,111,112,113,114,115,116,117,118,119,120,121,122]⟩] w fun e w'=>e=.returned (.string ⟨(Lib.trimS s.data.toList abc).toArray⟩)∧Below w.heap.size w w'):=hcon
 clear hcon
 by_cases h1:s=⟨#[]⟩
 · subst h1
   go_enter Tryz.func62,Tryz.ntmps62
   go_wp2;go_ret;exact ⟨rfl,Below.refl _ _⟩
 have hne:s.size≠0:=by
  intro h
  apply h1
  cases s with|mk d=>simp[ByteArray.size]at h;subst h;rfl
 have hie:s.toList.isEmpty=false:=by
  rw[ByteArray.toList_eq]
  cases s with|mk d=>cases d with|mk l=>cases l with
   | nil=>exact absurd rfl h1
   | cons=>rfl
 clear h1
 by_cases h8:8<s.size
 · go_enter Tryz.func62, Tryz.ntmps62
   go_wp2;go_ret;exact ⟨by simp[qM];omega,Below.refl _ _⟩
 · have h8' : s.size ≤ 8 := by omega
   clear h8
   go_enter Tryz.func62,Tryz.ntmps62
   go_wp2_with fail;refine (HC.out).mono ?_;rintro e W' ⟨rfl,hb⟩;have HB:Hid (Below w.heap.size w W'):=hb;clear hb
   have HT:Hid ((⟨(Lib.trimS s.data.toList abc).toArray⟩:ByteArray).toList.isEmpty=s.data.toList.all qg):=by
    show _=_
    rw[ByteArray.toList_eq]
    show (Lib.trimS s.data.toList abc).isEmpty=_
    cases ha:s.data.toList.all qg with
    | true=>rw[(Xz _).2 ha];rfl
    | false =>
      cases ht:Lib.trimS s.data.toList abc with
      | nil=>rw[(Xz _).1 ht]at ha;cases ha
      | cons=>rfl
   generalize (⟨(Lib.trimS s.data.toList abc).toArray⟩:ByteArray)=r at HT ⊢
   cases hr:r.toList.isEmpty with
   | true =>
     have HX:Hid (s.data.toList.all qg=true):=by have:=HT.out;rw[hr]at this;exact this.symm
     clear HT;go_wp2;go_ret;exact ⟨by simp[qM,HX.out];omega,HB⟩
   | false =>
     have HX:Hid (s.data.toList.all qg=false):=by have:=HT.out;rw[hr]at this;exact this.symm
     clear HT;go_wp2;go_ret;exact ⟨by simp[qM,HX.out],HB⟩
end Go.Proofs.YtfplhcicbbhljaaGreatDoor
/-
  DERIVED: LAID BY THE SHELF's lay-shelf.mjs AT THE DUMP 'toys/ytfplhcicbbhljaagreatdoor/ytfplhcicbbhljaagreatdoor.cut.gsa' (alias 'Tryz'): THE LIBRARY CONTRACTS THAT ARE PROVED ONCE, OVER ANY PROGRAM AND ANY NUMBERING, AS THEOREMS OF THIS PROGRAM: WITHOUT A WALK: 'shelf_lay' reads the table of numbers off the bodies and has the kernel compare each body; then each contract is ONE APPLICATION. EACH COMMAND STANDS UNDER 'shelf_try': one that errs is rolled back and told in the build's print ('SHELF: NOT LAID: <name>: ..'); THE MODULE's LAST ROW OF PRINT COUNTS THEM ('SHELF: n LAID, m NOT LAID'): READ IT: a contract that is not laid is not there to be used.
-/
namespace Go.Proofs
open Go.Shelf
shelf_try shelf_lay Lays.n137 Nm 137 at Tryz as Tryz.lays137
shelf_try open Go.RowKit in
theorem Tryz.strings_IndexByte (s:ByteArray)(c:Int)(w:World) :
 Calls Tryz.prog 17 #[.string s,.int .u8 c] w fun e w'=>e=.returned (.int .i64 (Lib.indexByte s.data.toList c.toNat.toUInt8))∧w'=w:=Any.strings_IndexByte Tryz.lays137 s c w
shelf_try #print axioms Tryz.strings_IndexByte
shelf_tried
end Go.Proofs
namespace Go.Proofs.YtfplhcicbbhljaaGreatDoor
open Go.ChangeShapes Go.WideShapes Go.ChangeAt Go.RowKit
set_option maxRecDepth 100000
section
attribute [local go_sem] qd
theorem VD (c:Int)(w:World) :
 Calls Tryz.prog 41 #[.int .i64 c] w fun e w'=>e=.returned (.agg #[.int .i64 c,.int .i64 0,.string ⟨#[]⟩])∧Below w.heap.size w w':=by
 go_enter Tryz.func41,Tryz.ntmps41
 go_wp2_with fail;refine bodyPost_ret (v:=.agg #[.int .i64 c,.int .i64 0,.string ⟨#[]⟩]) (by simp[results,Tryz.results41,go_sem]) rfl ⟨rfl,Below.alloc1 _ _⟩
end
end Go.Proofs.YtfplhcicbbhljaaGreatDoor
