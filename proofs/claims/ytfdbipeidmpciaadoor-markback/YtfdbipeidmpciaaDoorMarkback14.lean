/- Bundled: TrimL Reader CompL. What each says stands ahead of it. -/
import Derived.Test.YtfdbipeidmpciaaDoorMarkback13
import Derived.Shelf.Strings.SlTrimAscii
/-
  DERIVED: THE SHELF's CONTRACTS AT THIS DUMP, IN PLAIN WORDS (tools/lay-plain.mjs out of 'YtfdbipeidmpciaaDoorTrimL.lean', which tools/lay-shelf.mjs wrote): THE SAME DECLARATIONS UNDER THE SAME NAMES: 'import', 'namespace', 'open', 'def', 'theorem' AND NOTHING ELSE: no command of the shelf's: FOR A HAND-IN. Each laying: the table of numbers ('.._ren') and one theorem, a field a fact of the dump's own or the kernel's comparison; each contract: ONE APPLICATION.
-/
namespace Go.Proofs
open Go.Shelf
def Tryd.lays161_ren:Go.Shelf.Ren:=⟨fun|161=>150|231=>84|227=>86|233=>87|235=>89|228=>109|197=>110|151=>111|260=>141|152=>142|137=>146|119=>162|224=>163|225=>164|217=>165|266=>186|n=>n,fun|9=>9|4=>4|3=>3|5=>5|117=>124|116=>123|0=>0|124=>127|105=>147|21=>21|119=>180|46=>176|139=>183|138=>182|n=>n,fun|3=>1|4=>2|n=>n⟩
theorem Tryd.lays161:Go.Proofs.Lays.n161 Tryd.prog Tryd.lays161_ren:={
 mixed:=by kernel_rfl
 f119:=Tryd.func162.trans (congrArg some (by kernel_rfl))
 f137:=Tryd.func146.trans (congrArg some (by kernel_rfl))
 f151:=Tryd.func111.trans (congrArg some (by kernel_rfl))
 f152:=Tryd.func142.trans (congrArg some (by kernel_rfl))
 f161:=Tryd.func150.trans (congrArg some (by kernel_rfl))
 f197:=Tryd.func110.trans (congrArg some (by kernel_rfl))
 f217:=Tryd.func165.trans (congrArg some (by kernel_rfl))
 f224:=Tryd.func163.trans (congrArg some (by kernel_rfl))
 f225:=Tryd.func164.trans (congrArg some (by kernel_rfl))
 f227:=Tryd.func86.trans (congrArg some (by kernel_rfl))
 f228:=Tryd.func109.trans (congrArg some (by kernel_rfl))
 f231:=Tryd.func84.trans (congrArg some (by kernel_rfl))
 f233:=Tryd.func87.trans (congrArg some (by kernel_rfl))
 f235:=Tryd.func89.trans (congrArg some (by kernel_rfl))
 f260:=Tryd.func141.trans (congrArg some (by kernel_rfl))
 f266:=Tryd.func186.trans (congrArg some (by kernel_rfl))
 t0:=Tryd.underlying0
 a0:=Tryd.isAgg0
 z0:=Tryd.sizeOf0
 v0:=Tryd.zeroValue0
 t3:=Tryd.underlying3
 a3:=Tryd.isAgg3
 z3:=Tryd.sizeOf3
 v3:=Tryd.zeroValue3
 t4:=Tryd.underlying4
 a4:=Tryd.isAgg4
 z4:=Tryd.sizeOf4
 v4:=Tryd.zeroValue4
 t5:=Tryd.underlying5
 a5:=Tryd.isAgg5
 z5:=Tryd.sizeOf5
 v5:=Tryd.zeroValue5
 t9:=Tryd.underlying9
 a9:=Tryd.isAgg9
 z9:=Tryd.sizeOf9
 v9:=Tryd.zeroValue9
 t21:=Tryd.underlying21
 a21:=Tryd.isAgg21
 z21:=Tryd.sizeOf21
 v21:=Tryd.zeroValue21
 t46:=Tryd.underlying176
 a46:=Tryd.isAgg176
 z46:=Tryd.sizeOf176
 v46:=Tryd.zeroValue176
 t105:=Tryd.underlying147
 a105:=Tryd.isAgg147
 z105:=Tryd.sizeOf147
 v105:=Tryd.zeroValue147
 t116:=Tryd.underlying123
 a116:=Tryd.isAgg123
 z116:=Tryd.sizeOf123
 t117:=Tryd.underlying124
 a117:=Tryd.isAgg124
 z117:=Tryd.sizeOf124
 v117:=Tryd.zeroValue124
 t119:=Tryd.underlying180
 a119:=Tryd.isAgg180
 z119:=Tryd.sizeOf180
 t124:=Tryd.underlying127
 a124:=Tryd.isAgg127
 z124:=Tryd.sizeOf127
 v124:=Tryd.zeroValue127
 t138:=Tryd.underlying182
 a138:=Tryd.isAgg182
 z138:=Tryd.sizeOf182
 v138:=Tryd.zeroValue182
 t139:=Tryd.underlying183
 a139:=Tryd.isAgg183
 z139:=Tryd.sizeOf183
 v139:=Tryd.zeroValue183
 g3:=by kernel_rfl
 g4:=by kernel_rfl }
end Go.Proofs
namespace Go.Proofs.YtfdbipeidmpciaaDoor
open Go.ChangeShapes Go.WideShapes Go.ChangeAt Go.RowKit
set_option maxRecDepth 100000
section
attribute [local go_sem] qg
def bytesOf (l:List UInt8):ByteArray:=⟨l.toArray⟩
theorem qk (l:List UInt8):(bytesOf l).size=l.length:=by simp[bytesOf,ByteArray.size]
theorem jH (l:List UInt8):(bytesOf l).data.toList=l:=rfl
theorem zO (l:List UInt8):(bytesOf l).toList=l:=by rw[ByteArray.toList_eq];rfl
theorem zN (s:ByteArray):bytesOf s.data.toList=s:=rfl
theorem zF (l:List UInt8)(k:Nat):(bytesOf l).extract k (bytesOf l).size=bytesOf (l.drop k):=by
 apply ByteArray.ext
 apply Array.ext'
 rw[Lib.extract_data];simp only[jH,qk];exact List.take_of_length_le (by simp)
theorem zG (l:List UInt8)(k:Nat):(bytesOf l).extract 0 k=bytesOf (l.take k):=by
 apply ByteArray.ext
 apply Array.ext'
 rw[Lib.extract_data];simp[bytesOf]
structure Rd (B rb:Nat) (r:Rs) (w:World):Prop where
 base:B≤rb
 held:w.heap[rb]?=some (.cells #[.string (bytesOf r.rest),.bool r.wrong] 78 (0,0))
structure RFr (B rb:Nat) (w w':World):Prop where
 below:Below B w w'
 frame:∀ x,x<w.heap.size→x≠rb→w'.heap[x]?=w.heap[x]?
theorem Rd.lt {B rb:Nat}{r:Rs}{w:World}(h:Rd B rb r w):rb<w.heap.size:=by
 rcases Nat.lt_or_ge rb w.heap.size with h'|h'
 · exact h'
 · have:=h.held;simp[Array.getElem?_eq_none h']at this
theorem Rd.c0 {B rb:Nat}{r:Rs}{w:World}(h:Rd B rb r w):w.cell? ⟨rb,0,none⟩=some (.string (bytesOf r.rest)):=by rw[Lib.cell_of_heap h.held];rfl
theorem Rd.c1 {B rb:Nat}{r:Rs}{w:World}(h:Rd B rb r w):w.cell? ⟨rb,1,none⟩=some (.bool r.wrong):=by rw[Lib.cell_of_heap h.held];rfl
theorem Rd.f0 {B rb:Nat}{r:Rs}{w:World}(h:Rd B rb r w):w.frozen? ⟨rb,0,none⟩=false:=Lib.frozen_of_heap h.held 0
theorem Rd.f1 {B rb:Nat}{r:Rs}{w:World}(h:Rd B rb r w):w.frozen? ⟨rb,1,none⟩=false:=Lib.frozen_of_heap h.held 1
theorem Rd.later {B rb:Nat}{r:Rs}{w w':World}(h:Rd B rb r w)(hb:Below w.heap.size w w'):Rd B rb r w':=⟨h.base,by rw[hb.block rb h.lt];exact h.held⟩
theorem Rd.put0 {B rb:Nat}{r:Rs}{w:World}(h:Rd B rb r w)(l:List UInt8):Rd B rb ⟨l,r.wrong⟩ (w.setCell ⟨rb,0,none⟩ (.string (bytesOf l))):=⟨h.base,by simp[World.setCell,Array.getElem?_modify,h.held]⟩
theorem Rd.put1 {B rb:Nat}{r:Rs}{w:World}(h:Rd B rb r w):Rd B rb ⟨r.rest,true⟩ (w.setCell ⟨rb,1,none⟩ (.bool true)):=⟨h.base,by simp[World.setCell,Array.getElem?_modify,h.held]⟩
theorem RFr.refl (B rb:Nat)(w:World):RFr B rb w w:=⟨Below.refl _ _,fun _ _ _=>rfl⟩
theorem RFr.trans {B rb:Nat}{w w1 w2:World}(h:RFr B rb w w1)(k:RFr B rb w1 w2):RFr B rb w w2 :=
 ⟨h.below.trans k.below,fun x hx h1=>by rw[k.frame x (Nat.lt_of_lt_of_le hx h.below.size) h1,h.frame x hx h1]⟩
theorem RFr.later {B rb:Nat}{w w':World}(hB:B≤w.heap.size)(h:Below w.heap.size w w'):RFr B rb w w':=⟨h.mono hB,fun x hx _=>h.block x hx⟩
theorem RFr.put {B rb:Nat}{w:World}(hB:B≤rb)(k:Nat)(v:Value):RFr B rb w (w.setCell ⟨rb,k,none⟩ v):=⟨(Below.refl B w).setCell hB _,fun _ _ h1=>Below.heap_setCell _ _ _ _ h1⟩
theorem yX (p l:List UInt8):p.isPrefixOf l=(decide (p.length≤l.length)&&(l.take p.length==p)):=by
 induction p generalizing l with
 | nil=>simp
 | cons c p ih =>
   cases l with
   | nil=>simp
   | cons d l =>
     rw[List.isPrefixOf,ih]
     by_cases h:c=d
     · subst h;simp
     · have h1 : (c == d) = false := by simpa using h
       have h2:(d==c)=false:=by simpa using fun e=>h e.symm
       simp[h1,h2]
theorem Qj (s p:List UInt8)(w:World) :
 Calls Tryd.prog 120 #[.string (bytesOf s),.string (bytesOf p)] w fun e w'=>e=.returned (.bool (p.isPrefixOf s))∧w'=w:=by
 have hz:=qk s;have hz2:=qk p
 have hlite:Calls Tryd.prog 133 #[.string (bytesOf s),.string (bytesOf p)] w fun e w'=>e=.returned (.bool (p.isPrefixOf s))∧w'=w:=by
  by_cases hp:p.length≤s.length
  · have HE:Hid (p.isPrefixOf s=(((bytesOf s).extract 0 (bytesOf p).size).toList==(bytesOf p).toList)):=by
     show _=_
     rw[yX,qk,zG,zO,zO];simp[hp]
    go_enter Tryd.func133,Tryd.ntmps133
    go_wp2;go_ret;exact ⟨by rw[HE.out];rfl,rfl⟩
  · have HE : Hid (p.isPrefixOf s = false) := by show _ = _;rw[yX];simp[hp]
    go_enter Tryd.func133,Tryd.ntmps133
    go_wp2;go_ret;exact ⟨by rw[HE.out];rfl,rfl⟩
 have HL:Hid _:=hlite;clear hlite hz hz2
 go_enter Tryd.func120,Tryd.ntmps120
 go_wp2_with fail;refine (Calls.mono HL.out ?_);rintro e w' ⟨rfl,rfl⟩;go_wp2_with fail;go_ret;exact ⟨rfl,rfl⟩
theorem zx (B rb:Nat)(r:Rs)(p:List UInt8)(w:World)(h:Rd B rb r w)(_hs:r.rest.length≤1099511627776) :
 Calls Tryd.prog 97 #[.pointer (some ⟨rb,0,none⟩),.string (bytesOf p)] w fun e w'=>e=.returned (.bool (r.ahead p))∧w'=w:=by
 have c0:=h.c0;have c1:=h.c1;have HP:Hid _:=Qj r.rest p w;have HA:Hid (r.ahead p=(!r.wrong&&p.isPrefixOf r.rest)):=rfl;clear h;cases hw:r.wrong with
 | true =>
   rw[hw]at c1
   have HF:Hid (r.ahead p=false):=by show _=_;rw[HA.out,hw];rfl
   go_enter Tryd.func97,Tryd.ntmps97
   go_wp2_with fail;go_ret;exact ⟨by rw[HF.out];rfl,rfl⟩
 | false =>
   rw[hw]at c1
   have HF:Hid (r.ahead p=p.isPrefixOf r.rest):=by show _=_;rw[HA.out,hw];rfl
   go_enter Tryd.func97,Tryd.ntmps97
   go_wp2_with fail;refine (Calls.mono HP.out ?_);rintro e w' ⟨rfl,rfl⟩;go_wp2_with fail;go_ret;exact ⟨by rw[HF.out];rfl,rfl⟩
theorem xX {p l:List UInt8}(h:p.isPrefixOf l=true):p.length≤l.length:=by
 rw[yX]at h;simp at h;exact h.1
theorem yt (B rb:Nat)(r:Rs)(p:List UInt8)(w:World)(h:Rd B rb r w)(hs:r.rest.length≤1099511627776) :
 Calls Tryd.prog 130 #[.pointer (some ⟨rb,0,none⟩),.string (bytesOf p)] w fun e w'=>e=.returned (.bool (r.ahead p))∧Rd B rb (r.take p) w'∧RFr B rb w w':=by
 have c0:=h.c0;have f0:=h.f0;have HR:Hid (Rd B rb r w):=h;have HA:Hid _:=zx B rb r p w h hs;have hz:=qk r.rest;have hz2:=qk p;clear h;obtain ⟨q,hq⟩:∃ q,r.ahead p=q:=⟨_,rfl⟩;rw[hq]at HA ⊢
 cases q with
 | false =>
   have HT:Hid (r.take p=r):=by show _=_;simp[Rs.take,hq]
   clear hq
   go_enter Tryd.func130,Tryd.ntmps130
   go_wp2_with fail;refine (Calls.mono HA.out ?_);rintro e w' ⟨rfl,rfl⟩;go_wp2_with fail;go_ret;exact ⟨rfl,by rw[HT.out];exact HR.out,RFr.refl _ _ _⟩
 | true =>
   have HT:Hid (r.take p=⟨r.rest.drop p.length,r.wrong⟩):=by show _=_;simp[Rs.take,hq]
   have hpl:p.length≤r.rest.length:=xX (by unfold Rs.ahead at hq;simp only[Bool.and_eq_true]at hq;exact hq.2)
   have HD:Hid ((bytesOf r.rest).extract p.length r.rest.length=bytesOf (r.rest.drop p.length)):=by show _=_;rw[←zF,qk]
   clear hq
   go_enter Tryd.func130,Tryd.ntmps130
   go_wp2_with fail;refine (Calls.mono HA.out ?_);rintro e w' ⟨rfl,rfl⟩;go_wp2_with fail;go_ret;refine ⟨rfl,?_,?_⟩
   · rw[HT.out];have:=HR.out.put0 (r.rest.drop p.length);rw[←HD.out]at this
     exact this
   · exact RFr.put HR.out.base _ _
theorem zT (B rb:Nat)(r:Rs)(p:List UInt8)(w:World)(h:Rd B rb r w)(hs:r.rest.length≤1099511627776) :
 Calls Tryd.prog 121 #[.pointer (some ⟨rb,0,none⟩),.string (bytesOf p)] w fun e w'=>e=.returned (.tuple #[])∧Rd B rb (r.must p) w'∧RFr B rb w w':=by
 have HA:Hid _:=yt B rb r p w h hs
 have HM:Hid (r.must p=if r.ahead p then r.take p else ⟨r.rest,true⟩):=by
  show _=_;unfold Rs.must Rs.take;split<;>simp_all
 have HT:Hid (r.ahead p=false→r.take p=r):=by intro e;simp[Rs.take,e]
 have hB:=h.base;clear h;obtain ⟨q,hq⟩:∃ q,r.ahead p=q:=⟨_,rfl⟩;rw[hq]at HA HM HT
 clear hq;cases q with
 | true =>
   go_enter Tryd.func121,Tryd.ntmps121
   go_wp2_with fail;refine (Calls.mono HA.out ?_);rintro e w' ⟨rfl,h1,h2⟩;go_wp2_with fail
   go_returns
   exact ⟨rfl,by rw[HM.out];exact h1,h2⟩
 | false =>
   have HTT:Hid (r.take p=r):=HT.out rfl;clear HT
   go_enter Tryd.func121,Tryd.ntmps121
   go_wp2_with fail;refine (Calls.mono HA.out ?_);rintro e w' ⟨rfl,h1,h2⟩;rw[HTT.out]at h1
   have c1:=h1.c1;have f1:=h1.f1;have HR:Hid _:=h1;clear h1;go_wp2_with fail
   go_returns
   exact ⟨rfl,by rw[HM.out];exact HR.out.put1,h2.trans (RFr.put hB _ _)⟩
theorem x5 (B rb:Nat)(r:Rs)(w:World)(h:Rd B rb r w)(hBw:B≤w.heap.size) :
 Calls Tryd.prog 129 #[.pointer (some ⟨rb,0,none⟩)] w fun e w'=>e=.returned (.tuple #[])∧Rd B rb r.skip w'∧RFr B rb w w':=by
 have hcon:=Any.strings_TrimLeft_laid Tryd.lays161 (by kernel_rfl) (bytesOf r.rest) ⟨#[32,10]⟩ w (by decide) (ascii_of_all (by decide))
 have HC:Hid (Calls Tryd.prog 150 #[.string (bytesOf r.rest),.string ⟨#[32,10]⟩] w fun e w'=>e=.returned (.string (bytesOf (r.rest.dropWhile zg)))∧Below w.heap.size w w'):=hcon
 have c0:=h.c0;have HR:Hid (Rd B rb r w):=h;clear hcon h
 go_enter Tryd.func129,Tryd.ntmps129
 go_wp2_with fail;refine (Calls.mono HC.out ?_);rintro e w1 ⟨rfl,hb1⟩;have HR1:Hid (Rd B rb r w1):=HR.out.later hb1;have d0:=HR1.out.c0;have f0:=HR1.out.f0;go_wp2_with fail
 go_returns
 exact ⟨rfl,HR1.out.put0 _,(RFr.later hBw hb1).trans (RFr.put HR.out.base _ _)⟩
end
end Go.Proofs.YtfdbipeidmpciaaDoor
/-
  DERIVED: THE SHELF's CONTRACTS AT THIS DUMP, IN PLAIN WORDS (tools/lay-plain.mjs out of 'YtfdbipeidmpciaaDoorCompL.lean', which tools/lay-shelf.mjs wrote): THE SAME DECLARATIONS UNDER THE SAME NAMES: 'import', 'namespace', 'open', 'def', 'theorem' AND NOTHING ELSE: no command of the shelf's: FOR A HAND-IN. Each laying: the table of numbers ('.._ren') and one theorem, a field a fact of the dump's own or the kernel's comparison; each contract: ONE APPLICATION.
-/
namespace Go.Proofs
open Go.Shelf
def Tryd.lays106_ren:Go.Shelf.Ren:=⟨fun|106=>128|213=>153|265=>177|n=>n,fun|9=>9|3=>3|n=>n,fun|n=>n⟩
theorem Tryd.lays106:Go.Proofs.Lays.n106 Tryd.prog Tryd.lays106_ren:={
 mixed:=by kernel_rfl
 f106:=Tryd.func128.trans (congrArg some (by kernel_rfl))
 f213:=Tryd.func153.trans (congrArg some (by kernel_rfl))
 f265:=Tryd.func177.trans (congrArg some (by kernel_rfl))
 t3:=Tryd.underlying3
 a3:=Tryd.isAgg3
 z3:=Tryd.sizeOf3
 v3:=Tryd.zeroValue3
 t9:=Tryd.underlying9
 a9:=Tryd.isAgg9
 z9:=Tryd.sizeOf9
 v9:=Tryd.zeroValue9 }
open Go.RowKit in
/-- strings.Compare: "Compare returns an integer comparing two strings lexicographically. The result will be 0 if a == b, -1 if a < b, and +1 if a > b.": IT RETURNS 'Lib.compareBytes a b'; the world is as it was. (LAID: no walk: one application.) -/
theorem Tryd.strings_Compare (a b:ByteArray)(w:World) :
 Calls Tryd.prog 128 #[.string a,.string b] w fun e w'=>e=.returned (.int .i64 (Lib.compareBytes a.data.toList b.data.toList))∧w'=w:=Any.strings_Compare Tryd.lays106 a b w
end Go.Proofs
