/- Bundled: Reader CompL NilK. What each says stands ahead of it. -/
import Derived.Test.YtchkbffgancidaaGreatDoorBundle03
import Derived.Test.YtchkbffgancidaaGreatDoorBundle04
import Derived.Shelf.Strings.SlTrimAscii
namespace Go.Proofs.YtchkbffgancidaaGreatDoor
open Go.ChangeShapes Go.WideShapes Go.ChangeAt Go.RowKit
set_option maxRecDepth 100000
section
attribute [local go_sem] qd
def qc (l:List UInt8):ByteArray:=⟨l.toArray⟩
theorem ql (l:List UInt8):(qc l).size=l.length:=by simp[qc,ByteArray.size]
theorem xA (l:List UInt8):(qc l).data.toList=l:=rfl
theorem yM (l:List UInt8):(qc l).toList=l:=by rw[ByteArray.toList_eq];rfl
theorem Ym (s:ByteArray):qc s.data.toList=s:=rfl
theorem xB (l:List UInt8)(k:Nat):(qc l).extract k (qc l).size=qc (l.drop k):=by
 apply ByteArray.ext
 apply Array.ext'
 rw[Lib.extract_data];simp only[xA,ql];exact List.take_of_length_le (by simp)
theorem xC (l:List UInt8)(k:Nat):(qc l).extract 0 k=qc (l.take k):=by
 apply ByteArray.ext
 apply Array.ext'
 rw[Lib.extract_data];simp[qc]
structure Rd (B rb:Nat) (r:Rs) (w:World):Prop where
 base:B≤rb
 held:w.heap[rb]?=some (.cells #[.string (qc r.rest),.bool r.wrong] 90 (0,0))
structure RFr (B rb:Nat) (w w':World):Prop where
 below:Below B w w'
 frame:∀ x,x<w.heap.size→x≠rb→w'.heap[x]?=w.heap[x]?
theorem Rd.lt {B rb:Nat}{r:Rs}{w:World}(h:Rd B rb r w):rb<w.heap.size:=by
 rcases Nat.lt_or_ge rb w.heap.size with h'|h'
 · exact h'
 · have:=h.held;simp[Array.getElem?_eq_none h']at this
theorem Rd.c0 {B rb:Nat}{r:Rs}{w:World}(h:Rd B rb r w):w.cell? ⟨rb,0,none⟩=some (.string (qc r.rest)):=by rw[Lib.cell_of_heap h.held];rfl
theorem Rd.c1 {B rb:Nat}{r:Rs}{w:World}(h:Rd B rb r w):w.cell? ⟨rb,1,none⟩=some (.bool r.wrong):=by rw[Lib.cell_of_heap h.held];rfl
theorem Rd.f0 {B rb:Nat}{r:Rs}{w:World}(h:Rd B rb r w):w.frozen? ⟨rb,0,none⟩=false:=Lib.frozen_of_heap h.held 0
theorem Rd.f1 {B rb:Nat}{r:Rs}{w:World}(h:Rd B rb r w):w.frozen? ⟨rb,1,none⟩=false:=Lib.frozen_of_heap h.held 1
theorem Rd.later {B rb:Nat}{r:Rs}{w w':World}(h:Rd B rb r w)(hb:Below w.heap.size w w'):Rd B rb r w':=⟨h.base,by rw[hb.block rb h.lt];exact h.held⟩
theorem Rd.put0 {B rb:Nat}{r:Rs}{w:World}(h:Rd B rb r w)(l:List UInt8):Rd B rb ⟨l,r.wrong⟩ (w.setCell ⟨rb,0,none⟩ (.string (qc l))):=⟨h.base,by simp[World.setCell,Array.getElem?_modify,h.held]⟩
theorem Rd.put1 {B rb:Nat}{r:Rs}{w:World}(h:Rd B rb r w):Rd B rb ⟨r.rest,true⟩ (w.setCell ⟨rb,1,none⟩ (.bool true)):=⟨h.base,by simp[World.setCell,Array.getElem?_modify,h.held]⟩
theorem RFr.refl (B rb:Nat)(w:World):RFr B rb w w:=⟨Below.refl _ _,fun _ _ _=>rfl⟩
theorem RFr.trans {B rb:Nat}{w w1 w2:World}(h:RFr B rb w w1)(k:RFr B rb w1 w2):RFr B rb w w2 :=
 ⟨h.below.trans k.below,fun x hx h1=>by rw[k.frame x (Nat.lt_of_lt_of_le hx h.below.size) h1,h.frame x hx h1]⟩
theorem RFr.later {B rb:Nat}{w w':World}(hB:B≤w.heap.size)(h:Below w.heap.size w w'):RFr B rb w w':=⟨h.mono hB,fun x hx _=>h.block x hx⟩
theorem RFr.put {B rb:Nat}{w:World}(hB:B≤rb)(k:Nat)(v:Value):RFr B rb w (w.setCell ⟨rb,k,none⟩ v):=⟨(Below.refl B w).setCell hB _,fun _ _ h1=>Below.heap_setCell _ _ _ _ h1⟩
theorem Qg (p l:List UInt8):p.isPrefixOf l=(decide (p.length≤l.length)&&(l.take p.length==p)):=by
 induction p generalizing l with
 | nil=>simp
 | cons c p ih =>
   cases l with
   | nil=>simp
   | cons d l =>
     rw[List.isPrefixOf,ih]
     by_cases h:c=d
     · subst h;simp
     · have h1 : (c == d) = false := by simpa using h
       have h2:(d==c)=false:=by simpa using fun e=>h e.symm
       simp[h1,h2]
theorem Je (s p:List UInt8)(w:World) :
 Calls Tryz.prog 83 #[.string (qc s),.string (qc p)] w fun e w'=>e=.returned (.bool (p.isPrefixOf s))∧w'=w:=by
 have hz:=ql s;have hz2:=ql p
 have hlite:Calls Tryz.prog 128 #[.string (qc s),.string (qc p)] w fun e w'=>e=.returned (.bool (p.isPrefixOf s))∧w'=w:=by
  by_cases hp:p.length≤s.length
  · have HE:Hid (p.isPrefixOf s=(((qc s).extract 0 (qc p).size).toList==(qc p).toList)):=by
     show _=_
     rw[Qg,ql,xC,yM,yM];simp[hp]
    go_enter Tryz.func128,Tryz.ntmps128
    go_wp2;go_ret;exact ⟨by rw[HE.out];rfl,rfl⟩
  · have HE : Hid (p.isPrefixOf s = false) := by show _ = _;rw[Qg];simp[hp]
    go_enter Tryz.func128,Tryz.ntmps128
    go_wp2;go_ret;exact ⟨by rw[HE.out];rfl,rfl⟩
 have HL:Hid _:=hlite;clear hlite hz hz2
 go_enter Tryz.func83,Tryz.ntmps83
 go_wp2_with fail;refine (Calls.mono HL.out ?_);rintro e w' ⟨rfl,rfl⟩;go_wp2_with fail;go_ret;exact ⟨rfl,rfl⟩
theorem jd (B rb:Nat)(r:Rs)(p:List UInt8)(w:World)(h:Rd B rb r w)(_hs:r.rest.length≤1099511627776) :
 Calls Tryz.prog 51 #[.pointer (some ⟨rb,0,none⟩),.string (qc p)] w fun e w'=>e=.returned (.bool (r.ahead p))∧w'=w:=by
 have c0:=h.c0;have c1:=h.c1;have HP:Hid _:=Je r.rest p w;have HA:Hid (r.ahead p=(!r.wrong&&p.isPrefixOf r.rest)):=rfl;clear h;cases hw:r.wrong with
 | true =>
   rw[hw]at c1
   have HF:Hid (r.ahead p=false):=by show _=_;rw[HA.out,hw];rfl
   go_enter Tryz.func51,Tryz.ntmps51
   go_wp2_with fail;go_ret;exact ⟨by rw[HF.out];rfl,rfl⟩
 | false =>
   rw[hw]at c1
   have HF:Hid (r.ahead p=p.isPrefixOf r.rest):=by show _=_;rw[HA.out,hw];rfl
   go_enter Tryz.func51,Tryz.ntmps51
   go_wp2_with fail;refine (Calls.mono HP.out ?_);rintro e w' ⟨rfl,rfl⟩;go_wp2_with fail;go_ret;exact ⟨by rw[HF.out];rfl,rfl⟩
theorem YU {p l:List UInt8}(h:p.isPrefixOf l=true):p.length≤l.length:=by
 rw[Qg]at h;simp at h;exact h.1
theorem xv (B rb:Nat)(r:Rs)(p:List UInt8)(w:World)(h:Rd B rb r w)(hs:r.rest.length≤1099511627776) :
 Calls Tryz.prog 93 #[.pointer (some ⟨rb,0,none⟩),.string (qc p)] w fun e w'=>e=.returned (.bool (r.ahead p))∧Rd B rb (r.take p) w'∧RFr B rb w w':=by
 have c0:=h.c0;have f0:=h.f0;have HR:Hid (Rd B rb r w):=h;have HA:Hid _:=jd B rb r p w h hs;have hz:=ql r.rest;have hz2:=ql p;clear h;obtain ⟨q,hq⟩:∃ q,r.ahead p=q:=⟨_,rfl⟩;rw[hq]at HA ⊢
 cases q with
 | false =>
   have HT:Hid (r.take p=r):=by show _=_;simp[Rs.take,hq]
   clear hq
   go_enter Tryz.func93,Tryz.ntmps93
   go_wp2_with fail;refine (Calls.mono HA.out ?_);rintro e w' ⟨rfl,rfl⟩;go_wp2_with fail;go_ret;exact ⟨rfl,by rw[HT.out];exact HR.out,RFr.refl _ _ _⟩
 | true =>
   have HT:Hid (r.take p=⟨r.rest.drop p.length,r.wrong⟩):=by show _=_;simp[Rs.take,hq]
   have hpl:p.length≤r.rest.length:=YU (by unfold Rs.ahead at hq;simp only[Bool.and_eq_true]at hq;exact hq.2)
   have HD:Hid ((qc r.rest).extract p.length r.rest.length=qc (r.rest.drop p.length)):=by show _=_;rw[←xB,ql]
   clear hq
   go_enter Tryz.func93,Tryz.ntmps93
   go_wp2_with fail;refine (Calls.mono HA.out ?_);rintro e w' ⟨rfl,rfl⟩;go_wp2_with fail;go_ret;refine ⟨rfl,?_,?_⟩
   · rw[HT.out];have:=HR.out.put0 (r.rest.drop p.length);rw[←HD.out]at this
     exact this
   · exact RFr.put HR.out.base _ _
theorem jN (B rb:Nat)(r:Rs)(p:List UInt8)(w:World)(h:Rd B rb r w)(hs:r.rest.length≤1099511627776) :
 Calls Tryz.prog 84 #[.pointer (some ⟨rb,0,none⟩),.string (qc p)] w fun e w'=>e=.returned (.tuple #[])∧Rd B rb (r.must p) w'∧RFr B rb w w':=by
 have HA:Hid _:=xv B rb r p w h hs
 have HM:Hid (r.must p=if r.ahead p then r.take p else ⟨r.rest,true⟩):=by
  show _=_;unfold Rs.must Rs.take;split<;>simp_all
 have HT:Hid (r.ahead p=false→r.take p=r):=by intro e;simp[Rs.take,e]
 have hB:=h.base;clear h;obtain ⟨q,hq⟩:∃ q,r.ahead p=q:=⟨_,rfl⟩;rw[hq]at HA HM HT
 clear hq;cases q with
 | true =>
   go_enter Tryz.func84,Tryz.ntmps84
   go_wp2_with fail;refine (Calls.mono HA.out ?_);rintro e w' ⟨rfl,h1,h2⟩;go_wp2_with fail
   go_returns
   exact ⟨rfl,by rw[HM.out];exact h1,h2⟩
 | false =>
   have HTT:Hid (r.take p=r):=HT.out rfl;clear HT
   go_enter Tryz.func84,Tryz.ntmps84
   go_wp2_with fail;refine (Calls.mono HA.out ?_);rintro e w' ⟨rfl,h1,h2⟩;rw[HTT.out]at h1
   have c1:=h1.c1;have f1:=h1.f1;have HR:Hid _:=h1;clear h1;go_wp2_with fail
   go_returns
   exact ⟨rfl,by rw[HM.out];exact HR.out.put1,h2.trans (RFr.put hB _ _)⟩
theorem YY (B rb:Nat)(r:Rs)(w:World)(h:Rd B rb r w)(hBw:B≤w.heap.size) :
 Calls Tryz.prog 92 #[.pointer (some ⟨rb,0,none⟩)] w fun e w'=>e=.returned (.tuple #[])∧Rd B rb r.skip w'∧RFr B rb w w':=by
 have hcon:=Any.strings_TrimLeft_laid Tryz.lays161 (by kernel_rfl) (qc r.rest) ⟨#[32,10]⟩ w (by decide) (ascii_of_all (by decide))
 have HC:Hid (Calls Tryz.prog 130 #[.string (qc r.rest),.string ⟨#[32,10]⟩] w fun e w'=>e=.returned (.string (qc (r.rest.dropWhile jP)))∧Below w.heap.size w w'):=hcon
 have c0:=h.c0;have HR:Hid (Rd B rb r w):=h;clear hcon h
 go_enter Tryz.func92,Tryz.ntmps92
 go_wp2_with fail;refine (Calls.mono HC.out ?_);rintro e w1 ⟨rfl,hb1⟩;have HR1:Hid (Rd B rb r w1):=HR.out.later hb1;have d0:=HR1.out.c0;have f0:=HR1.out.f0;go_wp2_with fail
 go_returns
 exact ⟨rfl,HR1.out.put0 _,(RFr.later hBw hb1).trans (RFr.put HR.out.base _ _)⟩
end
end Go.Proofs.YtchkbffgancidaaGreatDoor
/-
  DERIVED: THE SHELF's CONTRACTS AT THIS DUMP, IN PLAIN WORDS (tools/lay-plain.mjs out of 'YtchkbffgancidaaGreatDoorCompL.lean', which tools/lay-shelf.mjs wrote): THE SAME DECLARATIONS UNDER THE SAME NAMES: 'import', 'namespace', 'open', 'def', 'theorem' AND NOTHING ELSE: no command of the shelf's: FOR A HAND-IN. Each laying: the table of numbers ('.._ren') and one theorem, a field a fact of the dump's own or the kernel's comparison; each contract: ONE APPLICATION.
-/
namespace Go.Proofs
open Go.Shelf
def Tryz.lays106_ren:Go.Shelf.Ren:=⟨fun|106=>91|213=>133|265=>168|n=>n,fun|9=>9|3=>3|n=>n,fun|n=>n⟩
theorem Tryz.lays106:Go.Proofs.Lays.n106 Tryz.prog Tryz.lays106_ren:={
 mixed:=by kernel_rfl
 f106:=Tryz.func91.trans (congrArg some (by kernel_rfl))
 f213:=Tryz.func133.trans (congrArg some (by kernel_rfl))
 f265:=Tryz.func168.trans (congrArg some (by kernel_rfl))
 t3:=Tryz.underlying3
 a3:=Tryz.isAgg3
 z3:=Tryz.sizeOf3
 v3:=Tryz.zeroValue3
 t9:=Tryz.underlying9
 a9:=Tryz.isAgg9
 z9:=Tryz.sizeOf9
 v9:=Tryz.zeroValue9 }
open Go.RowKit in
/-- strings.Compare: "Compare returns an integer comparing two strings lexicographically. The result will be 0 if a == b, -1 if a < b, and +1 if a > b.": IT RETURNS 'Lib.compareBytes a b'; the world is as it was. (LAID: no walk: one application.) -/
theorem Tryz.strings_Compare (a b:ByteArray)(w:World) :
 Calls Tryz.prog 91 #[.string a,.string b] w fun e w'=>e=.returned (.int .i64 (Lib.compareBytes a.data.toList b.data.toList))∧w'=w:=Any.strings_Compare Tryz.lays106 a b w
end Go.Proofs
namespace Go.Proofs.YtchkbffgancidaaGreatDoor
open Go.ChangeShapes Go.WideShapes Go.ChangeAt Go.RowKit
set_option maxRecDepth 100000
section
attribute [local go_sem] qd
theorem zM (c:Int)(w:World) :
 Calls Tryz.prog 12 #[.int .i64 c] w fun e w'=>e=.returned (.agg #[.int .i64 c,.int .i64 0,.string ⟨#[]⟩])∧Below w.heap.size w w':=by
 go_enter Tryz.func12,Tryz.ntmps12
 go_wp2_with fail;refine bodyPost_ret (v:=.agg #[.int .i64 c,.int .i64 0,.string ⟨#[]⟩]) (by simp[results,Tryz.results12,go_sem]) rfl ⟨rfl,Below.alloc1 _ _⟩
end
end Go.Proofs.YtchkbffgancidaaGreatDoor
