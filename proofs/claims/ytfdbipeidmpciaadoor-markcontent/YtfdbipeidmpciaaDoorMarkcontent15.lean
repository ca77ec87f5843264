/- Bundled: CloneL ReadN ReadW. What each says stands ahead of it. -/
import Derived.Shelf.Strconv.Clone
import Derived.Test.YtfdbipeidmpciaaDoorMarkcontent14
/-
  DERIVED: THE SHELF's CONTRACTS AT THIS DUMP, IN PLAIN WORDS (tools/lay-plain.mjs out of 'YtfdbipeidmpciaaDoorCloneL.lean', which tools/lay-shelf.mjs wrote): THE SAME DECLARATIONS UNDER THE SAME NAMES: 'import', 'namespace', 'open', 'def', 'theorem' AND NOTHING ELSE: no command of the shelf's: FOR A HAND-IN. Each laying: the table of numbers ('.._ren') and one theorem, a field a fact of the dump's own or the kernel's comparison; each contract: ONE APPLICATION.
-/
namespace Go.Proofs
open Go.Shelf
def Tryd.laysM316_ren:Go.Shelf.Ren:=⟨fun|316=>166|n=>n,fun|9=>9|3=>3|4=>4|37=>66|0=>0|127=>140|5=>5|n=>n,fun|n=>n⟩
theorem Tryd.laysM316:Go.Proofs.LaysM.n316 Tryd.prog Tryd.laysM316_ren:={
 mixed:=by kernel_rfl
 f316:=Tryd.func166.trans (congrArg some (by kernel_rfl))
 t0:=Tryd.underlying0
 a0:=Tryd.isAgg0
 z0:=Tryd.sizeOf0
 v0:=Tryd.zeroValue0
 t3:=Tryd.underlying3
 a3:=Tryd.isAgg3
 z3:=Tryd.sizeOf3
 v3:=Tryd.zeroValue3
 t4:=Tryd.underlying4
 a4:=Tryd.isAgg4
 z4:=Tryd.sizeOf4
 v4:=Tryd.zeroValue4
 t9:=Tryd.underlying9
 a9:=Tryd.isAgg9
 z9:=Tryd.sizeOf9
 v9:=Tryd.zeroValue9
 t37:=Tryd.underlying66
 a37:=Tryd.isAgg66
 z37:=Tryd.sizeOf66
 v37:=Tryd.zeroValue66
 t127:=Tryd.underlying140
 a127:=Tryd.isAgg140
 z127:=Tryd.sizeOf140
 v127:=Tryd.zeroValue140
 t5:=Tryd.underlying5
 a5:=Tryd.isAgg5
 z5:=Tryd.sizeOf5
 v5:=Tryd.zeroValue5
 i0:=by kernel_rfl
 i3:=by kernel_rfl
 i4:=by kernel_rfl
 i5:=by kernel_rfl
 i9:=by kernel_rfl
 i37:=by kernel_rfl
 i127:=by kernel_rfl }
open Go.RowKit in
/-- internal/stringslite.Clone (what strings.Clone calls): "Clone returns a fresh copy of s.": THE SAME BYTES. Of what was there nothing has turned (a new row is laid, and frozen, where s is not empty). (LAID: no walk: one application.) -/
theorem Tryd.stringslite_Clone (s:ByteArray)(w:World)(hlim:s.size≤281474976710656) :
 Calls Tryd.prog 166 #[.string s] w fun e w'=>e=.returned (.string s)∧Below w.heap.size w w':=Any.stringslite_Clone Tryd.laysM316 s w hlim
end Go.Proofs
namespace Go.Proofs.YtfdbipeidmpciaaDoor
open Go.ChangeShapes Go.WideShapes Go.ChangeAt Go.RowKit
set_option maxRecDepth 100000
section
attribute [local go_sem] qg
theorem jM (c:UInt8)(w:World) :
 Calls Tryd.prog 148 #[.int .u8 (c.toNat:Int)] w fun e w'=>e=.returned (.bool (ql c))∧w'=w:=by
 by_cases h1:(97:Int)≤(c.toNat:Int)
 · by_cases h2 : (c.toNat : Int) ≤ 122
   · have HE : Hid (ql c = true) := by show _ = _;simp only[ql, Bool.and_eq_true, decide_eq_true_eq];omega
     go_enter Tryd.func148,Tryd.ntmps148
     go_wp2;go_ret;exact ⟨by rw[HE.out];rfl,rfl⟩
   · have HE : Hid (ql c = false) := by show _ = _;simp only[ql, Bool.and_eq_false_iff, decide_eq_false_iff_not];omega
     go_enter Tryd.func148,Tryd.ntmps148
     go_wp2;go_ret;exact ⟨by rw[HE.out];rfl,rfl⟩
 · have HE : Hid (ql c = false) := by show _ = _;simp only[ql, Bool.and_eq_false_iff, decide_eq_false_iff_not];omega
   go_enter Tryd.func148,Tryd.ntmps148
   go_wp2;go_ret;exact ⟨by rw[HE.out];rfl,rfl⟩
theorem Yk (s:ByteArray)(w:World)(hs:s.size≤281474976710656) :
 Calls Tryd.prog 149 #[.string s] w fun e w'=>e=.returned (.string s)∧Below w.heap.size w w':=by
 have HC:Hid (Calls Tryd.prog 166 #[.string s] w fun e w'=>e=.returned (.string s)∧Below w.heap.size w w'):=Tryd.stringslite_Clone s w hs
 go_enter Tryd.func149,Tryd.ntmps149
 go_wp2_with fail;refine (Calls.mono HC.out ?_);rintro e w' ⟨rfl,hb⟩;go_wp2_with fail;go_ret;exact ⟨rfl,hb⟩
theorem XG {p:UInt8→Bool}:∀ (l:List UInt8) (k:Nat),(l.take k).all p=true→(∀ c,l[k]?=some c→p c=false)→k≤l.length→l.takeWhile p=l.take k∧l.dropWhile p=l.drop k:=by
 intro l
 induction l with
 | nil=>intro k _ _ hk;simp
 | cons c r ih =>
   intro k h1 h2 hk;cases k with
   | zero =>
     have:=h2 c rfl;simp[this]
   | succ k =>
     simp only[List.take_succ_cons,List.all_cons,Bool.and_eq_true]at h1
     obtain ⟨e1,e2⟩:=ih k h1.2 (fun d hd=>h2 d (by simpa using hd)) (by simpa using hk)
     simp[h1.1,e1,e2]
end
section
attribute [local go_sem] qg
theorem ZA (l:List UInt8)(k:Nat)(_h:k<(bytesOf l).size)(_h':k<l.length):(bytesOf l)[k]=l[k]:=rfl
theorem ZR (B rb:Nat)(r:Rs)(w:World)(h:Rd B rb r w)(hBw:B≤w.heap.size)(hs:r.rest.length≤1099511627776) :
 Calls Tryd.prog 122 #[.pointer (some ⟨rb,0,none⟩)] w fun e w'=>e=.returned (.string (bytesOf r.nameOf))∧Rd B rb r.name w'∧RFr B rb w w':=by
 have c0:=h.c0;have HR:Hid (Rd B rb r w):=h;have hz:=qk r.rest;clear h
 go_enter Tryd.func122,Tryd.ntmps122
 go_wp2_with fail
 go_loopg [3] r.rest.length (fun g i wr=>∃ k:Nat,k+g=r.rest.length∧i=.int .i64 k∧wr=w∧(r.rest.take k).all ql=true)
 case atStart => exact ⟨0,by omega,rfl,rfl,by simp⟩
 case round =>
  obtain ⟨k,hk,rfl,hw,hall⟩:=hrel;subst hw;have HA:Hid ((r.rest.take k).all ql=true):=hall;clear hall
  have HEND:Hid ((∀ c,r.rest[k]?=some c→ql c=false)→r.nameOf=r.rest.take k∧r.name=⟨r.rest.drop k,r.wrong⟩):=by
   intro hc;obtain ⟨e1,e2⟩:=XG r.rest k HA.out hc (by omega)
   exact ⟨e1,by simp[Rs.name,e2]⟩
  have HTK:Hid ((bytesOf r.rest).extract 0 k=bytesOf (r.rest.take k)):=zG r.rest k;have HDR:Hid ((bytesOf r.rest).extract k r.rest.length=bytesOf (r.rest.drop k)):=by show _=_;rw[←zF,qk]
  have HCL:Hid (Calls Tryd.prog 149 #[.string ((bytesOf r.rest).extract 0 k)] wr fun e w'=>e=.returned (.string ((bytesOf r.rest).extract 0 k))∧Below wr.heap.size wr w'):=Yk _ wr (by rw[zG,qk,List.length_take];omega)
  by_cases hlt:k<r.rest.length
  · have HL : Hid _ := jM (bytesOf r.rest)[k] wr;have hki:(k:Int)<(r.rest.length:Int):=by omega
    obtain ⟨q,hq⟩:∃ q,ql (bytesOf r.rest)[k]=q:=⟨_,rfl⟩;rw[hq]at HL
    rw[ZA r.rest k (by omega) hlt]at hq
    cases q with
    | true =>
      have HN:Hid ((r.rest.take (k+1)).all ql=true):=by
       show _=_;rw[List.take_succ_eq_append_getElem hlt,List.all_append,HA.out];simp[hq]
      clear hq HEND;go_wp2_with fail;refine (Calls.mono HL.out ?_);rintro e w' ⟨rfl,rfl⟩;go_wp2_with fail
      go_roundg (r.rest.length-(k+1))
      case measure => omega
      case rel => exact ⟨k+1,by omega,by go_num,rfl,HN.out⟩
    | false =>
      have HE2:Hid (r.nameOf=r.rest.take k∧r.name=⟨r.rest.drop k,r.wrong⟩):=HEND.out (by intro c hc;rw[List.getElem?_eq_getElem hlt]at hc;cases hc;exact hq)
      clear hq HEND;go_wp2_with fail;refine (Calls.mono HL.out ?_);rintro e w' ⟨rfl,rfl⟩;go_wp2_with fail;refine (Calls.mono HCL.out ?_);rintro e w2 ⟨rfl,hb2⟩;have HR2:Hid _:=HR.out.later hb2;have d0:=HR2.out.c0;have f0:=HR2.out.f0;go_wp2_with fail;go_ret;refine ⟨by rw[HE2.out.1,←HTK.out];rfl,?_,(RFr.later hBw hb2).trans (RFr.put HR.out.base _ _)⟩
      rw[HE2.out.2];have:=HR2.out.put0 (r.rest.drop k);rw[←HDR.out]at this
      exact this
  · have hkk : k = r.rest.length := by omega
    have HE2:Hid (r.nameOf=r.rest.take k∧r.name=⟨r.rest.drop k,r.wrong⟩):=HEND.out (by intro c hc;rw[List.getElem?_eq_none (by omega)]at hc;cases hc)
    have hki:¬ (k:Int)<(r.rest.length:Int):=by omega
    clear HEND hkk;go_wp2_with fail;refine (Calls.mono HCL.out ?_);rintro e w2 ⟨rfl,hb2⟩;have HR2:Hid _:=HR.out.later hb2;have d0:=HR2.out.c0;have f0:=HR2.out.f0;go_wp2_with fail;go_ret;refine ⟨by rw[HE2.out.1,←HTK.out];rfl,?_,(RFr.later hBw hb2).trans (RFr.put HR.out.base _ _)⟩
    rw[HE2.out.2];have:=HR2.out.put0 (r.rest.drop k);rw[←HDR.out]at this
    exact this
end
end Go.Proofs.YtfdbipeidmpciaaDoor
