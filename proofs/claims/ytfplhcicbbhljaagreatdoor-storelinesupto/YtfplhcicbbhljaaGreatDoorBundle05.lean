/- Bundled: CloneL ReadN ReadW. What each says stands ahead of it. -/
import Derived.Shelf.Strconv.Clone
import Derived.Test.YtfplhcicbbhljaaGreatDoorBundle04
/-
  DERIVED: LAID BY THE SHELF's lay-shelf.mjs AT THE DUMP 'toys/ytfplhcicbbhljaagreatdoor/ytfplhcicbbhljaagreatdoor.cut.gsa' (alias 'Tryz'): THE LIBRARY CONTRACTS THAT ARE PROVED ONCE, OVER ANY PROGRAM AND ANY NUMBERING, AS THEOREMS OF THIS PROGRAM: WITHOUT A WALK: 'shelf_lay' reads the table of numbers off the bodies and has the kernel compare each body; then each contract is ONE APPLICATION. EACH COMMAND STANDS UNDER 'shelf_try': one that errs is rolled back and told in the build's print ('SHELF: NOT LAID: <name>: ..'); THE MODULE's LAST ROW OF PRINT COUNTS THEM ('SHELF: n LAID, m NOT LAID'): READ IT: a contract that is not laid is not there to be used.
-/
namespace Go.Proofs
open Go.Shelf
shelf_try shelf_lay LaysM.n316 Nm 316 at Tryz as Tryz.laysM316
shelf_try open Go.RowKit in
theorem Tryz.stringslite_Clone (s:ByteArray)(w:World)(hlim:s.size≤281474976710656) :
 Calls Tryz.prog 58 #[.string s] w fun e w'=>e=.returned (.string s)∧Below w.heap.size w w':=Any.stringslite_Clone Tryz.laysM316 s w hlim
shelf_try #print axioms Tryz.stringslite_Clone
shelf_tried
end Go.Proofs
namespace Go.Proofs.YtfplhcicbbhljaaGreatDoor
open Go.ChangeShapes Go.WideShapes Go.ChangeAt Go.RowKit
set_option maxRecDepth 100000
section
attribute [local go_sem] qd
theorem ZA (c:UInt8)(w:World) :
 Calls Tryz.prog 209 #[.int .u8 (c.toNat:Int)] w fun e w'=>e=.returned (.bool (qg c))∧w'=w:=by
 by_cases h1:(97:Int)≤(c.toNat:Int)
 · by_cases h2 : (c.toNat : Int) ≤ 122
   · have HE : Hid (qg c = true) := by show _ = _;simp only[qg, Bool.and_eq_true, decide_eq_true_eq];omega
     go_enter Tryz.func209,Tryz.ntmps209
     go_wp2;go_ret;exact ⟨by rw[HE.out];rfl,rfl⟩
   · have HE : Hid (qg c = false) := by show _ = _;simp only[qg, Bool.and_eq_false_iff, decide_eq_false_iff_not];omega
     go_enter Tryz.func209,Tryz.ntmps209
     go_wp2;go_ret;exact ⟨by rw[HE.out];rfl,rfl⟩
 · have HE : Hid (qg c = false) := by show _ = _;simp only[qg, Bool.and_eq_false_iff, decide_eq_false_iff_not];omega
   go_enter Tryz.func209,Tryz.ntmps209
   go_wp2;go_ret;exact ⟨by rw[HE.out];rfl,rfl⟩
theorem Qa (s:ByteArray)(w:World)(hs:s.size≤281474976710656) :
 Calls Tryz.prog 30 #[.string s] w fun e w'=>e=.returned (.string s)∧Below w.heap.size w w':=by
 have HC:Hid (Calls Tryz.prog 58 #[.string s] w fun e w'=>e=.returned (.string s)∧Below w.heap.size w w'):=Tryz.stringslite_Clone s w hs
 go_enter Tryz.func30,Tryz.ntmps30
 go_wp2_with fail;refine (Calls.mono HC.out ?_);rintro e w' ⟨rfl,hb⟩;go_wp2_with fail;go_ret;exact ⟨rfl,hb⟩
theorem qen {p:UInt8→Bool}:∀ (l:List UInt8)(k:Nat),(l.take k).all p=true→(∀ c,l[k]?=some c→p c=false)→k≤l.length→l.takeWhile p=l.take k∧l.dropWhile p=l.drop k:=by
 intro l
 induction l with
 | nil=>intro k _ _ hk;simp
 | cons c r ih =>
   intro k h1 h2 hk;cases k with
   | zero =>
     have:=h2 c rfl;simp[this]
   | succ k =>
     simp only[List.take_succ_cons,List.all_cons,Bool.and_eq_true]at h1
     obtain ⟨e1,e2⟩:=ih k h1.2 (fun d hd=>h2 d (by simpa using hd)) (by simpa using hk)
     simp[h1.1,e1,e2]
end
section
attribute [local go_sem] qd
theorem KI (l:List UInt8)(k:Nat)(_h:k<(qa l).size)(_h':k<l.length):(qa l)[k]=l[k]:=rfl
theorem Vm (B rb:Nat)(r:Rs)(w:World)(h:Rd B rb r w)(hBw:B≤w.heap.size)(hs:r.rest.length≤1099511627776) :
 Calls Tryz.prog 170 #[.pointer (some ⟨rb,0,none⟩)] w fun e w'=>e=.returned (.string (qa r.nameOf))∧Rd B rb r.name w'∧RFr B rb w w':=by
 have c0:=h.c0;have HR:Hid (Rd B rb r w):=h;have hz:=qe r.rest;clear h
 go_enter Tryz.func170,Tryz.ntmps170
 go_wp2_with fail
 go_loopg [3] r.rest.length (fun g i wr=>∃ k:Nat,k+g=r.rest.length∧i=.int .i64 k∧wr=w∧(r.rest.take k).all qg=true)
 case atStart => exact ⟨0,by omega,rfl,rfl,by simp⟩
 case round =>
  obtain ⟨k,hk,rfl,hw,hall⟩:=hrel;subst hw;have HA:Hid ((r.rest.take k).all qg=true):=hall;clear hall
  have HEND:Hid ((∀ c,r.rest[k]?=some c→qg c=false)→r.nameOf=r.rest.take k∧r.name=⟨r.rest.drop k,r.wrong⟩):=by
   intro hc;obtain ⟨e1,e2⟩:=qen r.rest k HA.out hc (by omega)
   exact ⟨e1,by simp[Rs.name,e2]⟩
  have HTK:Hid ((qa r.rest).extract 0 k=qa (r.rest.take k)):=x9 r.rest k;have HDR:Hid ((qa r.rest).extract k r.rest.length=qa (r.rest.drop k)):=by show _=_;rw[←x8,qe]
  have HCL:Hid (Calls Tryz.prog 30 #[.string ((qa r.rest).extract 0 k)] wr fun e w'=>e=.returned (.string ((qa r.rest).extract 0 k))∧Below wr.heap.size wr w'):=Qa _ wr (by rw[x9,qe,List.length_take];omega)
  by_cases hlt:k<r.rest.length
  · have HL : Hid _ := ZA (qa r.rest)[k] wr;have hki:(k:Int)<(r.rest.length:Int):=by omega
    obtain ⟨q,hq⟩:∃ q,qg (qa r.rest)[k]=q:=⟨_,rfl⟩;rw[hq]at HL
    rw[KI r.rest k (by omega) hlt]at hq
    cases q with
    | true =>
      have HN:Hid ((r.rest.take (k+1)).all qg=true):=by
       show _=_;rw[List.take_succ_eq_append_getElem hlt,List.all_append,HA.out];simp[hq]
      clear hq HEND;go_wp2_with fail;refine (Calls.mono HL.out ?_);rintro e w' ⟨rfl,rfl⟩;go_wp2_with fail
      go_roundg (r.rest.length-(k+1))
      case measure => omega
      case rel => exact ⟨k+1,by omega,by go_num,rfl,HN.out⟩
    | false =>
      have HE2:Hid (r.nameOf=r.rest.take k∧r.name=⟨r.rest.drop k,r.wrong⟩):=HEND.out (by intro c hc;rw[List.getElem?_eq_getElem hlt]at hc;cases hc;exact hq)
      clear hq HEND;go_wp2_with fail;refine (Calls.mono HL.out ?_);rintro e w' ⟨rfl,rfl⟩;go_wp2_with fail;refine (Calls.mono HCL.out ?_);rintro e w2 ⟨rfl,hb2⟩;have HR2:Hid _:=HR.out.later hb2;have d0:=HR2.out.c0;have f0:=HR2.out.f0;go_wp2_with fail;go_ret;refine ⟨by rw[HE2.out.1,←HTK.out];rfl,?_,(RFr.later hBw hb2).trans (RFr.put HR.out.base _ _)⟩
      rw[HE2.out.2];have:=HR2.out.put0 (r.rest.drop k);rw[←HDR.out]at this
      exact this
  · have hkk : k = r.rest.length := by omega
    have HE2:Hid (r.nameOf=r.rest.take k∧r.name=⟨r.rest.drop k,r.wrong⟩):=HEND.out (by intro c hc;rw[List.getElem?_eq_none (by omega)]at hc;cases hc)
    have hki:¬ (k:Int)<(r.rest.length:Int):=by omega
    clear HEND hkk;go_wp2_with fail;refine (Calls.mono HCL.out ?_);rintro e w2 ⟨rfl,hb2⟩;have HR2:Hid _:=HR.out.later hb2;have d0:=HR2.out.c0;have f0:=HR2.out.f0;go_wp2_with fail;go_ret;refine ⟨by rw[HE2.out.1,←HTK.out];rfl,?_,(RFr.later hBw hb2).trans (RFr.put HR.out.base _ _)⟩
    rw[HE2.out.2];have:=HR2.out.put0 (r.rest.drop k);rw[←HDR.out]at this
    exact this
end
end Go.Proofs.YtfplhcicbbhljaaGreatDoor
