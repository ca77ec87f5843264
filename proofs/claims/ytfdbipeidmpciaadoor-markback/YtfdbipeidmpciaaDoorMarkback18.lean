/- Bundled: Sign Meant Attr ReadA. What each says stands ahead of it. -/
import Derived.Test.YtfdbipeidmpciaaDoorMarkback15
import Derived.Test.YtfdbipeidmpciaaDoorMarkback17
import Derived.Test.YtfdbipeidmpciaaDoorFive06
namespace Go.Proofs.YtfdbipeidmpciaaDoor
open Go.ChangeShapes Go.WideShapes Go.ChangeAt Go.RowKit
set_option maxRecDepth 100000
section
attribute [local go_sem] qg
theorem xy (r:Rs)(k:Nat)(m:List UInt8 × UInt8)(hm:marksL[k]?=some m)(hbef:∀ j x,j<k→marksL[j]?=some x→r.ahead x.1=false)(ha:r.ahead m.1=true):r.sign=(m.2,r.take m.1):=by
 have ht:r.take m.1=⟨r.rest.drop m.1.length,r.wrong⟩:=by simp[Rs.take,ha]
 rw[ht];unfold Rs.sign
 match k,hm,hbef with
 | 0,hm,_=>cases hm;simp only[marksL,Rs.signFrom];rw[if_pos ha]
 | 1,hm,hb=>cases hm;have h0:=hb 0 _ (by omega) rfl;simp only[marksL,Rs.signFrom];rw[if_neg (by rw[h0];decide),if_pos ha]
 | 2,hm,hb=>cases hm;have h0:=hb 0 _ (by omega) rfl;have h1:=hb 1 _ (by omega) rfl;simp only[marksL,Rs.signFrom];rw[if_neg (by rw[h0];decide),if_neg (by rw[h1];decide),if_pos ha]
 | 3,hm,hb=>cases hm;have h0:=hb 0 _ (by omega) rfl;have h1:=hb 1 _ (by omega) rfl;have h2:=hb 2 _ (by omega) rfl;simp only[marksL,Rs.signFrom];rw[if_neg (by rw[h0];decide),if_neg (by rw[h1];decide),if_neg (by rw[h2];decide),if_pos ha]
 | k+4,hm,_=>simp[marksL]at hm
theorem YP (r:Rs)(c:UInt8)(l:List UInt8)(hl:r.rest=c::l)(hbef:∀ j x,j<4→marksL[j]?=some x→r.ahead x.1=false):r.sign=if c=38 then (c,⟨r.rest,true⟩) else (c,⟨l,r.wrong⟩):=by
 have h0:=hbef 0 _ (by omega) rfl
 have h1:=hbef 1 _ (by omega) rfl
 have h2:=hbef 2 _ (by omega) rfl
 have h3:=hbef 3 _ (by omega) rfl
 unfold Rs.sign;simp only[marksL,Rs.signFrom];rw[if_neg (by rw[h0];decide),if_neg (by rw[h1];decide),if_neg (by rw[h2];decide),if_neg (by rw[h3];decide),hl]
theorem z2 {r:Rs}{k:Nat}{m:List UInt8 × UInt8}(hm:marksL[k]?=some m)(hbef:∀ j x,j<k→marksL[j]?=some x→r.ahead x.1=false)(ha:r.ahead m.1=false):∀ j x,j<k+1→marksL[j]?=some x→r.ahead x.1=false:=by
 intro j x hj hx
 rcases Nat.lt_or_ge j k with h|h
 · exact hbef j x h hx
 · have : j = k := by omega
   subst this;rw[hm]at hx;cases hx;exact ha
theorem jP {r:Rs}{p:List UInt8}(h:r.ahead p=false):r.take p=r:=by simp[Rs.take,h]
theorem jL (i:Int)(k:Nat)(b:ByteArray)(hi:i=k)(h:(#[Value.string ⟨#[38,108,116,59]⟩,.string ⟨#[38,103,116,59]⟩,.string ⟨#[38,97,109,112,59]⟩,.string ⟨#[38,113,117,111,116,59]⟩]:Array Value)[k]?=some (.string b))(hk:k<4)(w:World) :
 (Instr.index 172 (.agg #[.string ⟨#[38,108,116,59]⟩,.string ⟨#[38,103,116,59]⟩,.string ⟨#[38,97,109,112,59]⟩,.string ⟨#[38,113,117,111,116,59]⟩]) (.int .i64 i)).run Tryd.prog w=.ok (.string b) w:=by
 subst hi;have h1:(0:Int)≤(k:Int):=Int.natCast_nonneg k;have h2:(k:Int)<4:=by omega
 have h3:(k:Int).toNat=k:=Int.toNat_natCast k
 rcases (by omega:k=0∨k=1∨k=2∨k=3) with rfl|rfl|rfl|rfl<;>(cases h;rfl)
set_option maxHeartbeats 1000000 in
theorem Xv (B rb:Nat)(r:Rs)(w:World)(h:Rd B rb r w)(hM:qx w)(hs:r.rest.length≤1099511627776)(hne:r.rest≠[]) :
 Calls Tryd.prog 154 #[.pointer (some ⟨rb,0,none⟩)] w fun e w'=>e=.returned (.int .u8 r.sign.1.toNat)∧Rd B rb r.sign.2 w'∧RFr B rb w w':=by
 obtain ⟨m0,m1,m2,m3⟩:=hM;obtain ⟨c,l,hl⟩:∃ c l,r.rest=c::l:=by cases hr:r.rest with|nil=>exact absurd hr hne|cons c l=>exact ⟨c,l,rfl⟩
 have HL:Hid (r.rest=c::l):=hl;have HR:Hid (Rd B rb r w):=h;have HN:Hid (r.rest.length≤1099511627776):=hs;clear h hne hl hs
 go_enter Tryd.func154,Tryd.ntmps154
 go_wp2_with fail
 go_loopg [7] 4 (fun g i wr=>∃ k:Nat,k+g=4∧i=.int .i64 k∧Rd B rb r wr∧RFr B rb w wr∧(∀ j x,j<k→marksL[j]?=some x→r.ahead x.1=false))
 case atStart => exact ⟨0,rfl,rfl,HR.out,RFr.refl _ _ _,by intro j x hj;omega⟩
 case round =>
  obtain ⟨k,hk,rfl,hRd,hF,hbef⟩:=hrel;have HRd:Hid (Rd B rb r wr):=hRd;have HB:Hid _:=hbef;clear hRd hbef;have hk4:k≤4:=by omega
  rcases (by omega:k=0∨k=1∨k=2∨k=3∨k=4) with rfl|rfl|rfl|rfl|rfl
  · have hix := jL 0 0 ⟨#[38, 108, 116, 59]⟩ rfl rfl (by omega) wr
    have HT:Hid _:=yt B rb r [38,108,116,59] wr HRd.out HN.out;obtain ⟨q,hq⟩:∃ q,r.ahead [38,108,116,59]=q:=⟨_,rfl⟩;rw[hq]at HT
    cases q with
    | true =>
      have HS:Hid (r.sign=(60,r.take [38,108,116,59])):=xy r 0 _ rfl HB.out hq;clear hq HB;go_wp2_with fail;refine (Calls.mono HT.out ?_);rintro e w' ⟨rfl,h1,h2⟩;go_wp2_with fail;go_ret;exact ⟨by rw[HS.out];rfl,by rw[HS.out];exact h1,hF.trans h2⟩
    | false =>
      have HB2:Hid _:=z2 (k:=0) rfl HB.out hq;have HTT:Hid (r.take [38,108,116,59]=r):=jP hq;clear hq HB;go_wp2_with fail;refine (Calls.mono HT.out ?_);rintro e w' ⟨rfl,h1,h2⟩;rw[HTT.out]at h1
      go_wp2_with fail
      go_roundg 3
      case measure => omega
      case rel => exact ⟨1,rfl,by go_num,h1,hF.trans h2,HB2.out⟩
  · have hix := jL 1 1 ⟨#[38, 103, 116, 59]⟩ rfl rfl (by omega) wr
    have HT:Hid _:=yt B rb r [38,103,116,59] wr HRd.out HN.out;obtain ⟨q,hq⟩:∃ q,r.ahead [38,103,116,59]=q:=⟨_,rfl⟩;rw[hq]at HT
    cases q with
    | true =>
      have HS:Hid (r.sign=(62,r.take [38,103,116,59])):=xy r 1 _ rfl HB.out hq;clear hq HB;go_wp2_with fail;refine (Calls.mono HT.out ?_);rintro e w' ⟨rfl,h1,h2⟩;go_wp2_with fail;go_ret;exact ⟨by rw[HS.out];rfl,by rw[HS.out];exact h1,hF.trans h2⟩
    | false =>
      have HB2:Hid _:=z2 (k:=1) rfl HB.out hq;have HTT:Hid (r.take [38,103,116,59]=r):=jP hq;clear hq HB;go_wp2_with fail;refine (Calls.mono HT.out ?_);rintro e w' ⟨rfl,h1,h2⟩;rw[HTT.out]at h1
      go_wp2_with fail
      go_roundg 2
      case measure => omega
      case rel => exact ⟨2,rfl,by go_num,h1,hF.trans h2,HB2.out⟩
  · have hix := jL 2 2 ⟨#[38, 97, 109, 112, 59]⟩ rfl rfl (by omega) wr
    have HT:Hid _:=yt B rb r [38,97,109,112,59] wr HRd.out HN.out;obtain ⟨q,hq⟩:∃ q,r.ahead [38,97,109,112,59]=q:=⟨_,rfl⟩;rw[hq]at HT
    cases q with
    | true =>
      have HS:Hid (r.sign=(38,r.take [38,97,109,112,59])):=xy r 2 _ rfl HB.out hq;clear hq HB;go_wp2_with fail;refine (Calls.mono HT.out ?_);rintro e w' ⟨rfl,h1,h2⟩;go_wp2_with fail;go_ret;exact ⟨by rw[HS.out];rfl,by rw[HS.out];exact h1,hF.trans h2⟩
    | false =>
      have HB2:Hid _:=z2 (k:=2) rfl HB.out hq;have HTT:Hid (r.take [38,97,109,112,59]=r):=jP hq;clear hq HB;go_wp2_with fail;refine (Calls.mono HT.out ?_);rintro e w' ⟨rfl,h1,h2⟩;rw[HTT.out]at h1
      go_wp2_with fail
      go_roundg 1
      case measure => omega
      case rel => exact ⟨3,rfl,by go_num,h1,hF.trans h2,HB2.out⟩
  · have hix := jL 3 3 ⟨#[38, 113, 117, 111, 116, 59]⟩ rfl rfl (by omega) wr
    have HT:Hid _:=yt B rb r [38,113,117,111,116,59] wr HRd.out HN.out;obtain ⟨q,hq⟩:∃ q,r.ahead [38,113,117,111,116,59]=q:=⟨_,rfl⟩;rw[hq]at HT
    cases q with
    | true =>
      have HS:Hid (r.sign=(34,r.take [38,113,117,111,116,59])):=xy r 3 _ rfl HB.out hq;clear hq HB;go_wp2_with fail;refine (Calls.mono HT.out ?_);rintro e w' ⟨rfl,h1,h2⟩;go_wp2_with fail;go_ret;exact ⟨by rw[HS.out];rfl,by rw[HS.out];exact h1,hF.trans h2⟩
    | false =>
      have HB2:Hid _:=z2 (k:=3) rfl HB.out hq;have HTT:Hid (r.take [38,113,117,111,116,59]=r):=jP hq;clear hq HB;go_wp2_with fail;refine (Calls.mono HT.out ?_);rintro e w' ⟨rfl,h1,h2⟩;rw[HTT.out]at h1
      go_wp2_with fail
      go_roundg 0
      case measure => omega
      case rel => exact ⟨4,rfl,by go_num,h1,hF.trans h2,HB2.out⟩
  · have HS : Hid _ := YP r c l HL.out HB.out;have c0:=HRd.out.c0;have f0:=HRd.out.f0;have c1:=HRd.out.c1;have f1:=HRd.out.f1;have hz:0<(bytesOf r.rest).size:=by rw[qk,HL.out];simp
    have hz2:(bytesOf r.rest).size≤1099511627776:=by rw[qk];exact HN.out
    have HG:Hid ((bytesOf r.rest)[0]=c):=by show _=_;simp[bytesOf,HL.out];rfl
    have HD:Hid ((bytesOf r.rest).extract 1 (bytesOf r.rest).size=bytesOf l):=by show _=_;rw[zF,HL.out];rfl
    have hB:=HRd.out.base;clear HB
    by_cases hc:c=38
    · have hci : ((bytesOf r.rest)[0].toNat : Int) = 38 := by rw[HG.out, hc];rfl
      have HS2:Hid (r.sign=(c,⟨r.rest,true⟩)):=by show _=_;rw[HS.out,if_pos hc]
      clear HS;go_wp2_with fail;go_ret;exact ⟨by rw[HS2.out,hc];rfl,by rw[HS2.out];exact HRd.out.put1,hF.trans (RFr.put hB _ _)⟩
    · have hci:¬ ((bytesOf r.rest)[0].toNat:Int)=38:=by
       rw[HG.out];intro e;apply hc;apply UInt8.toNat.inj;show c.toNat=38;omega
      have HS2:Hid (r.sign=(c,⟨l,r.wrong⟩)):=by show _=_;rw[HS.out,if_neg hc]
      clear HS hc;go_wp2_with fail;go_ret;refine ⟨by rw[HS2.out,HG.out];rfl,?_,hF.trans (RFr.put hB _ _)⟩
      rw[HS2.out];have:=HRd.out.put0 l;rw[←HD.out]at this
      exact this
end
section
attribute [local go_sem] qg
theorem jg {r:Rs}{ends:List UInt8}(h:r.goesOn ends=true):r.sign.2.left<r.left:=by
 obtain ⟨h1,h2⟩:=yS h
 rcases j5 r h2 with h3|h3
 · exact Q6 h3 h1
 · unfold Rs.left;rw[h3,h1];simp
theorem Bd.reader {B' b rb:Nat}{bs:List Value}{v:Value}{w w':World}{B:Nat}(h:Bd B' b bs v w)(hF:RFr B rb w w')(hrb:rb<B'):Bd B' b bs v w':=by
 obtain ⟨p,hp,hh⟩:=h.held;have hb:=h.base;refine ⟨h.base,⟨p,hp,by rw[hF.frame b h.lt (by omega)];exact hh⟩,qo h.own (fun x hx=>?_),h.ne⟩
 have:=(h.own.lt x hx).1;exact hF.frame x (h.rowLt x hx) (by omega)
theorem RFr.own {B rb:Nat}{w w1 w2:World}(h:RFr B rb w w1)(k:Below w.heap.size w1 w2)(hB:B≤w.heap.size):RFr B rb w w2 :=
 ⟨h.below.trans (k.mono hB),fun x hx h1=>by rw[k.block x hx,h.frame x hx h1]⟩
theorem Rd.own {B rb B':Nat}{r:Rs}{w w':World}(h:Rd B rb r w)(hb:Below B' w w')(hr:rb<B'):Rd B rb r w':=⟨h.base,by rw[hb.block rb hr];exact h.held⟩
theorem jO (r:Rs):r.left≤r.rest.length+1:=by unfold Rs.left;split<;>omega
theorem yi (s:List UInt8):((bytesOf s).toList==([]:List UInt8))=s.isEmpty:=by
 rw[zO];cases s<;>rfl
set_option maxHeartbeats 1000000 in
theorem QC (ends:List UInt8)(B rb:Nat)(r:Rs)(w:World)(h:Rd B rb r w)(hM:qx w)(hgB:0<B)(hBw:B≤w.heap.size)(hs:r.rest.length≤1099511627776) :
 Calls Tryd.prog 131 #[.pointer (some ⟨rb,0,none⟩),.string (bytesOf ends)] w fun e w'=>e=.returned (.string (bytesOf (r.text ends).1))∧Rd B rb (r.text ends).2 w'∧RFr B rb w w':=by
 have hrb:=h.lt;have HR:Hid (Rd B rb r w):=h;have HM:Hid (qx w):=hM;have HN:Hid (r.rest.length≤1099511627776):=hs;clear h hM hs
 go_enter Tryd.func131,Tryd.ntmps131
 go_wp2_with fail
 go_loopg [] r.left (fun g wr=>∃ (r':Rs) (bs:List UInt8) (bv:Value),r'.left=g∧r.text ends=(bs++(r'.text ends).1,(r'.text ends).2)∧bs.length+r'.left≤r.left∧r'.rest.length≤r.rest.length∧Rd B rb r' wr∧RFr B rb w wr∧Bd w.heap.size w.heap.size (Lib.byteCells bs) bv wr)
 case atStart =>
  have hb0:=Below.alloc1 w (.cells #[.pointer none,.slice none 0 0] 99);refine ⟨r,[],.slice none 0 0,rfl,rfl,by simp,nR9 _,HR.out.later hb0,RFr.later hBw hb0,nR9 _,⟨_,Or.inl rfl,heap_alloc_new _ _⟩,World.ownsRow_nil _ _ _ _,by intro e;cases e⟩
 case round =>
  obtain ⟨r',bs,bv,hg,htx,hlen,hrl,hRd,hF,hBd⟩:=hrel;have HT:Hid (r.text ends=(bs++(r'.text ends).1,(r'.text ends).2)):=htx;have HLE:Hid (bs.length+r'.left≤r.left∧r'.rest.length≤r.rest.length∧r'.left=gk):=⟨hlen,hrl,hg⟩;have HRd:Hid (Rd B rb r' wr):=hRd;have HBd:Hid (Bd w.heap.size w.heap.size (Lib.byteCells bs) bv wr):=hBd;have c0:=hRd.c0;have c1:=hRd.c1;have hsz:=hF.below.size;have hsw:w.heap.size<wr.heap.size:=hBd.lt;clear htx hlen hrl hg hRd hBd
  have HEND:Hid (r'.goesOn ends=false→∀ w2,w2=wr→Calls Tryd.prog 75 #[.pointer (some ⟨w.heap.size,0,none⟩)] w2 fun e w'=>e=.returned (.string (bytesOf (r.text ends).1))∧Rd B rb (r.text ends).2 w'∧RFr B rb w w'):=by
   intro hgo w2 hw2;subst hw2;have:=HT.out;rw[Jf hgo]at this
   rw[this];refine (yM w.heap.size w.heap.size bs w2 HBd.out.is (by omega)).mono ?_
   rintro e w3 ⟨rfl,hb3⟩;exact ⟨by simp only[List.append_nil];rfl,HRd.out.own hb3 hrb,hF.own hb3 hBw⟩
  obtain ⟨q,hq⟩:∃ q,r'.wrong=q:=⟨_,rfl⟩;rw[hq]at c1
  cases q with
  | true =>
    have HE2:Hid _:=HEND.out (yv hq) wr rfl;clear hq HEND;go_wp2_with fail;refine (Calls.mono HE2.out ?_);rintro e w' ⟨rfl,h1,h2⟩;go_wp2_with fail;go_ret;exact ⟨rfl,h1,h2⟩
  | false =>
    cases hr:r'.rest with
    | nil =>
      have HE2:Hid _:=HEND.out (by simp[Rs.goesOn,hr]) wr rfl
      have hem:=yi r'.rest;rw[hr]at hem c0
      simp only[List.isEmpty_nil]at hem
      clear hq HEND hr;go_wp2_with fail;refine (Calls.mono HE2.out ?_);rintro e w' ⟨rfl,h1,h2⟩;go_wp2_with fail;go_ret;exact ⟨rfl,h1,h2⟩
    | cons c l =>
      have hem:=yi r'.rest;rw[hr]at hem
      simp only[List.isEmpty_cons]at hem
      have hz:0<(bytesOf r'.rest).size:=by rw[qk,hr];simp
      have HG:Hid ((bytesOf r'.rest)[0]=c):=by show _=_;simp[bytesOf,hr];rfl
      have HIX:=jj (bytesOf ends) ((bytesOf r'.rest)[0].toNat:Int) wr;rw[Qu,jH]at HIX
      obtain ⟨nx,hnx⟩:∃ nx,Lib.indexByte ends (bytesOf r'.rest)[0]=nx:=⟨_,rfl⟩;have HGO:Hid (r'.goesOn ends=decide (nx<0)):=by show _=_;rw[←hnx,HG.out];simp[Rs.goesOn,hq,hr]
      rw[hnx]at HIX
      have HX:Hid _:=HIX;have HS:Hid _:=fun hne:r'.rest≠[]=>Xv B rb r' wr HRd.out (HM.out.later hF.below hgB) (Nat.le_trans HLE.out.2.1 HN.out) hne
      rw[←hr]at hem
      have HNE:Hid (r'.rest≠[]):=by rw[hr];exact List.cons_ne_nil _ _
      clear HIX hnx hr hq
      by_cases hneg:nx<0
      · have HGT : Hid (r'.goesOn ends = true) := by show _ = _;rw[HGO.out];simp[hneg]
        have HTN:=Zm HGT.out;have HT2:Hid _:=HTN;clear HTN HGO HEND;go_wp2_with fail;refine (Calls.mono HX.out ?_);rintro e w1 ⟨rfl,rfl⟩;go_wp2_with fail;refine (Calls.mono (HS.out HNE.out) ?_);rintro e w1 ⟨rfl,h1,h2⟩;have HBd1:Hid _:=HBd.out.reader h2 hrb;have hsz1:=h2.below.size;have HW:Hid _:=Y6 w.heap.size w.heap.size (Lib.byteCells bs) bv (r'.sign.1.toNat:Int) w1 HBd1.out (by have:=HLE.out.1;have:=jO r;have:=HN.out;rw[Lib.byteCells_length];omega) (by omega)
        go_wp2_with fail;refine (Calls.mono HW.out ?_);rintro e w2 ⟨rfl,bv2,h3,h4⟩;go_wp2_with fail
        go_roundg r'.sign.2.left
        case measure => have:=jg HGT.out;have:=HLE.out.2.2;omega
        case rel =>
         have hsl:=jg HGT.out;refine ⟨r'.sign.2,bs++[r'.sign.1],bv2,rfl,?_,?_,?_,h1.own h4.below hrb,(hF.trans h2).own h4.below hBw,?_⟩
         · rw[HT.out,HT2.out];simp
         · have:=HLE.out.1;simp;omega
         · exact Nat.le_trans (Jd r').1 HLE.out.2.1
         · have e : Lib.byteCells (bs ++ [r'.sign.1]) = Lib.byteCells bs ++ [.int .u8 (r'.sign.1.toNat : Int)] := by rw[Lib.byteCells_append];rfl
           rw[e];exact h3
      · have HE2 : Hid _ := HEND.out (by rw[HGO.out];simp[hneg]) wr rfl
        clear HEND HGO HS;go_wp2_with fail;refine (Calls.mono HX.out ?_);rintro e w1 ⟨rfl,rfl⟩;go_wp2_with fail;refine (Calls.mono HE2.out ?_);rintro e w' ⟨rfl,h1,h2⟩;go_wp2_with fail;go_ret;exact ⟨rfl,h1,h2⟩
end
section
attribute [local go_sem] qg
theorem Zo (s:List UInt8)(w:World) :
 Calls Tryd.prog 150 #[.string (bytesOf s),.string ⟨#[32,10]⟩] w fun e w'=>e=.returned (.string (bytesOf (s.dropWhile zg)))∧Below w.heap.size w w' :=
 Any.strings_TrimLeft_laid Tryd.lays161 (by kernel_rfl) (bytesOf s) ⟨#[32,10]⟩ w (by decide) (ascii_of_all (by decide))
set_option maxHeartbeats 1000000 in
theorem Qa (B rb:Nat)(r:Rs)(w:World)(h:Rd B rb r w)(_hs:r.rest.length≤1099511627776) :
 Calls Tryd.prog 124 #[.pointer (some ⟨rb,0,none⟩)] w fun e w'=>e=.returned (.bool r.attrAhead)∧Below w.heap.size w w':=by
 have c0:=h.c0;have HR:Hid (Rd B rb r w):=h;have HT:Hid _:=Zo r.rest w;have hle:=yu zg r.rest;have HA:Hid (r.attrAhead=(!r.wrong&&decide ((r.rest.dropWhile zg).length<r.rest.length)&&(match r.rest.dropWhile zg with|[]=>false|c::_=>ql c))):=rfl
 have hz:=qk r.rest;have hz2:=qk (r.rest.dropWhile zg);have hem:=yi (r.rest.dropWhile zg);obtain ⟨d,hd⟩:∃ d,r.rest.dropWhile zg=d:=⟨_,rfl⟩;rw[hd]at HT HA hz2 hle hem
 clear h hd
 go_enter Tryd.func124,Tryd.ntmps124
 go_wp2_with fail;refine (Calls.mono HT.out ?_);rintro e w1 ⟨rfl,hb1⟩;have HR1:=HR.out.later hb1;have d0:=HR1.c0;have d1:=HR1.c1;clear HR1;obtain ⟨q,hq⟩:∃ q,r.wrong=q:=⟨_,rfl⟩;rw[hq]at d1 HA
 clear hq;cases q with
 | true =>
   have HF:Hid (r.attrAhead=false):=by show _=_;rw[HA.out];rfl
   clear HA;go_wp2_with fail;go_ret;exact ⟨by rw[HF.out];rfl,hb1⟩
 | false =>
   by_cases hlt:d.length<r.rest.length
   · have hlti : (d.length : Int) < (r.rest.length : Int) := by omega
     cases d with
     | nil =>
       have HF:Hid (r.attrAhead=false):=by show _=_;rw[HA.out];simp
       simp only[List.isEmpty_nil]at hem
       clear HA;go_wp2_with fail;go_ret;exact ⟨by rw[HF.out];rfl,hb1⟩
     | cons c l =>
       have HF:Hid (r.attrAhead=ql c):=by show _=_;rw[HA.out];simp[show l.length+1<r.rest.length from hlt]
       simp only[List.isEmpty_cons]at hem
       have hz3:0<(bytesOf (c::l)).size:=by rw[hz2];simp
       have HL:Hid (Calls Tryd.prog 148 #[.int .u8 ((bytesOf (c::l))[0].toNat:Int)] w1 fun e w'=>e=.returned (.bool (ql c))∧w'=w1):=jM c w1
       clear HA;go_wp2_with fail;refine (Calls.mono HL.out ?_);rintro e w2 ⟨rfl,rfl⟩;go_wp2_with fail;go_ret;exact ⟨by rw[HF.out];rfl,hb1⟩
   · have hlti : ¬ (d.length : Int) < (r.rest.length : Int) := by omega
     have HF:Hid (r.attrAhead=false):=by show _=_;rw[HA.out];simp[hlt]
     clear HA;go_wp2_with fail;go_ret;exact ⟨by rw[HF.out];rfl,hb1⟩
theorem ze {w:World}{b:Nat}{o:Obj}(hx:w.heap[b]?=some o):b<w.heap.size:=by
 rcases Nat.lt_or_ge b w.heap.size with h'|h'
 · exact h'
 · simp[Array.getElem?_eq_none h']at hx
theorem RFr.box {B rb:Nat}{w w':World}(h:RFr B rb w w'){b:Nat}{o:Obj}(hx:w.heap[b]?=some o)(hne:b≠rb):w'.heap[b]?=some o:=by
 rw[h.frame b (ze hx) hne];exact hx
theorem qj {w:World}{b k x:Nat}{v:Value}(h:x≠b):(w.setCell ⟨b,k,none⟩ v).heap[x]?=w.heap[x]?:=Below.heap_setCell _ _ _ _ h
set_option maxHeartbeats 1000000 in
theorem J3 (B rb:Nat)(r:Rs)(w:World)(h:Rd B rb r w)(hM:qx w)(hgB:0<B)(hBw:B≤w.heap.size)(hs:r.rest.length≤1099511627776) :
 Calls Tryd.prog 125 #[.pointer (some ⟨rb,0,none⟩)] w fun e w'=>e=.returned (.agg #[.string (bytesOf r.attr.1.1),.string (bytesOf r.attr.1.2)])∧Rd B rb r.attr.2 w'∧RFr B rb w w':=by
 have HM:Hid (qx w):=hM;have hrb:=h.lt;have hb1:=Below.alloc1 w (.cells #[.string ⟨#[]⟩,.string ⟨#[]⟩] 69);have hx1:=heap_alloc_new w (.cells #[.string ⟨#[]⟩,.string ⟨#[]⟩] 69);have hR1:=h.later hb1;have hF1:RFr B rb w _:=RFr.later hBw hb1;have HLE:Hid (r.rest.length≤1099511627776):=hs;clear h hM hs
 go_enter Tryd.func125,Tryd.ntmps125
 go_wp2_with fail
 generalize w.alloc (.cells #[.string ⟨#[]⟩,.string ⟨#[]⟩] 69)=W1 at hb1 hx1 hR1 hF1 ⊢
 have hsz1:=hb1.size;refine (Calls.mono (x5 B rb r W1 hR1 (by omega)) ?_)
 rintro e w2 ⟨rfl,hR2,k2⟩;have hx2:=k2.box hx1 (by omega)
 have hF2:=hF1.trans k2;have hsz2:=hF2.below.size;clear hR1 hx1 hF1 k2 hb1;go_wp2_with fail;refine (Calls.mono (ZR B rb r.skip w2 hR2 (by omega) (Nat.le_trans (q7 r).1 HLE.out)) ?_)
 rintro e w3 ⟨rfl,hR3,k3⟩;have hx3:=k3.box hx2 (by omega)
 have hF3:=hF2.trans k3;have hsz3:=hF3.below.size;clear hR2 hx2 hF2 k3;go_wp2_with fail;have hb4:=Below.alloc1 w3 (.cells #[.string (bytesOf r.skip.nameOf),.string ⟨#[]⟩] 69);have hy4:=heap_alloc_new w3 (.cells #[.string (bytesOf r.skip.nameOf),.string ⟨#[]⟩] 69)
 generalize w3.alloc (.cells #[.string (bytesOf r.skip.nameOf),.string ⟨#[]⟩] 69)=W4 at hb4 hy4 ⊢
 have hR4:=hR3.later hb4;have hw3:=ze hx3;have hx4:=(hb4.block w.heap.size hw3).trans hx3;have hF4:=hF3.trans (RFr.later (rb:=rb) (B:=B) (by omega) hb4)
 have hsz4:=hF4.below.size;clear hR3 hx3 hF3 hb4;refine (Calls.mono (zT B rb r.skip.name [61,34] W4 hR4 (Nat.le_trans ((zH _).trans (q7 r)).1 HLE.out)) ?_);rintro e w5 ⟨rfl,hR5,k5⟩;have hx5:=k5.box hx4 (by omega)
 have hy5:=k5.box hy4 (by omega)
 have hF5:=hF4.trans k5;have hsz5:=hF5.below.size;clear hR4 hx4 hy4 hF4 k5;go_wp2_with fail;refine (Calls.mono (QC valueEnds B rb (r.skip.name.must [61,34]) w5 hR5 (HM.out.later hF5.below hgB) hgB (by omega) (Nat.le_trans ((qR _ _).trans ((zH _).trans (q7 r))).1 HLE.out)) ?_)
 rintro e w6 ⟨rfl,hR6,k6⟩;have hx6:=k6.box hx5 (by omega)
 have hy6:=k6.box hy5 (by omega)
 have hF6:=hF5.trans k6;have hsz6:=hF6.below.size;clear hR5 hx5 hy5 hF5 k6;have q1:w6.cell? ⟨w3.heap.size,1,none⟩=some (.string ⟨#[]⟩):=by rw[cH9 hy6];rfl
 have q1f:w6.frozen? ⟨w3.heap.size,1,none⟩=false:=fH9 hy6 1;obtain ⟨val,hval⟩:∃ val,((r.skip.name.must [61,34]).text valueEnds).1=val:=⟨_,rfl⟩;have HATT:Hid (r.attr=((r.skip.nameOf,val),(((r.skip.name.must [61,34]).text valueEnds).2).must [34])):=by show _=_;rw[←hval];rfl
 have HLL:Hid (((r.skip.name.must [61,34]).text valueEnds).2.rest.length≤1099511627776):=Nat.le_trans ((xz _ _).trans ((qR _ _).trans ((zH _).trans (q7 r)))).1 HLE.out;obtain ⟨r6,hr6⟩:∃ r6,((r.skip.name.must [61,34]).text valueEnds).2=r6:=⟨_,rfl⟩;rw[hr6]at hR6 HATT HLL
 rw[hval];clear hval hr6;go_wp2_with fail;have hy7:(w6.setCell ⟨w3.heap.size,1,none⟩ (.string (bytesOf val))).heap[w3.heap.size]?=some (.cells #[.string (bytesOf r.skip.nameOf),.string (bytesOf val)] 69 (0,0)):=by simp[World.setCell,Array.getElem?_modify,hy6]
 have hx7:(w6.setCell ⟨w3.heap.size,1,none⟩ (.string (bytesOf val))).heap[w.heap.size]?=some (.cells #[.string ⟨#[]⟩,.string ⟨#[]⟩] 69 (0,0)):=by rw[qj (by omega)];exact hx6
 have hR7:Rd B rb r6 (w6.setCell ⟨w3.heap.size,1,none⟩ (.string (bytesOf val))):=⟨hR6.base,by rw[qj (by omega)];exact hR6.held⟩
 have hF7:RFr B rb w (w6.setCell ⟨w3.heap.size,1,none⟩ (.string (bytesOf val))):=hF6.own ((Below.refl _ w6).setCell (p:=⟨w3.heap.size,1,none⟩) hsz3 _) hBw
 generalize w6.setCell ⟨w3.heap.size,1,none⟩ (.string (bytesOf val))=W7 at hx7 hy7 hR7 hF7 ⊢
 clear hR6 hx6 hy6 hF6 q1 q1f;have hsz7:=hF7.below.size;refine (Calls.mono (zT B rb r6 [34] W7 hR7 HLL.out) ?_);rintro e w8 ⟨rfl,hR8,k8⟩;have hx8:=k8.box hx7 (by omega)
 have hy8:=k8.box hy7 (by omega)
 have hF8:=hF7.trans k8;clear hR7 hx7 hy7 hF7 k8;have q0:w8.cell? ⟨w3.heap.size,0,none⟩=some (.string (bytesOf r.skip.nameOf)):=by rw[cH9 hy8];rfl
 have q1:w8.cell? ⟨w3.heap.size,1,none⟩=some (.string (bytesOf val)):=by rw[cH9 hy8];rfl
 have p0:w8.cell? ⟨w.heap.size,0,none⟩=some (.string ⟨#[]⟩):=by rw[cH9 hx8];rfl
 have p1:w8.cell? ⟨w.heap.size,1,none⟩=some (.string ⟨#[]⟩):=by rw[cH9 hx8];rfl
 have p0f:w8.frozen? ⟨w.heap.size,0,none⟩=false:=fH9 hx8 0;have p1f:w8.frozen? ⟨w.heap.size,1,none⟩=false:=fH9 hx8 1;go_wp2_with fail;refine bodyPost_ret (v:=.agg #[.string (bytesOf r.skip.nameOf),.string (bytesOf val)]) (by simp[results,Tryd.results125,go_sem,qg,p0,p1,World.cell?_setCell_other]) rfl ⟨?_,?_,?_⟩
 · rw[HATT.out]
 · rw[HATT.out];exact ⟨hR8.base,by rw[qj (by omega),qj (by omega)];exact hR8.held⟩
 · exact hF8.own (((Below.refl _ w8).setCell (p:=⟨w.heap.size,0,none⟩) (nR9 _) _).setCell (p:=⟨w.heap.size,1,none⟩) (nR9 _) _) hBw
end
section
attribute [local go_sem] qg
def asB (l:List (List UInt8 × List UInt8)):List (ByteArray × ByteArray):=l.map fun x=>(bytesOf x.1,bytesOf x.2)
theorem jt (l:List (List UInt8 × List UInt8)):(asB l).length=l.length:=by simp[asB]
theorem jX (l m:List (ByteArray × ByteArray)):attrCells (l++m)=attrCells l++attrCells m:=by
 induction l with
 | nil=>rfl
 | cons x r ih=>simp[attrCells,ih]
theorem J2 (l:List (List UInt8 × List UInt8))(x:List UInt8 × List UInt8):attrCells (asB (l++[x]))=attrCells (asB l)++[.string (bytesOf x.1),.string (bytesOf x.2)]:=by
 rw[show asB (l++[x])=asB l++[(bytesOf x.1,bytesOf x.2)] by simp[asB],jX];rfl
theorem xY {B' rb:Nat}{e:TypeId}{size k:Nat}{xs:List Value}{v:Value}{w w':World}{B:Nat}(h:w.ownsRow B' e size v k xs)(hF:RFr B rb w w')(hrb:rb<B'):w'.ownsRow B' e size v k xs:=by
 refine qo h (fun x hx=>?_)
 have:=h.lt x hx;exact hF.frame x this.2 (by omega)
theorem Xo (w:World)(a b:Value)(e:TypeId):∀ (j:Nat) (u:Value),([a,b]:List Value)[j]?=some u→(w.alloc (.cells #[a,b] e)).cell? ((⟨w.heap.size,0,none⟩:Addr).add j)=some u:=by
 intro j u h
 match j,h with
 | 0,h=>simp at h;subst h;simp[Addr.add]
 | 1,h=>simp at h;subst h;simp[Addr.add]
 | j+2,h=>simp at h
set_option maxHeartbeats 1000000 in
theorem Qn (B rb:Nat)(r:Rs)(w:World)(h:Rd B rb r w)(hM:qx w)(hgB:0<B)(hBw:B≤w.heap.size)(hs:r.rest.length≤1099511627776) :
 Calls Tryd.prog 123 #[.func (.func 124) #[.pointer (some ⟨rb,0,none⟩)] #[],.func (.func 125) #[.pointer (some ⟨rb,0,none⟩)] #[]] w fun e w' =>
  ∃ v,e=.returned v∧w'.ownsRow w.heap.size 69 2 v r.attrs.1.length (attrCells (asB r.attrs.1))∧Rd B rb r.attrs.2 w'∧RFr B rb w w':=by
 obtain ⟨i0,hi,hz0,hz1,hz2⟩:=info_parts attrInfo;have hrb:=h.lt;have HR:Hid (Rd B rb r w):=h;have HM:Hid (qx w):=hM;have HN:Hid (r.rest.length≤1099511627776):=hs;clear h hM hs
 go_enter Tryd.func123,Tryd.ntmps123
 go_wp2_with fail
 go_loopg [5] r.left (fun g v wr=>∃ (r':Rs) (l:List (List UInt8 × List UInt8)),r'.left=g∧r.attrs=(l++r'.attrs.1,r'.attrs.2)∧l.length+r'.left≤r.left∧r'.rest.length≤r.rest.length∧Rd B rb r' wr∧RFr B rb w wr∧wr.ownsRow w.heap.size 69 2 v l.length (attrCells (asB l)))
 case atStart =>
  exact ⟨r,[],rfl,rfl,by simp,nR9 _,HR.out,RFr.refl _ _ _,World.ownsRow_nil _ _ _ _⟩
 case round =>
  obtain ⟨r',l,hg,htx,hlen,hrl,hRd,hF,hown⟩:=hrel;have HT:Hid (r.attrs=(l++r'.attrs.1,r'.attrs.2)):=htx;have HLE:Hid (l.length+r'.left≤r.left∧r'.rest.length≤r.rest.length∧r'.left=gk):=⟨hlen,hrl,hg⟩;have HRd:Hid (Rd B rb r' wr):=hRd;have HO:Hid _:=hown;have hsz:=hF.below.size;have HA:Hid _:=Qa B rb r' wr hRd (Nat.le_trans hrl HN.out);clear htx hlen hrl hg hRd;obtain ⟨q,hq⟩:∃ q,r'.attrAhead=q:=⟨_,rfl⟩;rw[hq]at HA
  have HAT:Hid _:=fun W (hW:Rd B rb r' W) (hMW:qx W) (hbW:B≤W.heap.size)=>J3 B rb r' W hW hMW hgB hbW (Nat.le_trans HLE.out.2.1 HN.out)
  obtain ⟨ja,jn,jc,rfl⟩:∃ a n c,u5=.slice a n c:=by
   rcases hown.2 with ⟨hv,_⟩|⟨g,cap,cur,hv,_⟩
   · exact ⟨_,_,_,hv⟩
   · exact ⟨_,_,_,hv⟩
  clear hown;cases q with
  | false =>
    have HE:Hid (r.attrs=(l,r')):=by show _=_;rw[HT.out,Zt hq];simp
    clear hq HAT;go_wp2_with fail;refine (Calls.mono HA.out ?_);rintro e w1 ⟨rfl,hb1⟩;go_wp2_with fail;go_ret;exact ⟨_,rfl,by rw[HE.out];exact qq HO.out hb1,by rw[HE.out];exact HRd.out.later hb1,hF.trans (RFr.later (by omega) hb1)⟩
  | true =>
    have HON:Hid _:=Zu hq;have HLS:Hid _:=jY r' hq;clear hq;go_wp2_with fail;refine (Calls.mono HA.out ?_);rintro e w1 ⟨rfl,hb1⟩;have hF1:RFr B rb w w1:=hF.trans (RFr.later (by omega) hb1)
    have hR1:=HRd.out.later hb1;have hO1:=qq HO.out hb1;have hsz1:=hF1.below.size;clear hb1;go_wp2_with fail;refine (Calls.mono (HAT.out w1 hR1 (HM.out.later hF1.below hgB) (by omega)) ?_)
    rintro e w2 ⟨rfl,hR2,k2⟩;have hO2:=xY hO1 k2 hrb;have hF2:=hF1.trans k2;have hsz2:=hF2.below.size;have hln:l.length≤1099511627777:=by have:=HLE.out.1;have:=jO r;have:=HN.out;omega
    clear hO1 hR1 hF1 k2 HAT;go_wp2_with (at_builtin;refine wpList_append_own_at _ rfl _ _ 22 rfl w.heap.size 69 i0 _ 2 32 Tryd.underlying22 hi hz0 hz1 hz2 rfl (by decide) _ _ _ rfl (hO2.alloc _) ⟨w2.heap.size,0,none⟩ 1 1 [.string (bytesOf r'.attr.1.1),.string (bytesOf r'.attr.1.2)] rfl ?qc1 ?qc2 ?qc3 ?qc4 ?qc5 ?qc6 ?_)
    case qc1 => rfl
    case qc2 => exact Xo _ _ _ _
    case qc3 => intro u hu;simp at hu;rcases hu with rfl|rfl<;>rfl
    case qc4 => unfold maxLen;omega
    case qc5 => omega
    case qc6 => simp;omega
    intro v' w3 hown' hgrow _ hat';have hB3:Below w.heap.size w2 w3:=((Below.refl w.heap.size w2).alloc hsz2 _).grown hgrow (by simp;omega) (fun k hk=>((hO2.alloc (.cells #[.string (bytesOf r'.attr.1.1),.string (bytesOf r'.attr.1.2)] 69)).lt k hk).1)
    have hO3:w3.ownsRow w.heap.size 69 2 v' (l++[r'.attr.1]).length (attrCells (asB (l++[r'.attr.1]))):=by
     rw[J2,List.length_append];exact hown'
    obtain ⟨va',vn',vc',rfl⟩:∃ a n c,v'=.slice a n c:=by
     rcases hown'.2 with ⟨hv,_⟩|⟨g,cap,cur,hv,_⟩
     · exact ⟨_,_,_,hv⟩
     · exact ⟨_,_,_,hv⟩
    clear hown' hgrow hat';have HO3:Hid _:=hO3;clear hO3 hO2;go_wp2_with fail
    go_roundg r'.attr.2.left
    case measure => have:=HLS.out;have:=HLE.out.2.2;omega
    case rel =>
     refine ⟨r'.attr.2,l++[r'.attr.1],rfl,?_,?_,?_,hR2.own hB3 hrb,hF2.own hB3 hBw,HO3.out⟩
     · rw[HT.out,HON.out];simp
     · have:=HLE.out.1;have:=HLS.out;simp;omega
     · exact Nat.le_trans ((xx r').trans (q7 r')).1 HLE.out.2.1
end
end Go.Proofs.YtfdbipeidmpciaaDoor
