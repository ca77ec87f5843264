/- Bundled: MeantD RefAttrs RefRight RefGood. What each says stands ahead of it. -/
import Derived.Test.YtkbhckhbgalaoaaGreatDoorBundle26
import Derived.Test.YtkbhckhbgalaoaaGreatDoorBundle28
namespace Go.Proofs.YtkbhckhbgalaoaaGreatDoor
open Go.ChangeShapes Go.WideShapes Go.ChangeAt Go.RowKit Go.Maps
set_option maxRecDepth 100000
set_option maxHeartbeats 4000000 in
theorem jr (s:List UInt8)(v:Bool)(w:World)(hm:yh w)(hs:s.length≤1048576) :
 Calls Tryz.prog 28 #[.string (qa s),.bool v] w fun e w'=>e=.returned (.tuple #[.string (qa (qF v s).1),.bool (qF v s).2])∧Below w.heap.size w w':=by
 have HM:Hid (yh w):=hm;clear hm;have HNO:Hid (qJ v s=none→qF v s=([],false)):=fun h=>by unfold qF;rw[h]
 go_enter Tryz.func28,Tryz.ntmps28
 go_wp2_with fail
 go_loopg [0,6] s.length (fun g u0 u6 wr=>∃ s' out',s'.length=g∧u0=.string (qa s')∧u6=.string (qa out')∧out'.length+s'.length≤s.length∧qJ v s=(qJ v s').map (out'++·)∧Below w.heap.size w wr)
 case atStart => exact ⟨s,[],rfl,rfl,rfl,by simp,by simp,Below.refl _ _⟩
 case round =>
  obtain ⟨s',out',hg,rfl,rfl,hlen,hx,hB⟩:=hrel;have HX:Hid _:=hx;clear hx;cases s' with
  | nil =>
    have HV:Hid (qF v s=(out',true)):=by
     show _=_
     unfold qF;rw[HX.out,Z4];simp
    have he:(qa []).toList.isEmpty=true:=by rw[qq];rfl
    clear HNO;go_wp2_with fail;refine bodyPost_ret (v:=.tuple #[.string (qa out'),.bool true]) (by simp[results,Tryz.results28,go_sem]) rfl ?_
    exact ⟨by rw[HV.out],hB⟩
  | cons c t =>
    have he:(qa (c::t)).toList.isEmpty=false:=by rw[qq];rfl
    have hz:(qa (c::t)).size=t.length+1:=by rw[qc];rfl
    have h0:(qa (c::t))[0]=c:=rfl;have hzt:t.length≤1048576:=by simp only[List.length_cons]at hlen;omega
    by_cases hc:c=38
    · subst hc;have hci:((qa (38::t))[0].toNat:Int)=38:=rfl;have HB:Hid (Calls Tryz.prog 44 #[.string (qa (38::t)),.int .u8 59] wr fun e w'=>e=.returned (.int .i64 (Lib.indexByte (38::t) 59))∧w'=wr):=Tryz.strings_IndexByte (qa (38::t)) 59 wr
      clear h0;go_wp2_with fail;refine Calls.mono HB.out ?_;rintro e w1 ⟨rfl,rfl⟩;cases hd:t.dropWhile qh with
      | nil =>
        rw[Y7 hd];have HV:Hid (qF v s=([],false)):=HNO.out (by rw[HX.out,j8 v (by unfold qX;rw[hd])];rfl)
        have hmx:(max 0 1:Int)=1:=by decide
        have hcc:(⟨#[32]⟩:ByteArray)++(⟨#[32]⟩:ByteArray)=⟨#[32,32]⟩:=by decide
        have HI:Hid _:=YN w1 (HM.out.later hB);clear HB hd HX HNO;go_wp2_with fail;refine Calls.mono HI.out ?_;rintro e w2 ⟨rfl,rfl⟩;go_wp2_with fail;refine bodyPost_ret (v:=.tuple #[.string ⟨#[]⟩,.bool false]) (by simp[results,Tryz.results28,go_sem]) rfl ?_
        exact ⟨by rw[HV.out];rfl,hB⟩
      | cons x r =>
        obtain ⟨u,k,hua,hi,hlt,hk0,hkl,hsl,hso,hwd⟩:=Jj hd hzt;rw[hi];have HW:Hid _:=hwd;have HSL:Hid _:=hsl;have HSO:Hid _:=hso;have HI:Hid _:=Jv u hua w1 (HM.out.later hB);obtain ⟨p,hp⟩:∃ p,q7 u=p:=⟨_,rfl⟩;have hpp:=JJ u;rw[hp]at HI hpp HW
        clear HB hd hua hp hi hwd hsl hso;have HPP:Hid _:=hpp;have hkn:¬ ((k:Int)+1=0):=by omega
        clear hpp;go_wp2_with fail;rw[HSL.out,Xm];refine Calls.mono HI.out ?_;rintro e w2 ⟨rfl,rfl⟩;clear HI HSL
        by_cases hpn:p<0
        · have HV : Hid (qF v s = ([], false)) := HNO.out (by rw[HX.out, j8 v (by rw[HW.out, if_pos hpn])];rfl)
          clear HNO HX HW HSO;go_wp2_with fail;refine bodyPost_ret (v:=.tuple #[.string ⟨#[]⟩,.bool false]) (by simp[results,Tryz.results28,go_sem]) rfl ?_
          exact ⟨by rw[HV.out];rfl,hB⟩
        · have HN:Hid (qJ v s=(qJ v r).map ((out'++[jm p])++·)):=by
           show _=_
           rw[HX.out,Zv v (by rw[HW.out,if_neg hpn]),Option.map_map]
           congr 1
           funext z
           simp
          have hmm:=@run_makeMap Tryz.prog;obtain ⟨v1,v2,v3,v4,r1,r2,r3,r4,rl,hb4⟩:=Yh w2 p (HPP.out (Int.not_lt.1 hpn));have HCA:Hid _:=yi out' [jm p];have hzo:=qc out';have hzs:(qa [jm p]).size=1:=qc _;have hol:out'.length≤1048576:=by clear hci hz hkn hpn hg;omega
          have hq1:((k:Int)+1==0)=false:=by rw[beq_eq_false_iff_ne];exact hkn
          have hq2:decide (p<0)=false:=decide_eq_false hpn;clear HNO HX HW HPP;go_wp2_with fail;rw[HSO.out,HCA.out]
          go_roundg r.length
          case measure => clear hci hz hkn hpn hzo hzs;simp only[List.length_cons]at hg;omega
          case rel => exact ⟨r,out'++[jm p],rfl,rfl,rfl,by clear hci hz hkn hpn hzo hzs;simp only[List.length_cons,List.length_append,List.length_nil]at hlen ⊢;omega,HN.out,hB.trans (hb4.mono hB.size)⟩
    · have hn : ∀ d : UInt8, c ≠ d → ¬ ((c.toNat : Int) = (d.toNat : Int)) := fun d h e => h (UInt8.toNat_inj.1 (Int.ofNat.inj e))
      by_cases h60:c=60
      · subst h60;have hci:((qa (60::t))[0].toNat:Int)=60:=rfl;clear h0 hn;have HV:Hid (qF v s=([],false)):=HNO.out (by rw[HX.out,yn v hc (by simp)];rfl)
        clear HNO HX;go_wp2_with fail;refine bodyPost_ret (v:=.tuple #[.string ⟨#[]⟩,.bool false]) (by simp[results,Tryz.results28,go_sem]) rfl ?_
        exact ⟨by rw[HV.out];rfl,hB⟩
      by_cases h62:c=62
      · subst h62;have hci:((qa (62::t))[0].toNat:Int)=62:=rfl;clear h0 hn;have HV:Hid (qF v s=([],false)):=HNO.out (by rw[HX.out,yn v hc (by simp)];rfl)
        clear HNO HX;go_wp2_with fail;refine bodyPost_ret (v:=.tuple #[.string ⟨#[]⟩,.bool false]) (by simp[results,Tryz.results28,go_sem]) rfl ?_
        exact ⟨by rw[HV.out];rfl,hB⟩
      by_cases h34:c=34
      · subst h34;have hci:((qa (34::t))[0].toNat:Int)=34:=rfl;clear h0 hn;cases v with
        | true =>
          have HV:Hid (qF true s=([],false)):=HNO.out (by rw[HX.out,yn true hc (by simp)];rfl)
          clear HNO HX;go_wp2_with fail;refine bodyPost_ret (v:=.tuple #[.string ⟨#[]⟩,.bool false]) (by simp[results,Tryz.results28,go_sem]) rfl ?_
          exact ⟨by rw[HV.out];rfl,hB⟩
        | false =>
          have HPR:Hid _:=y8 34 wr;go_wp2_with fail;refine Calls.mono HPR.out ?_;rintro e w1 ⟨rfl,rfl⟩;clear HPR;cases hsg:sign 34 with
          | false =>
            have HV:Hid (qF false s=([],false)):=HNO.out (by rw[HX.out,yn false hc (by rw[hsg];simp)];rfl)
            clear HNO HX hsg;go_wp2_with fail;refine bodyPost_ret (v:=.tuple #[.string ⟨#[]⟩,.bool false]) (by simp[results,Tryz.results28,go_sem]) rfl ?_
            exact ⟨by rw[HV.out];rfl,hB⟩
          | true =>
            have HN:Hid (qJ false s=(qJ false t).map ((out'++[34])++·)):=by
             show _=_
             rw[HX.out,Qw false hc (by rw[hsg];rfl),Option.map_map]
             congr 1
             funext z
             simp
            have HCA:Hid _:=yi out' [34];have HE1:Hid ((qa (34::t)).extract 0 1=qa [34]):=qB (34::t) 0 1;have HE2:Hid ((qa (34::t)).extract 1 (t.length+1)=qa t):=by show _=_;rw[qB,List.drop_succ_cons,List.drop_zero,List.take_of_length_le (by omega)]
            have hzo:=qc out';have hzs:(qa [34]).size=1:=qc _;have hol:out'.length≤1048576:=by clear hci hz;omega
            clear HNO HX hsg;go_wp2_with fail;rw[HE2.out,HE1.out,HCA.out]
            go_roundg t.length
            case measure => clear hci hz hzo hzs;simp only[List.length_cons]at hg;omega
            case rel => exact ⟨t,out'++[34],rfl,rfl,rfl,by clear hci hz hzo hzs;simp only[List.length_cons,List.length_append,List.length_nil]at hlen ⊢;omega,HN.out,hB⟩
      have hn38:((c.toNat:Int)==38)=false:=by rw[beq_eq_false_iff_ne];exact hn 38 hc
      have hn60:((c.toNat:Int)==60)=false:=by rw[beq_eq_false_iff_ne];exact hn 60 h60
      have hn62:((c.toNat:Int)==62)=false:=by rw[beq_eq_false_iff_ne];exact hn 62 h62
      have hn34:((c.toNat:Int)==34)=false:=by rw[beq_eq_false_iff_ne];exact hn 34 h34
      clear hn;have HPR:Hid _:=y8 c wr;go_wp2_with fail;refine Calls.mono HPR.out ?_;rintro e w1 ⟨rfl,rfl⟩;clear HPR;cases hsg:sign c with
      | false =>
        have HV:Hid (qF v s=([],false)):=HNO.out (by rw[HX.out,yn v hc (by rw[hsg];simp)];rfl)
        clear HNO HX hsg;go_wp2_with fail;refine bodyPost_ret (v:=.tuple #[.string ⟨#[]⟩,.bool false]) (by simp[results,Tryz.results28,go_sem]) rfl ?_
        exact ⟨by rw[HV.out];rfl,hB⟩
      | true =>
        have HN:Hid (qJ v s=(qJ v t).map ((out'++[c])++·)):=by
         show _=_
         rw[HX.out,Qw v hc (by rw[hsg];simp[h60,h62,h34]),Option.map_map]
         congr 1
         funext z
         simp
        have HCA:Hid _:=yi out' [c];have HE1:Hid ((qa (c::t)).extract 0 1=qa [c]):=qB (c::t) 0 1;have HE2:Hid ((qa (c::t)).extract 1 (t.length+1)=qa t):=by show _=_;rw[qB,List.drop_succ_cons,List.drop_zero,List.take_of_length_le (by omega)]
        have hzo:=qc out';have hzs:(qa [c]).size=1:=qc _;have hol:out'.length≤1048576:=by clear h0 hz;omega
        clear HNO HX hsg;go_wp2_with fail;rw[HE2.out,HE1.out,HCA.out]
        go_roundg t.length
        case measure => clear h0 hz hzo hzs;simp only[List.length_cons]at hg;omega
        case rel => exact ⟨t,out'++[c],rfl,rfl,rfl,by clear h0 hz hzo hzs;simp only[List.length_cons,List.length_append,List.length_nil]at hlen ⊢;omega,HN.out,hB⟩
end Go.Proofs.YtkbhckhbgalaoaaGreatDoor
namespace Go.Proofs.YtkbhckhbgalaoaaGreatDoor
open Go.ChangeShapes Go.WideShapes Go.ChangeAt Go.RowKit
set_option maxRecDepth 100000
section
theorem less_not:∀ a b:List UInt8,(Op.bytesLess a b||a==b)=!(Op.bytesLess b a)
 | [],[]=>by simp[Op.bytesLess]
 | [],y::r=>by simp[Op.bytesLess]
 | x::q,[]=>by simp[Op.bytesLess]
 | x :: q, y :: r => by
   have ih:=less_not q r;simp only[Op.bytesLess]
   by_cases h:x=y
   · subst h;simp only[List.cons_beq_cons,UInt8.lt_irrefl,decide_false,Bool.false_or,beq_self_eq_true,Bool.true_and];exact ih
   · have h' : (x == y) = false := by simpa using h
     have h2:(y==x)=false:=by simpa using fun e=>h e.symm
     simp only[List.cons_beq_cons,h',h2,Bool.false_and,Bool.or_false]
     have:(y<x)↔¬ (x<y):=by
      rw[UInt8.lt_iff_toNat_lt,UInt8.lt_iff_toNat_lt];have hn:x.toNat≠y.toNat:=fun e=>h (UInt8.toNat_inj.1 e)
      omega
     by_cases hxy:x<y
     · have : ¬ (y < x) := fun e => (this.1 e) hxy
       simp[hxy,this]
     · have := this.2 hxy;simp[hxy,this]
theorem Xg (t:TypeId)(a b:ByteArray):binOp .leq t (.string a) (.string b)=pure (.bool (!(Op.bytesLess b.toList a.toList))):=by
 simp only[binOp,Op.stringOp,less_not]
attribute [local go_sem] Xg
def jl (l:List (ByteArray × ByteArray)):Nat→ByteArray
 | 0=>⟨#[]⟩
 | j+1=>match l[j]? with|none=>⟨#[]⟩|some y=>y.1
theorem Xr {l:List (ByteArray × ByteArray)}{k:Nat}{x:ByteArray × ByteArray}(hx:l[k]?=some x)(hn:qK x.1=true)(hp:qA x.2=true) :
 okA l k=Op.bytesLess (jl l k).toList x.1.toList:=by
 unfold okA;rw[hx];simp only[hn,hp,Bool.true_and];cases k with
 | zero =>
   show true=Op.bytesLess (jl l 0).toList x.1.toList
   have h0:(jl l 0).toList=[]:=by show (⟨#[]⟩:ByteArray).toList=[];rw[ByteArray.toList_eq]
   rw[h0];cases hl:x.1.toList with
   | cons a r=>rfl
   | nil =>
     rw[ByteArray.toList_eq]at hl
     have:x.1.size=0:=by
      have h1:x.1.data.toList.length=0:=by rw[hl];rfl
      simpa using h1
     simp[qK,this]at hn
 | succ j =>
   have hj:j+1<l.length:=(List.getElem?_eq_some_iff.1 hx).1;have hy:l[j]?=some (l[j]'(by omega)):=by simp
   simp only[jl,hy]
theorem Z1 {l:List (ByteArray × ByteArray)}{k:Nat}{x:ByteArray × ByteArray}(hx:l[k]?=some x):jl l (k+1)=x.1:=by
 simp[jl,hx]
theorem Zu (S:Nat→Prop)(v:Value)(l:List (ByteArray × ByteArray))(w:World)(h:qf S w v l)(hl:∀ x∈l,x.1.size≤maxLen∧x.2.size≤maxLen) :
 Calls Tryz.prog 69 #[v] w fun e w'=>e=.returned (.bool (qD l))∧Below w.heap.size w w':=by
 obtain ⟨a,cap,rfl,hle,hm,h5⟩:=h;unfold maxLen at hm
 go_enter Tryz.func69,Tryz.ntmps69
 go_wp2_with fail
 go_loopg [3,8] l.length (fun g z i wr=>∃ k:Nat,k+g=l.length∧z=.string (jl l k)∧i=.int .i64 k∧(∀ i,i<k→okA l i=true)∧Below w.heap.size w wr)
 case atStart => exact ⟨0,by omega,rfl,rfl,fun i hi=>by omega,Below.refl _ _⟩
 case round =>
  obtain ⟨k,hk,rfl,rfl,hok,hB⟩:=hrel;have HO:Hid (∀ i,i<k→okA l i=true):=hok;clear hok
  by_cases hlt:k<l.length
  · have hne : l ≠ [] := by intro e;subst e;simp at hlt
    obtain ⟨b,o,rfl,hs,hcc⟩:=h5 hne;obtain ⟨x,hx⟩:∃ x,l[k]?=some x:=⟨l[k],by simp[hlt]⟩
    obtain ⟨c0,c1⟩:=hcc k x hx;have hbl:b<w.heap.size:=World.block_lt_of_cell? w _ c0;rw[←hB.cell (p:=⟨b,o+k*2,none⟩) hbl]at c0
    rw[←hB.cell (p:=⟨b,o+k*2+1,none⟩) hbl]at c1
    have hsz:=hB.size;have hblr:b<wr.heap.size:=by omega
    have hxl:=hl x (List.mem_of_getElem? hx);have HX:Hid (l[k]?=some x):=hx
    have next:okA l k=true→∀ i,i<k+1→okA l i=true:=by
     intro h i hi
     by_cases hik:i=k
     · rw[hik];exact h
     · exact HO.out i (by omega)
    have HN:Hid (okA l k=true→∀ i,i<k+1→okA l i=true):=next;have HL:Hid (jl l (k+1)=x.1):=Z1 hx;clear hx next;have hB1:Below w.heap.size w (wr.alloc (.cells #[.string x.1,.string x.2] 64)):=hB.alloc hsz _;have e0:(wr.alloc (.cells #[.string x.1,.string x.2] 64)).cell? ⟨wr.heap.size,0,none⟩=some (.string x.1):=by simp
    have e1:(wr.alloc (.cells #[.string x.1,.string x.2] 64)).cell? ⟨wr.heap.size,1,none⟩=some (.string x.2):=by simp
    have es:wr.heap.size<(wr.alloc (.cells #[.string x.1,.string x.2] 64)).heap.size:=by simp
    clear h5 hcc;go_wp2_with fail
    generalize wr.alloc (.cells #[.string x.1,.string x.2] 64)=W1 at hB1 e0 e1 es ⊢
    refine (yM x.1 W1 (by omega)).mono ?_
    rintro e W2 ⟨rfl,hb2⟩;have f0:W2.cell? ⟨wr.heap.size,0,none⟩=some (.string x.1):=by rw[hb2.cell (p:=⟨wr.heap.size,0,none⟩) es];exact e0
    have f1:W2.cell? ⟨wr.heap.size,1,none⟩=some (.string x.2):=by rw[hb2.cell (p:=⟨wr.heap.size,1,none⟩) es];exact e1
    have hB2:Below w.heap.size w W2:=hB1.trans (hb2.mono hB1.size);have fs:wr.heap.size<W2.heap.size:=by have:=hb2.size;omega
    cases hn:qK x.1 with
    | false =>
      have HK:Hid (okA l k=false):=by show _=_;unfold okA;rw[HX.out];simp[hn]
      go_wp2_with fail;go_ret;exact ⟨by rw[z7 hlt HK.out];rfl,hB2⟩
    | true =>
      go_wp2_with fail;refine (yZ x.2 W2 hxl.2).mono ?_;rintro e W3 ⟨rfl,hb3⟩;have g0:W3.cell? ⟨wr.heap.size,0,none⟩=some (.string x.1):=by rw[hb3.cell (p:=⟨wr.heap.size,0,none⟩) fs];exact f0
      have hB3:Below w.heap.size w W3:=hB2.trans (hb3.mono hB2.size);cases hp:qA x.2 with
      | false =>
        have HK:Hid (okA l k=false):=by show _=_;unfold okA;rw[HX.out];simp[hp]
        go_wp2_with fail;go_ret;exact ⟨by rw[z7 hlt HK.out];rfl,hB3⟩
      | true =>
        have HK:Hid (okA l k=Op.bytesLess (jl l k).toList x.1.toList):=Xr HX.out hn hp;cases hlss:Op.bytesLess (jl l k).toList x.1.toList with
        | false =>
          go_wp2_with fail;go_ret;exact ⟨by rw[z7 hlt (HK.out.trans hlss)];rfl,hB3⟩
        | true =>
          go_wp2_with fail
          go_roundg (l.length-(k+1))
          case measure => omega
          case rel => exact ⟨k+1,by omega,by rw[HL.out],by go_num,HN.out (HK.out.trans hlss),hB3⟩
  · have HT:Hid ((List.range l.length).all (okA l)=true):=by
     show _=_
     simp only[List.all_eq_true,List.mem_range];exact fun i hi=>HO.out i (by omega)
    by_cases h4:l.length≤4
    · go_wp2_with fail;go_ret;exact ⟨by simp[qD,HT.out,h4];omega,hB⟩
    · go_wp2_with fail;go_ret;exact ⟨by simp[qD,h4];omega,hB⟩
end
def jx (n:Nat):Prop:=∀ (S:Nat→Prop)(v:Value)(ts:List Tr)(w:World),qb S w n v ts→TexN n ts →
 Calls Tryz.prog 38 #[v] w fun e w'=>e=.returned (.bool (rgt n ts))∧Below w.heap.size w w'
theorem right_zero:jx 0:=by
 intro S v ts w h _;obtain ⟨rfl,a,cap,rfl,hm⟩:=h;unfold maxLen at hm
 go_enter Tryz.func38,Tryz.ntmps38
 go_wp2_with fail
 go_loopg [8] 0 (fun _ i wr=>i=.int .i64 0∧wr=w)
 case atStart => exact ⟨rfl,rfl⟩
 case round =>
  obtain ⟨rfl,rfl⟩:=hrel;go_wp2_with fail;go_ret;exact ⟨rfl,Below.refl _ _⟩
theorem Qg {l:List Tr}{k:Nat}{t:Tr}(h:l[k]?=some t):qG l (k+1)=t.text:=by simp[qG,h]
set_option maxHeartbeats 1000000 in
theorem Yf (n:Nat)(h:jx n):jx (n+1):=by
 intro S v ts w h1 htx;have H:Hid (jx n):=h;have HTx:Hid (TexN (n+1) ts):=htx;clear h htx;obtain ⟨a,cap,rfl,hle,hm,h4⟩:=h1;unfold maxLen at hm
 go_enter Tryz.func38,Tryz.ntmps38
 go_wp2_with fail
 go_loopg [3,8] ts.length (fun g p i wr=>∃ k:Nat,k+g=ts.length∧p=.bool (qG ts k)∧i=.int .i64 k∧rgt (n+1) ts=rgL (rgt n) (qG ts k) (ts.drop k)∧Below w.heap.size w wr)
 case atStart => exact ⟨0,by omega,rfl,rfl,rfl,Below.refl _ _⟩
 case round =>
  obtain ⟨k,hk,rfl,rfl,hrg,hB⟩:=hrel;have hsz:=hB.size
  by_cases hlt:k<ts.length
  · have hne : ts ≠ [] := by intro e;subst e;simp at hlt
    obtain ⟨b,o,rfl,hs,hcc⟩:=h4 hne;obtain ⟨t,ht⟩:∃ t,ts[k]?=some t:=⟨ts[k],by simp[hlt]⟩
    obtain ⟨va,vk,c0,c1,c2,c3,hat,hkt⟩:=hcc k t ht;obtain ⟨aa,ac,rfl⟩:=hat.shape;obtain ⟨ka,kc,rfl,_,hkm⟩:=qb.shape n hkt;have hbl:b<w.heap.size:=World.block_lt_of_cell? w _ c0;rw[←hB.cell (p:=⟨b,o+k*4,none⟩) hbl]at c0
    rw[←hB.cell (p:=⟨b,o+k*4+1,none⟩) hbl]at c1
    rw[←hB.cell (p:=⟨b,o+k*4+2,none⟩) hbl]at c2
    rw[←hB.cell (p:=⟨b,o+k*4+3,none⟩) hbl]at c3
    have hblr:b<wr.heap.size:=by omega
    have hdr:ts.drop k=t::ts.drop (k+1):=by
     rw[List.drop_eq_getElem_cons hlt];congr 1;simpa[hlt] using ht
    have HP:Hid (qG ts (k+1)=t.text):=Qg ht;obtain ⟨hts,hta,htk⟩:=HTx.out t (List.mem_of_getElem? ht);rw[hdr]at hrg
    have HR:Hid (rgt (n+1) ts=(qn t&&!(qG ts k&&t.text)&&(t.text||rgt n t.kids)&&rgL (rgt n) t.text (ts.drop (k+1)))):=hrg
    have HA:Hid (qf S w (.slice aa t.attrs.length ac) t.attrs):=hat;have HK:Hid (qb S w n (.slice ka t.kids.length kc) t.kids):=hkt;have HTA:Hid (∀ x∈t.attrs,x.1.size≤maxLen∧x.2.size≤maxLen):=hta;have HTK:Hid (TexN n t.kids):=htk;clear h4 hcc ht hdr hrg hat hkt hta htk;unfold maxLen at hkm
    cases htt:t.text with
    | true =>
      rw[htt]at c0
      have HPn:Hid (qG ts (k+1)=true):=HP.out.trans htt;have hB1:Below w.heap.size w (wr.alloc (.cells #[.bool true,.string t.s,.slice aa t.attrs.length ac,.slice ka t.kids.length kc] 25)):=hB.alloc hsz _;have hX1:=xo.start wr (.bool true) (.string t.s) (.slice aa t.attrs.length ac) (.slice ka t.kids.length kc) 25;cases hpt:qG ts k with
      | true =>
        have HF:Hid (rgt (n+1) ts=false):=by show _=_;rw[HR.out,htt,hpt];simp
        clear HR HP htt;go_wp2_with fail;go_ret;exact ⟨by rw[HF.out];rfl,hB1⟩
      | false =>
        cases he:t.s.toList.isEmpty with
        | true =>
          have HF:Hid (rgt (n+1) ts=false):=by show _=_;rw[HR.out,htt];simp[qn,htt,he]
          clear HR HP htt;go_wp2_with fail;go_ret;exact ⟨by rw[HF.out];rfl,hB1⟩
        | false =>
          have HR2:Hid (rgt (n+1) ts=(qA t.s&&decide (t.attrs.length=0)&&decide (t.kids.length=0)&&rgL (rgt n) true (ts.drop (k+1)))):=by
           show _=_;rw[HR.out,hpt,htt];simp[qn,htt,he]
          clear HR HP htt;go_wp2_with fail
          generalize wr.alloc (.cells #[.bool true,.string t.s,.slice aa t.attrs.length ac,.slice ka t.kids.length kc] 25)=W1 at hB1 hX1 ⊢
          refine (yZ t.s W1 hts).mono ?_;rintro e W2 ⟨rfl,hb2⟩;have hX2:=hX1.later hb2 hX1.lt;have hB2:Below w.heap.size w W2:=hB1.trans (hb2.mono hB1.size);have f0:=hX2.at0;have f2:=hX2.at2;have f3:=hX2.at3;cases hp:qA t.s with
          | false =>
            have HF:Hid (rgt (n+1) ts=false):=by show _=_;rw[HR2.out,hp];simp
            clear HR2;go_wp2_with fail;go_ret;exact ⟨by rw[HF.out];rfl,hB2⟩
          | true =>
            by_cases hal:t.attrs.length=0
            · have hal' : ((t.attrs.length : Int) != 0) = false := by simp[hal]
              have HL:Hid (t.attrs.length=0):=hal;clear hal
              by_cases hkl:t.kids.length=0
              · have hkl' : ((t.kids.length : Int) != 0) = false := by simp[hkl]
                have HF:Hid (rgt (n+1) ts=rgL (rgt n) true (ts.drop (k+1))):=by show _=_;rw[HR2.out,hp,HL.out,hkl];simp
                clear HR2 hkl;go_wp2_with fail
                go_roundg (ts.length-(k+1))
                case measure => omega
                case rel => exact ⟨k+1,by omega,by rw[HPn.out],by go_num,by rw[HPn.out];exact HF.out,hB2⟩
              · have hkl' : ((t.kids.length : Int) != 0) = true := by rw[bne_iff_ne];omega
                have HF:Hid (rgt (n+1) ts=false):=by show _=_;rw[HR2.out];simp[hkl]
                clear HR2 hkl;go_wp2_with fail;go_ret;exact ⟨by rw[HF.out];rfl,hB2⟩
            · have hal' : ((t.attrs.length : Int) != 0) = true := by rw[bne_iff_ne];omega
              have HF:Hid (rgt (n+1) ts=false):=by show _=_;rw[HR2.out];simp[hal]
              clear HR2 hal;go_wp2_with fail;go_ret;exact ⟨by rw[HF.out];rfl,hB2⟩
    | false =>
      rw[htt]at c0
      have HPn:Hid (qG ts (k+1)=false):=HP.out.trans htt
      have HR2:Hid (rgt (n+1) ts=(qK t.s&&qD t.attrs&&rgt n t.kids&&rgL (rgt n) false (ts.drop (k+1)))):=by
       show _=_;rw[HR.out,htt];simp[qn,htt]
      have hB1:Below w.heap.size w (wr.alloc (.cells #[.bool false,.string t.s,.slice aa t.attrs.length ac,.slice ka t.kids.length kc] 25)):=hB.alloc hsz _;have hX1:=xo.start wr (.bool false) (.string t.s) (.slice aa t.attrs.length ac) (.slice ka t.kids.length kc) 25;clear HR HP htt;go_wp2_with fail
      generalize wr.alloc (.cells #[.bool false,.string t.s,.slice aa t.attrs.length ac,.slice ka t.kids.length kc] 25)=W1 at hB1 hX1 ⊢
      refine (yM t.s W1 (by omega)).mono ?_
      rintro e W2 ⟨rfl,hb2⟩;have hX2:=hX1.later hb2 hX1.lt;have hB2:Below w.heap.size w W2:=hB1.trans (hb2.mono hB1.size);have f2:=hX2.at2;cases hn:qK t.s with
      | false =>
        have HF:Hid (rgt (n+1) ts=false):=by show _=_;rw[HR2.out,hn];simp
        clear HR2;go_wp2_with fail;go_ret;exact ⟨by rw[HF.out];rfl,hB2⟩
      | true =>
        go_wp2_with fail;refine (Zu S _ t.attrs W2 (HA.out.later hB2) HTA.out).mono ?_;rintro e W3 ⟨rfl,hb3⟩;have hX3:=hX2.later hb3 hX2.lt;have hB3:Below w.heap.size w W3:=hB2.trans (hb3.mono hB2.size);have g3:=hX3.at3;cases ha:qD t.attrs with
        | false =>
          have HF:Hid (rgt (n+1) ts=false):=by show _=_;rw[HR2.out,ha];simp
          clear HR2;go_wp2_with fail;go_ret;exact ⟨by rw[HF.out];rfl,hB3⟩
        | true =>
          go_wp2_with fail;refine (H.out S _ t.kids W3 (qb.later hB3 n HK.out) HTK.out).mono ?_;rintro e W4 ⟨rfl,hb4⟩;have hX4:=hX3.later hb4 hX3.lt;have hB4:Below w.heap.size w W4:=hB3.trans (hb4.mono hB3.size);have i0:=hX4.at0;cases hr:rgt n t.kids with
          | false =>
            have HF:Hid (rgt (n+1) ts=false):=by show _=_;rw[HR2.out,hr];simp
            clear HR2;go_wp2_with fail;go_ret;exact ⟨by rw[HF.out];rfl,hB4⟩
          | true =>
            have HF:Hid (rgt (n+1) ts=rgL (rgt n) false (ts.drop (k+1))):=by show _=_;rw[HR2.out,hn,ha,hr];simp
            clear HR2;go_wp2_with fail
            go_roundg (ts.length-(k+1))
            case measure => omega
            case rel => exact ⟨k+1,by omega,by rw[HPn.out],by go_num,by rw[HPn.out];exact HF.out,hB4⟩
  · have hd : ts.drop k = [] := List.drop_eq_nil_of_le (by omega)
    rw[hd]at hrg
    have HR:Hid (rgt (n+1) ts=true):=hrg;clear hrg hd;go_wp2_with fail;go_ret;exact ⟨by rw[HR.out];rfl,hB⟩
theorem QE (n:Nat):jx n:=by
 induction n with
 | zero=>exact right_zero
 | succ n ih=>exact Yf n ih
set_option maxHeartbeats 1000000 in
theorem Z0 (S:Nat→Prop)(n:Nat)(va vk:Value)(t:Tr)(w:World)(h:qf S w va t.attrs)(hk:qb S w n vk t.kids)(hc:cnt (n+1) [t]≤1048576)(hx:TexN (n+1) [t]) :
 Calls Tryz.prog 18 #[.agg #[.bool t.text,.string t.s,va,vk]] w fun e w'=>e=.returned (.bool (qR t))∧Below w.heap.size w w':=by
 have HG:Hid (qR t=_):=xA (qb.deep n hk);have hb0:∀ X,Below w.heap.size w (w.alloc X):=Below.alloc1 w;have HS:∀ (W:World),Below w.heap.size w W→Hid _:=fun W hW=>xU S n va vk t W (h.later hW) (qb.later hW n hk) hc
 have HS':Hid (∀ (W:World),Below w.heap.size w W→Hid _):=HS;clear HS;have HR:Hid (∀ (W:World) (v:Value),qb (fun b=>S b∨w.heap.size≤b) W (n+1) v [t]→Calls Tryz.prog 38 #[v] W fun e w'=>e=.returned (.bool (rgt (n+1) [t]))∧Below W.heap.size W w'):=fun W v hv=>QE (n+1) _ v [t] W hv hx
 have HA:Hid (qf S w va t.attrs):=h;have HK:Hid (qb S w n vk t.kids):=hk;obtain ⟨aa,ac,rfl⟩:=h.shape;obtain ⟨ka,kc,rfl,_,_⟩:=qb.shape n hk;obtain ⟨D,hD⟩:∃ D,dep (n+1) [t]=D:=⟨_,rfl⟩;obtain ⟨C,hC⟩:∃ C,cnt (n+1) [t]=C:=⟨_,rfl⟩;have hDC:=dep_cnt (n+1) [t];rw[hD,hC]at hDC
 rw[hC]at hc
 have HG2:Hid (qR t=(!t.text&&decide (D<9)&&decide (C<81)&&rgt (n+1) [t])):=by show _=_;rw[HG.out,hD,hC]
 have HS2:Hid (∀ (W:World),Below w.heap.size w W→Calls Tryz.prog 37 #[.agg #[.bool t.text,.string t.s,.slice aa t.attrs.length ac,.slice ka t.kids.length kc]] W fun e w'=>e=.returned (.tuple #[.int .i64 (D:Int),.int .i64 (C:Int)])∧Below W.heap.size W w'):=by
  intro W hW;have:=HS'.out W hW;rw[hD,hC]at this
  exact this
 clear HS' HG hD hC h hk hx;have hX1:=xo.start w (.bool t.text) (.string t.s) (.slice aa t.attrs.length ac) (.slice ka t.kids.length kc) 25;have hB1:=hb0 (.cells #[.bool t.text,.string t.s,.slice aa t.attrs.length ac,.slice ka t.kids.length kc] 25)
 go_enter Tryz.func18,Tryz.ntmps18
 go_wp2_with fail
 generalize w.alloc (.cells #[.bool t.text,.string t.s,.slice aa t.attrs.length ac,.slice ka t.kids.length kc] 25)=W1 at hB1 hX1 ⊢
 refine (HS2.out W1 hB1).mono ?_;rintro e W2 ⟨rfl,hb2⟩;have hX2:=hX1.later hb2 hX1.lt;have hB2:Below w.heap.size w W2:=hB1.trans (hb2.mono hB1.size);have f0:=hX2.at0;have f1:=hX2.at1;have f2:=hX2.at2;have f3:=hX2.at3;cases htt:t.text with
 | true =>
   have HF:Hid (qR t=false):=by show _=_;rw[HG2.out,htt];rfl
   rw[htt]at f0
   clear HG2 htt;go_wp2_with fail;go_ret;exact ⟨by rw[HF.out];rfl,hB2⟩
 | false =>
   rw[htt]at f0
   by_cases hd9:D<9
   · by_cases hc81 : C < 81
     · have HF : Hid (qR t = rgt (n + 1) [t]) := by show _ = _;rw[HG2.out, htt];simp[hd9, hc81]
       have HT0:Hid (t.text=false):=htt;clear HG2 htt;go_wp2_with fail;have hb3:Below W2.heap.size W2 (W2.alloc (.cells #[.bool false,.string t.s,.slice aa t.attrs.length ac,.slice ka t.kids.length kc] 25)):=Below.alloc1 _ _;have hB3:=hB2.trans (hb3.mono hB2.size)
       have hT:qb (fun b=>S b∨w.heap.size≤b) (W2.alloc (.cells #[.bool false,.string t.s,.slice aa t.attrs.length ac,.slice ka t.kids.length kc] 25)) (n+1) (.slice (some ⟨W2.heap.size,0,none⟩) 1 1) [t]:=by
        have hT0:=qb.of_block (S:=S) (n:=n) (len:=1) (cap:=1) (ts:=[t]) (e:=25) (fz:=(0,0)) (qs:=[(false,t.s,.slice aa t.attrs.length ac,.slice ka t.kids.length kc)]) (heap_alloc_new W2 (.cells #[.bool false,.string t.s,.slice aa t.attrs.length ac,.slice ka t.kids.length kc] 25)) rfl rfl rfl (nR9 _) (by unfold maxLen;simp) (by
         intro i q t' hq ht';cases i with
         | zero =>
           simp at hq ht'
           subst hq ht';exact ⟨HT0.out.symm,rfl,HA.out.later hB3,qb.later hB3 n HK.out⟩
         | succ i=>simp at ht')
        refine qb.carry (fun b hb=>⟨?_,rfl⟩) (n+1) hT0
        rcases hb with hb|hb
        · exact Or.inl hb
        · right;have:=hB2.size;omega
       refine (HR.out _ _ hT).mono ?_;rintro e W3 ⟨rfl,hb4⟩;have hB4:Below w.heap.size w W3:=hB3.trans (hb4.mono (by simp;have:=hB2.size;omega))
       go_wp2_with fail;go_ret;exact ⟨by rw[HF.out];rfl,hB4⟩
     · have HF : Hid (qR t = false) := by show _ = _;rw[HG2.out];simp[hc81]
       clear HG2 htt;go_wp2_with fail;go_ret;exact ⟨by rw[HF.out];rfl,hB2⟩
   · have HF : Hid (qR t = false) := by show _ = _;rw[HG2.out];simp[hd9]
     clear HG2 htt;go_wp2_with fail;go_ret;exact ⟨by rw[HF.out];rfl,hB2⟩
theorem Zl (n:Nat)(ts:List Tr)(k:Nat):cnt n (ts.take k)≤cnt n ts:=by
 have h:cnt n ts=cnt n (ts.take k)+cnt n (ts.drop k):=by rw[←za,List.take_append_drop]
 omega
theorem J1 (n:Nat){ts:List Tr}{t:Tr}(h:t∈ts):dep (n+1) [t]≤dep (n+1) ts:=by
 obtain ⟨a,b,rfl⟩:=List.append_of_mem h;have e:a++t::b=a++([t]++b):=rfl;rw[e,yj,yj];omega
set_option maxHeartbeats 1000000 in
theorem Qb (S:Nat→Prop)(n:Nat)(v:Value)(ts:List Tr)(w:World)(h:qb S w (n+1) v ts)(hc:cnt (n+1) ts≤1048576)(hx:TexN (n+1) ts) :
 Calls Tryz.prog 24 #[v] w fun e w'=>e=.returned (.bool (qy ts))∧Below w.heap.size w w':=by
 have HG:Hid (qy ts=(decide (dep (n+1) ts≤8)&&decide (cnt (n+1) ts≤80)&&rgt (n+1) ts)):=j6 (qb.deep (n+1) h);have HT:Hid (qb S w (n+1) v ts):=h;have HX:Hid (TexN (n+1) ts):=hx;clear hx;obtain ⟨a,cap,rfl,hle,hm,h4⟩:=h;unfold maxLen at hm
 go_enter Tryz.func24,Tryz.ntmps24
 go_wp2_with fail
 go_loopg [3,10] ts.length (fun g c i wr=>∃ (k:Nat) (cc:Nat),k+g=ts.length∧c=.int .i64 (cc:Int)∧cc=cnt (n+1) (ts.take k)∧i=.int .i64 k∧dep (n+1) (ts.take k)≤8∧Below w.heap.size w wr)
 case atStart => exact ⟨0,0,by omega,rfl,by rw[List.take_zero,q8],rfl,by rw[List.take_zero,zu];omega,Below.refl _ _⟩
 case round =>
  obtain ⟨k,cc,hk,rfl,hcc0,rfl,hdk,hB⟩:=hrel;have hsz:=hB.size;have hcb:cc≤1048576:=by have:=Zl (n+1) ts k;omega
  have HCC:Hid (cc=cnt (n+1) (ts.take k)):=hcc0;have HDK:Hid (dep (n+1) (ts.take k)≤8):=hdk;clear hcc0 hdk
  by_cases hlt:k<ts.length
  · have hne : ts ≠ [] := by intro e;subst e;simp at hlt
    obtain ⟨b,o,rfl,hs,hcc⟩:=h4 hne;obtain ⟨t,ht⟩:∃ t,ts[k]?=some t:=⟨ts[k],by simp[hlt]⟩
    obtain ⟨va,vk,c0,c1,c2,c3,hat,hkt⟩:=hcc k t ht;obtain ⟨aa,ac,rfl⟩:=hat.shape;obtain ⟨ka,kc,rfl,_,hkm⟩:=qb.shape n hkt;have hbl:b<w.heap.size:=World.block_lt_of_cell? w _ c0;rw[←hB.cell (p:=⟨b,o+k*4,none⟩) hbl]at c0
    rw[←hB.cell (p:=⟨b,o+k*4+1,none⟩) hbl]at c1
    rw[←hB.cell (p:=⟨b,o+k*4+2,none⟩) hbl]at c2
    rw[←hB.cell (p:=⟨b,o+k*4+3,none⟩) hbl]at c3
    have hblr:b<wr.heap.size:=by omega
    have hsn:ts.take (k+1)=ts.take k++[t]:=by
     rw[List.take_succ_eq_append_getElem hlt];congr 2;simpa[hlt] using ht
    have hct:=Zl (n+1) ts (k+1);rw[hsn,za,←HCC.out]at hct
    have hB1:Below w.heap.size w (wr.alloc (.cells #[.bool t.text,.string t.s,.slice aa t.attrs.length ac,.slice ka t.kids.length kc] 25)):=hB.alloc hsz _;have HSz:=xU S n (.slice aa t.attrs.length ac) (.slice ka t.kids.length kc) t _ (hat.later hB1) (qb.later hB1 n hkt) (by omega)
    have hmem:t∈ts:=List.mem_of_getElem? ht;have HM:Hid (dep (n+1) [t]≤dep (n+1) ts):=J1 n hmem;have HC1:Hid (cnt (n+1) (ts.take (k+1))=cc+cnt (n+1) [t]):=by show _=_;rw[hsn,za,←HCC.out]
    have HD1:Hid (dep (n+1) (ts.take (k+1))=max (dep (n+1) (ts.take k)) (dep (n+1) [t])):=by show _=_;rw[hsn,yj]
    have hDC:=dep_cnt (n+1) [t];have HS2:Hid _:=HSz;clear HSz h4 hcc ht hsn hat hkt hmem;obtain ⟨D,hD⟩:∃ D,dep (n+1) [t]=D:=⟨_,rfl⟩;obtain ⟨C,hC⟩:∃ C,cnt (n+1) [t]=C:=⟨_,rfl⟩;rw[hD,hC]at HS2 hDC
    rw[hC]at HC1 hct
    rw[hD]at HD1 HM
    clear hD hC;go_wp2_with fail;refine (Calls.mono HS2.out ?_);rintro e W2 ⟨rfl,hb2⟩;have hB2:Below w.heap.size w W2:=hB1.trans (hb2.mono hB1.size)
    by_cases hd8:8<D
    · have HF:Hid (qy ts=false):=by
       show _=_
       rw[HG.out];have:¬ dep (n+1) ts≤8:=by have:=HM.out;omega
       simp[this]
      go_wp2_with fail;go_ret;exact ⟨by rw[HF.out];rfl,hB2⟩
    · go_wp2_with fail
      go_roundg (ts.length-(k+1))
      case measure => omega
      case rel => exact ⟨k+1,cc+C,by omega,by go_num,HC1.out.symm,by go_num,by rw[HD1.out];have:=HDK.out;omega,hB2⟩
  · have hkk : k = ts.length := by omega
    subst hkk;rw[List.take_length]at HCC HDK
    by_cases h80:cc≤80
    · have HF:Hid (qy ts=rgt (n+1) ts):=by
       show _=_
       rw[HG.out];have h1:dep (n+1) ts≤8:=HDK.out;have h2:cnt (n+1) ts≤80:=by have:=HCC.out;omega
       simp[h1,h2]
      go_wp2_with fail;refine (QE (n+1) S _ ts wr (qb.later hB (n+1) HT.out) HX.out).mono ?_;rintro e W2 ⟨rfl,hb2⟩;have hB2:Below w.heap.size w W2:=hB.trans (hb2.mono hB.size);go_wp2_with fail;go_ret;exact ⟨by rw[HF.out];rfl,hB2⟩
    · have HF:Hid (qy ts=false):=by
       show _=_
       rw[HG.out];have h2:¬ cnt (n+1) ts≤80:=by have:=HCC.out;omega
       simp[h2]
      go_wp2_with fail;go_ret;exact ⟨by rw[HF.out];rfl,hB⟩
end Go.Proofs.YtkbhckhbgalaoaaGreatDoor
