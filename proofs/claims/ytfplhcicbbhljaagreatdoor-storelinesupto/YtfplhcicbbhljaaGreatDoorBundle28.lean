/- topiaryref.meant, for every text: what meantV says. Condition: texts of at most 2^20 letters; the variable MaxLen holds a number. -/
import Derived.Test.YtfplhcicbbhljaaGreatDoorBundle26
namespace Go.Proofs.YtfplhcicbbhljaaGreatDoor
open Go.ChangeShapes Go.WideShapes Go.ChangeAt Go.RowKit Go.Maps
set_option maxRecDepth 100000
set_option maxHeartbeats 4000000 in
theorem Za (s:List UInt8)(v:Bool)(w:World)(hm:xH w)(hs:s.length≤1048576) :
 Calls Tryz.prog 34 #[.string (qa s),.bool v] w fun e w'=>e=.returned (.tuple #[.string (qa (zh v s).1),.bool (zh v s).2])∧Below w.heap.size w w':=by
 have HM:Hid (xH w):=hm;clear hm;have HNO:Hid (zu v s=none→zh v s=([],false)):=fun h=>by unfold zh;rw[h]
 go_enter Tryz.func34,Tryz.ntmps34
 go_wp2_with fail
 go_loopg [0,6] s.length (fun g u0 u6 wr=>∃ s' out',s'.length=g∧u0=.string (qa s')∧u6=.string (qa out')∧out'.length+s'.length≤s.length∧zu v s=(zu v s').map (out'++·)∧Below w.heap.size w wr)
 case atStart => exact ⟨s,[],rfl,rfl,rfl,by simp,by simp,Below.refl _ _⟩
 case round =>
  obtain ⟨s',out',hg,rfl,rfl,hlen,hx,hB⟩:=hrel;have HX:Hid _:=hx;clear hx;cases s' with
  | nil =>
    have HV:Hid (zh v s=(out',true)):=by
     show _=_
     unfold zh;rw[HX.out,qaA];simp
    have he:(qa []).toList.isEmpty=true:=by rw[qD];rfl
    clear HNO;go_wp2_with fail;refine bodyPost_ret (v:=.tuple #[.string (qa out'),.bool true]) (by simp[results,Tryz.results34,go_sem]) rfl ?_
    exact ⟨by rw[HV.out],hB⟩
  | cons c t =>
    have he:(qa (c::t)).toList.isEmpty=false:=by rw[qD];rfl
    have hz:(qa (c::t)).size=t.length+1:=by rw[qe];rfl
    have h0:(qa (c::t))[0]=c:=rfl;have hzt:t.length≤1048576:=by simp only[List.length_cons]at hlen;omega
    by_cases hc:c=38
    · subst hc;have hci:((qa (38::t))[0].toNat:Int)=38:=rfl;have HB:Hid (Calls Tryz.prog 17 #[.string (qa (38::t)),.int .u8 59] wr fun e w'=>e=.returned (.int .i64 (Lib.indexByte (38::t) 59))∧w'=wr):=Tryz.strings_IndexByte (qa (38::t)) 59 wr
      clear h0;go_wp2_with fail;refine Calls.mono HB.out ?_;rintro e w1 ⟨rfl,rfl⟩;cases hd:t.dropWhile qy with
      | nil =>
        rw[qcE hd];have HV:Hid (zh v s=([],false)):=HNO.out (by rw[HX.out,Yf v (by unfold yl;rw[hd])];rfl)
        have hmx:(max 0 1:Int)=1:=by decide
        have hcc:(⟨#[32]⟩:ByteArray)++(⟨#[32]⟩:ByteArray)=⟨#[32,32]⟩:=by decide
        have HI:Hid _:=qb0 w1 (HM.out.later hB);clear HB hd HX HNO;go_wp2_with fail;refine Calls.mono HI.out ?_;rintro e w2 ⟨rfl,rfl⟩;go_wp2_with fail;refine bodyPost_ret (v:=.tuple #[.string ⟨#[]⟩,.bool false]) (by simp[results,Tryz.results34,go_sem]) rfl ?_
        exact ⟨by rw[HV.out];rfl,hB⟩
      | cons x r =>
        obtain ⟨u,k,hua,hi,hlt,hk0,hkl,hsl,hso,hwd⟩:=qcU hd hzt;rw[hi];have HW:Hid _:=hwd;have HSL:Hid _:=hsl;have HSO:Hid _:=hso;have HI:Hid _:=qdr u hua w1 (HM.out.later hB);obtain ⟨p,hp⟩:∃ p,yr u=p:=⟨_,rfl⟩;have hpp:=qdU u;rw[hp]at HI hpp HW
        clear HB hd hua hp hi hwd hsl hso;have HPP:Hid _:=hpp;have hkn:¬ ((k:Int)+1=0):=by omega
        clear hpp;go_wp2_with fail;rw[HSL.out,qfm];refine Calls.mono HI.out ?_;rintro e w2 ⟨rfl,rfl⟩;clear HI HSL
        by_cases hpn:p<0
        · have HV : Hid (zh v s = ([], false)) := HNO.out (by rw[HX.out, Yf v (by rw[HW.out, if_pos hpn])];rfl)
          clear HNO HX HW HSO;go_wp2_with fail;refine bodyPost_ret (v:=.tuple #[.string ⟨#[]⟩,.bool false]) (by simp[results,Tryz.results34,go_sem]) rfl ?_
          exact ⟨by rw[HV.out];rfl,hB⟩
        · have HN:Hid (zu v s=(zu v r).map ((out'++[Q4 p])++·)):=by
           show _=_
           rw[HX.out,Vj v (by rw[HW.out,if_neg hpn]),Option.map_map]
           congr 1
           funext z
           simp
          have hmm:=@run_makeMap Tryz.prog;obtain ⟨v1,v2,v3,v4,r1,r2,r3,r4,rl,hb4⟩:=qaY w2 p (HPP.out (Int.not_lt.1 hpn));have HCA:Hid _:=j5 out' [Q4 p];have hzo:=qe out';have hzs:(qa [Q4 p]).size=1:=qe _;have hol:out'.length≤1048576:=by clear hci hz hkn hpn hg;omega
          have hq1:((k:Int)+1==0)=false:=by rw[beq_eq_false_iff_ne];exact hkn
          have hq2:decide (p<0)=false:=decide_eq_false hpn;clear HNO HX HW HPP;go_wp2_with fail;rw[HSO.out,HCA.out]
          go_roundg r.length
          case measure => clear hci hz hkn hpn hzo hzs;simp only[List.length_cons]at hg;omega
          case rel => exact ⟨r,out'++[Q4 p],rfl,rfl,rfl,by clear hci hz hkn hpn hzo hzs;simp only[List.length_cons,List.length_append,List.length_nil]at hlen ⊢;omega,HN.out,hB.trans (hb4.mono hB.size)⟩
    · have hn : ∀ d : UInt8, c ≠ d → ¬ ((c.toNat : Int) = (d.toNat : Int)) := fun d h e => h (UInt8.toNat_inj.1 (Int.ofNat.inj e))
      by_cases h60:c=60
      · subst h60;have hci:((qa (60::t))[0].toNat:Int)=60:=rfl;clear h0 hn;have HV:Hid (zh v s=([],false)):=HNO.out (by rw[HX.out,xd v hc (by simp)];rfl)
        clear HNO HX;go_wp2_with fail;refine bodyPost_ret (v:=.tuple #[.string ⟨#[]⟩,.bool false]) (by simp[results,Tryz.results34,go_sem]) rfl ?_
        exact ⟨by rw[HV.out];rfl,hB⟩
      by_cases h62:c=62
      · subst h62;have hci:((qa (62::t))[0].toNat:Int)=62:=rfl;clear h0 hn;have HV:Hid (zh v s=([],false)):=HNO.out (by rw[HX.out,xd v hc (by simp)];rfl)
        clear HNO HX;go_wp2_with fail;refine bodyPost_ret (v:=.tuple #[.string ⟨#[]⟩,.bool false]) (by simp[results,Tryz.results34,go_sem]) rfl ?_
        exact ⟨by rw[HV.out];rfl,hB⟩
      by_cases h34:c=34
      · subst h34;have hci:((qa (34::t))[0].toNat:Int)=34:=rfl;clear h0 hn;cases v with
        | true =>
          have HV:Hid (zh true s=([],false)):=HNO.out (by rw[HX.out,xd true hc (by simp)];rfl)
          clear HNO HX;go_wp2_with fail;refine bodyPost_ret (v:=.tuple #[.string ⟨#[]⟩,.bool false]) (by simp[results,Tryz.results34,go_sem]) rfl ?_
          exact ⟨by rw[HV.out];rfl,hB⟩
        | false =>
          have HPR:Hid _:=QJ 34 wr;go_wp2_with fail;refine Calls.mono HPR.out ?_;rintro e w1 ⟨rfl,rfl⟩;clear HPR;cases hsg:sign 34 with
          | false =>
            have HV:Hid (zh false s=([],false)):=HNO.out (by rw[HX.out,xd false hc (by rw[hsg];simp)];rfl)
            clear HNO HX hsg;go_wp2_with fail;refine bodyPost_ret (v:=.tuple #[.string ⟨#[]⟩,.bool false]) (by simp[results,Tryz.results34,go_sem]) rfl ?_
            exact ⟨by rw[HV.out];rfl,hB⟩
          | true =>
            have HN:Hid (zu false s=(zu false t).map ((out'++[34])++·)):=by
             show _=_
             rw[HX.out,Xm false hc (by rw[hsg];rfl),Option.map_map]
             congr 1
             funext z
             simp
            have HCA:Hid _:=j5 out' [34];have HE1:Hid ((qa (34::t)).extract 0 1=qa [34]):=qU (34::t) 0 1;have HE2:Hid ((qa (34::t)).extract 1 (t.length+1)=qa t):=by show _=_;rw[qU,List.drop_succ_cons,List.drop_zero,List.take_of_length_le (by omega)]
            have hzo:=qe out';have hzs:(qa [34]).size=1:=qe _;have hol:out'.length≤1048576:=by clear hci hz;omega
            clear HNO HX hsg;go_wp2_with fail;rw[HE2.out,HE1.out,HCA.out]
            go_roundg t.length
            case measure => clear hci hz hzo hzs;simp only[List.length_cons]at hg;omega
            case rel => exact ⟨t,out'++[34],rfl,rfl,rfl,by clear hci hz hzo hzs;simp only[List.length_cons,List.length_append,List.length_nil]at hlen ⊢;omega,HN.out,hB⟩
      have hn38:((c.toNat:Int)==38)=false:=by rw[beq_eq_false_iff_ne];exact hn 38 hc
      have hn60:((c.toNat:Int)==60)=false:=by rw[beq_eq_false_iff_ne];exact hn 60 h60
      have hn62:((c.toNat:Int)==62)=false:=by rw[beq_eq_false_iff_ne];exact hn 62 h62
      have hn34:((c.toNat:Int)==34)=false:=by rw[beq_eq_false_iff_ne];exact hn 34 h34
      clear hn;have HPR:Hid _:=QJ c wr;go_wp2_with fail;refine Calls.mono HPR.out ?_;rintro e w1 ⟨rfl,rfl⟩;clear HPR;cases hsg:sign c with
      | false =>
        have HV:Hid (zh v s=([],false)):=HNO.out (by rw[HX.out,xd v hc (by rw[hsg];simp)];rfl)
        clear HNO HX hsg;go_wp2_with fail;refine bodyPost_ret (v:=.tuple #[.string ⟨#[]⟩,.bool false]) (by simp[results,Tryz.results34,go_sem]) rfl ?_
        exact ⟨by rw[HV.out];rfl,hB⟩
      | true =>
        have HN:Hid (zu v s=(zu v t).map ((out'++[c])++·)):=by
         show _=_
         rw[HX.out,Xm v hc (by rw[hsg];simp[h60,h62,h34]),Option.map_map]
         congr 1
         funext z
         simp
        have HCA:Hid _:=j5 out' [c];have HE1:Hid ((qa (c::t)).extract 0 1=qa [c]):=qU (c::t) 0 1;have HE2:Hid ((qa (c::t)).extract 1 (t.length+1)=qa t):=by show _=_;rw[qU,List.drop_succ_cons,List.drop_zero,List.take_of_length_le (by omega)]
        have hzo:=qe out';have hzs:(qa [c]).size=1:=qe _;have hol:out'.length≤1048576:=by clear h0 hz;omega
        clear HNO HX hsg;go_wp2_with fail;rw[HE2.out,HE1.out,HCA.out]
        go_roundg t.length
        case measure => clear h0 hz hzo hzs;simp only[List.length_cons]at hg;omega
        case rel => exact ⟨t,out'++[c],rfl,rfl,rfl,by clear h0 hz hzo hzs;simp only[List.length_cons,List.length_append,List.length_nil]at hlen ⊢;omega,HN.out,hB⟩
end Go.Proofs.YtfplhcicbbhljaaGreatDoor
