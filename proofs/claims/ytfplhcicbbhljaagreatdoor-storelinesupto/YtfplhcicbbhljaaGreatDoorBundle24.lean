/- Bundled: StrD PiecesD. What each says stands ahead of it. -/
import Derived.Test.YtfplhcicbbhljaaGreatDoorBundle17
import Derived.Laws.DeepStrings4
namespace Go.Proofs.YtfplhcicbbhljaaGreatDoor
open Go.ChangeShapes Go.WideShapes Go.ChangeAt Go.RowKit
set_option maxRecDepth 100000
theorem xr {s:ByteArray}{l:List UInt8}(h:s.data.toList=l):s=qa l:=by rw[←h];rfl
theorem j5 (a b:List UInt8):qa a++qa b=qa (a++b):=by
 apply xr
 simp[qa]
theorem qU (l:List UInt8)(i j:Nat):(qa l).extract i j=qa ((l.drop i).take (j-i)):=by
 apply xr
 rw[Lib.extract_data];rfl
def jV (l:List (List UInt8)):List Value:=l.map fun p=>.string (qa p)
theorem pcInfo:(Tryz.prog.info? 9).map (fun i=>(i.zero,i.size,i.bytes))=some (some (.string ⟨#[]⟩),1,16):=by kernel_rfl
theorem X2 (w:World)(a:Value)(e:TypeId):∀ (j:Nat)(u:Value),([a]:List Value)[j]?=some u→(w.alloc (.cells #[a] e)).cell? ((⟨w.heap.size,0,none⟩:Addr).add j)=some u:=by
 intro j u h;rw[Addr.add_lit,cH9 (heap_alloc_new w _)];cases j with
 | zero=>simpa using h
 | succ j=>simp at h
theorem jx {w:World}{B:Nat}{e:TypeId}{size n:Nat}{v:Value}{xs:List Value}(h:w.ownsRow B e size v n xs):∃ a c,v=.slice a n c∧n≤c∧c≤maxLen:=by
 rcases h.2 with ⟨rfl,rfl⟩|⟨g,cap,cur,rfl,_,_,hc,hm,_⟩
 · exact ⟨none,0,rfl,nR9 _,nZ9 _⟩
 · exact ⟨_,_,rfl,hc,hm⟩
theorem Z4 {s s' p r:List UInt8}{acc:List (List UInt8)}(h:qT s=(qT s').map (acc++·))(hp:qT s'=(qT r).map (p::·)):qT s=(qT r).map ((acc++[p])++·):=by
 rw[h,hp,Option.map_map]
 congr 1
 funext x
 simp
def qfv (w:World)(s:List UInt8)(e:Ending)(w':World):Prop:=Below w.heap.size w w'∧match qT s with
 | none=>e=.returned (.tuple #[.slice none 0 0,.bool false])
 | some ps=>∃ v,e=.returned (.tuple #[v,.bool true])∧w'.ownsRow w.heap.size 9 1 v ps.length (jV ps)
set_option maxHeartbeats 4000000 in
theorem qaM (s:List UInt8)(w:World)(hs:s.length≤1048576) :
 Calls Tryz.prog 65 #[.string (qa s)] w (qfv w s):=by
 obtain ⟨i0,hi,hz0,hz1,hz2⟩:=info_parts pcInfo
 go_enter Tryz.func65,Tryz.ntmps65
 go_wp2_with fail
 go_loopg [0,4] s.length (fun g u0 u3 wr=>∃ s' acc,s'.length=g∧u0=.string (qa s')∧acc.length+s'.length≤s.length∧qT s=(qT s').map (acc++·)∧wr.ownsRow w.heap.size 9 1 u3 acc.length (jV acc)∧Below w.heap.size w wr)
 case atStart => exact ⟨s,[],rfl,rfl,by simp,by simp,World.ownsRow_nil _ _ _ _,Below.refl _ _⟩
 case round =>
  obtain ⟨s',acc,hg,rfl,hlen,hx,hown,hB⟩:=hrel;have HX:Hid _:=hx;have hszr:=hB.size;clear hx;obtain ⟨ra,rc,rfl,hrl,hrm⟩:=jx hown;cases s' with
  | nil =>
    have HV:Hid (qT s=some acc):=by
     show _=_
     rw[HX.out,piecesX_nil];simp
    have he:(qa []).toList.isEmpty=true:=by rw[qD];rfl
    go_wp2_with fail;refine bodyPost_ret (v:=.tuple #[.slice ra acc.length rc,.bool true]) (by simp[results,Tryz.results65,go_sem]) rfl ?_
    refine ⟨hB,?_⟩;rw[HV.out];exact ⟨_,rfl,hown⟩
  | cons c t =>
    have he:(qa (c::t)).toList.isEmpty=false:=by rw[qD];rfl
    have hz:(qa (c::t)).size=t.length+1:=by rw[qe];rfl
    have hlen':=hlen;simp only[List.length_cons]at hlen'
    by_cases hc:c=60
    · subst hc;have HB:Hid (Calls Tryz.prog 17 #[.string (qa (60::t)),.int .u8 60] wr fun e w'=>e=.returned (.int .i64 (Lib.indexByte (60::t) 60))∧w'=wr):=Tryz.strings_IndexByte (qa (60::t)) 60 wr
      have HC:Hid (Calls Tryz.prog 17 #[.string (qa (60::t)),.int .u8 62] wr fun e w'=>e=.returned (.int .i64 (Lib.indexByte (60::t) 62))∧w'=wr):=Tryz.strings_IndexByte (qa (60::t)) 62 wr
      have hi0:Lib.indexByte (60::t) 60=0:=rfl;rw[hi0]at HB
      have hia:=y8 62 (60::t);rw[show (fun x:UInt8=>decide (x≠62))=zK from rfl,List.dropWhile_cons,List.takeWhile_cons,if_pos (by decide),if_pos (by decide)]at hia
      clear hi0;cases hd:t.dropWhile zK with
      | nil =>
        rw[hd]at hia
        rw[hia]at HC
        have HV:Hid (qT s=none):=by show _=_;rw[HX.out,X8 hd];rfl
        clear hia hd HX;go_wp2_with fail;refine Calls.mono HB.out ?_;rintro e w1 ⟨rfl,rfl⟩;clear HB;go_wp2_with fail;refine Calls.mono HC.out ?_;rintro e w2 ⟨rfl,rfl⟩;clear HC;go_wp2_with fail;refine bodyPost_ret (v:=.tuple #[.slice none 0 0,.bool false]) (by simp[results,Tryz.results65,go_sem]) rfl ?_
        refine ⟨hB,?_⟩;rw[HV.out]
      | cons x r =>
        have hx62:x=62:=by
         have:=List.head?_dropWhile_not zK t;rw[hd]at this
         simpa[zK] using this
        subst hx62;rw[hd]at hia
        obtain ⟨m,hm⟩:∃ m,t.takeWhile zK=m:=⟨_,rfl⟩;have HP:Hid (qT (60::t)=(qT r).map ((60::(m++[62]))::·)):=by show _=_;rw[X7 hd,hm]
        have ht:t=m++62::r:=by rw[←hm,←hd];exact (List.takeWhile_append_dropWhile).symm
        rw[hm]at hia
        obtain ⟨k,hk⟩:∃ k,m.length+1=k:=⟨_,rfl⟩;have hia':Lib.indexByte (60::t) 62=(k:Int):=by rw[hia,←hk];rfl
        rw[hia']at HC
        obtain ⟨p,hp⟩:∃ p,60::(m++[62])=p:=⟨_,rfl⟩;have hpr:60::t=p++r:=by rw[←hp,ht];simp
        have hpl:p.length=k+1:=by rw[←hp,←hk];simp
        have hlr:t.length+1=k+1+r.length:=by have:=congrArg List.length hpr;simp only[List.length_cons,List.length_append]at this;omega
        have hkn:((k:Int)+1==0)=false:=by rw[beq_eq_false_iff_ne];omega
        have hkl:k≤t.length:=by omega
        have hE1:(qa (60::t)).extract 0 (k+1)=qa p:=by rw[qU,List.drop_zero,hpr,Nat.sub_zero,List.take_left' hpl]
        have hE2:(qa (60::t)).extract (k+1) (t.length+1)=qa r:=by rw[qU,hpr,List.drop_left' hpl,List.take_of_length_le (by omega)]
        have HLR:Hid _:=hlr;clear hlr hpl hpr;rw[hp]at HP
        clear hia hia' hd hm ht hk hp;go_wp2_with fail;refine Calls.mono HB.out ?_;rintro e w1 ⟨rfl,rfl⟩;clear HB;go_wp2_with fail;refine Calls.mono HC.out ?_;rintro e w2 ⟨rfl,rfl⟩;clear HC;go_wp2_with (at_builtin;refine wpList_append_own_at _ rfl _ _ 41 rfl w.heap.size 9 i0 _ 1 16 Tryz.underlying41 hi hz0 hz1 hz2 rfl (by decide) _ _ _ rfl (hown.alloc _) ⟨w2.heap.size,0,none⟩ 1 1 [.string (qa p)] ?qc0 ?qc1 ?qc2 ?qc3 ?qc4 ?qc5 ?qc6 ?_)
        case qc0 => rfl
        case qc1 => rfl
        case qc2 => exact X2 _ _ _
        case qc3 => intro z hz;simp at hz;subst hz;rfl
        case qc4 => unfold maxLen;omega
        case qc5 => omega
        case qc6 => simp;omega
        intro v' w6 hown6 hgr6 _ _;have hB6:Below w.heap.size w w6:=(hB.alloc hszr _).grown hgr6 (by simp;omega) (fun z hz=>(hown.lt z hz).1)
        have hS6:w6.ownsRow w.heap.size 9 1 v' (acc++[p]).length (jV (acc++[p])):=by
         rw[List.length_append,List.length_singleton];unfold jV;rw[List.map_append];exact hown6
        clear hown6 hown;go_wp2_with fail
        go_roundg r.length
        case measure => have:=HLR.out;clear he hz;simp only[List.length_cons]at hg this ⊢;omega
        case rel => exact ⟨_,acc++[p],rfl,rfl,by have:=HLR.out;clear he hz;simp only[List.length_append,List.length_cons,List.length_nil]at hlen this ⊢;omega,Z4 HX.out HP.out,hS6,hB6⟩
    · have HB : Hid (Calls Tryz.prog 17 #[.string (qa (c :: t)), .int .u8 60] wr fun e w' => e = .returned (.int .i64 (Lib.indexByte (c :: t) 60)) ∧ w' = wr) := Tryz.strings_IndexByte (qa (c :: t)) 60 wr
      have hia:=y8 60 (c::t);rw[show (fun x:UInt8=>decide (x≠60))=z7 from rfl]at hia
      have hpt:=X9 (t:=t) hc;have hhd:=QR t hc;have hsp:=List.takeWhile_append_dropWhile (p:=z7) (l:=c::t);obtain ⟨p,hp⟩:∃ p,(c::t).takeWhile z7=p:=⟨_,rfl⟩;obtain ⟨r,hr⟩:∃ r,(c::t).dropWhile z7=r:=⟨_,rfl⟩;have hp0:0<p.length:=by rw[←hp,hhd.1];simp
      rw[hp,hr]at hia hsp hpt
      have HP:Hid _:=hpt;have hpr:c::t=p++r:=hsp.symm;obtain ⟨n,hn⟩:∃ n,p.length=n:=⟨_,rfl⟩;have hpl:=hn;have hlr:t.length+1=n+r.length:=by have:=congrArg List.length hpr;simp only[List.length_cons,List.length_append]at this;omega
      have hn0:¬ ((n:Int)=0):=by omega
      have hn1:¬ ((n:Int)<0):=by omega
      have hnl:n≤t.length+1:=by omega
      have hE1:(qa (c::t)).extract 0 n=qa p:=by rw[qU,List.drop_zero,hpr,Nat.sub_zero,List.take_left' hpl]
      have hE2:(qa (c::t)).extract n (t.length+1)=qa r:=by rw[qU,hpr,List.drop_left' hpl,List.take_of_length_le (by omega)]
      have HLR:Hid _:=hlr;clear hlr;clear hpt hhd hsp hp hr hpl hpr;cases r with
      | nil =>
        have hia':Lib.indexByte (c::t) 60=-1:=hia;rw[hia']at HB
        have hnz:n=t.length+1:=by have:=HLR.out;simp only[List.length_nil]at this;omega
        subst hnz;clear hia hia';go_wp2_with fail;refine Calls.mono HB.out ?_;rintro e w1 ⟨rfl,rfl⟩;clear HB;go_wp2_with (at_builtin;refine wpList_append_own_at _ rfl _ _ 41 rfl w.heap.size 9 i0 _ 1 16 Tryz.underlying41 hi hz0 hz1 hz2 rfl (by decide) _ _ _ rfl (hown.alloc _) ⟨w1.heap.size,0,none⟩ 1 1 [.string (qa p)] ?qc0 ?qc1 ?qc2 ?qc3 ?qc4 ?qc5 ?qc6 ?_)
        case qc0 => rfl
        case qc1 => rfl
        case qc2 => exact X2 _ _ _
        case qc3 => intro z hz;simp at hz;subst hz;rfl
        case qc4 => unfold maxLen;omega
        case qc5 => omega
        case qc6 => simp;omega
        intro v' w6 hown6 hgr6 _ _;have hB6:Below w.heap.size w w6:=(hB.alloc hszr _).grown hgr6 (by simp;omega) (fun z hz=>(hown.lt z hz).1)
        have hS6:w6.ownsRow w.heap.size 9 1 v' (acc++[p]).length (jV (acc++[p])):=by
         rw[List.length_append,List.length_singleton];unfold jV;rw[List.map_append];exact hown6
        clear hown6 hown;go_wp2_with fail
        go_roundg 0
        case measure => have:=HLR.out;clear he hz;simp only[List.length_cons]at hg this ⊢;omega
        case rel => exact ⟨_,acc++[p],rfl,rfl,by have:=HLR.out;clear he hz;simp only[List.length_append,List.length_cons,List.length_nil]at hlen this ⊢;omega,Z4 HX.out HP.out,hS6,hB6⟩
      | cons x r =>
        have hia':Lib.indexByte (c::t) 60=(n:Int):=by rw[hia];exact congrArg Int.ofNat hn
        rw[hia']at HB
        clear hia hia';go_wp2_with fail;refine Calls.mono HB.out ?_;rintro e w1 ⟨rfl,rfl⟩;clear HB;go_wp2_with (at_builtin;refine wpList_append_own_at _ rfl _ _ 41 rfl w.heap.size 9 i0 _ 1 16 Tryz.underlying41 hi hz0 hz1 hz2 rfl (by decide) _ _ _ rfl (hown.alloc _) ⟨w1.heap.size,0,none⟩ 1 1 [.string (qa p)] ?qc0 ?qc1 ?qc2 ?qc3 ?qc4 ?qc5 ?qc6 ?_)
        case qc0 => rfl
        case qc1 => rfl
        case qc2 => exact X2 _ _ _
        case qc3 => intro z hz;simp at hz;subst hz;rfl
        case qc4 => unfold maxLen;omega
        case qc5 => omega
        case qc6 => simp;omega
        intro v' w6 hown6 hgr6 _ _;have hB6:Below w.heap.size w w6:=(hB.alloc hszr _).grown hgr6 (by simp;omega) (fun z hz=>(hown.lt z hz).1)
        have hS6:w6.ownsRow w.heap.size 9 1 v' (acc++[p]).length (jV (acc++[p])):=by
         rw[List.length_append,List.length_singleton];unfold jV;rw[List.map_append];exact hown6
        clear hown6 hown;go_wp2_with fail
        go_roundg (x::r).length
        case measure => have:=HLR.out;clear he hz;simp only[List.length_cons]at hg this ⊢;omega
        case rel => exact ⟨_,acc++[p],rfl,rfl,by have:=HLR.out;clear he hz;simp only[List.length_append,List.length_cons,List.length_nil]at hlen this ⊢;omega,Z4 HX.out HP.out,hS6,hB6⟩
end Go.Proofs.YtfplhcicbbhljaaGreatDoor
