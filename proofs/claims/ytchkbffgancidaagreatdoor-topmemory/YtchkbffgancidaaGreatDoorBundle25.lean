/- Bundled: ParseW ParseX KeepM BenchW WrongW AgainW MeantP SelectP AlikeS SameT. What each says stands ahead of it. -/
import Derived.Test.YtchkbffgancidaaGreatDoorBundle22
import Derived.Test.YtchkbffgancidaaGreatDoorBundle23
import Derived.Test.YtchkbffgancidaaGreatDoorBundle24
import Derived.Lib.AppendIntMem
namespace Go.Proofs.YtchkbffgancidaaGreatDoor
open Go.ChangeShapes Go.WideShapes Go.ChangeAt Go.RowKit
set_option maxRecDepth 100000
section
attribute [local go_sem] qd
structure Xi (w:World):Prop where
 max:∃ m,w.cell? ⟨2,0,none⟩=some (.int .i64 m)
 syn:∃ ev,w.cell? ⟨5,0,none⟩=some ev∧(ev=.nilIface∨∃ te pe,ev=.iface te pe)
 rng:∃ ev,w.cell? ⟨6,0,none⟩=some ev∧(ev=.nilIface∨∃ te pe,ev=.iface te pe)
 tab : Lib.TabIs Tryz.prog w "internal/strconv.uint64pow10" .u64 Lib.pow10Tab
theorem ZX {P:Program}{w w':World}{name:String}{k:IntKind}{zs:List Int}(h:Lib.TabIs P w name k zs)(hb:Below w.heap.size w w'):Lib.TabIs P w' name k zs:=by
 unfold Lib.TabIs World.var? at h ⊢
 cases hg:P.globalNamed name with
 | none=>simp[hg]at h
 | some g =>
   simp only[hg,Option.bind_some]at h ⊢
   have hlt:g<w.heap.size:=by
    rcases Nat.lt_or_ge g w.heap.size with h'|h'
    · exact h'
    · simp[Array.getElem?_eq_none h']at h
   rw[hb.block g hlt];exact h
theorem Xi.later {w w':World}(h:Xi w)(hb:Below w.heap.size w w'):Xi w':=by
 obtain ⟨⟨m,hm⟩,⟨e1,h1,k1⟩,⟨e2,h2,k2⟩,ht⟩:=h;refine ⟨⟨m,?_⟩,⟨e1,?_,k1⟩,⟨e2,?_,k2⟩,ZX ht hb⟩
 · rw[hb.cell (World.block_lt_of_cell? w _ hm)];exact hm
 · rw[hb.cell (World.block_lt_of_cell? w _ h1)];exact h1
 · rw[hb.cell (World.block_lt_of_cell? w _ h2)];exact h2
set_option maxHeartbeats 2000000 in
theorem Jn (s:ByteArray)(w:World)(hE:Xi w)(hs:s.size≤2500) :
 Calls Tryz.prog 142 #[.string s] w fun e w'=>e=.returned (.tuple #[.int .i64 ((zX s.data.toList).getD 0),.bool (zX s.data.toList).isSome])∧Below w.heap.size w w':=by
 obtain ⟨hm,⟨e1,h1,k1⟩,⟨e2,h2,k2⟩,ht⟩:=hE;obtain ⟨D,hD⟩:∃ D:List UInt8,Lib.trimSuffix s.data.toList [93]=D:=⟨_,rfl⟩;obtain ⟨C,hC⟩:∃ C,Lib.hasSuffix s.data.toList [93]=C:=⟨_,rfl⟩
 have HIR:Hid (zX s.data.toList=match Lib.atoiAll D with|.ok n=>if C=true∧n≠0∧Lib.itoa n=D then some n else none|_=>none):=by
  show _=_
  unfold zX;rw[hD,hC];cases Lib.atoiAll D<;>rfl
 have hDl:D.length≤2500:=by
  rw[←hD];unfold Lib.trimSuffix;have:s.data.toList.length=s.size:=by rw[Array.length_toList];rfl
  split
  · rw[List.length_take];omega
  · omega
 have hDs:(⟨D.toArray⟩:ByteArray).size≤2500:=by show D.toArray.size≤2500;simpa using hDl
 have HCS:Hid _:=Tryz.strings_CutSuffix s ⟨#[93]⟩ w (by omega)
 rw[show (⟨#[93]⟩:ByteArray).data.toList=[93] from rfl,hD,hC]at HCS
 have hDd:(⟨D.toArray⟩:ByteArray).data.toList=D:=by simp
 have HIT:Hid (∀ n:Int,-9223372036854775808≤n→n≤9223372036854775807→∀ W,Below w.heap.size w W→Calls Tryz.prog 178 #[.int .i64 n] W fun e w'=>e=.returned (.string ⟨(Lib.itoa n).toArray⟩)∧Below w.heap.size w w'):=by
  intro n g0 g1 W hW;refine (Tryz.strconv_Itoa n g0 g1 W (ZX ht hW)).mono ?_;rintro e w' ⟨rfl,k,os,rfl⟩;exact ⟨rfl,hW.trans ((Lib.below_grow _ W (nR9 _) k os).mono hW.size)⟩
 cases hat:Lib.atoiAll D with
 | ok n =>
   obtain ⟨n0,n1⟩:=Lib.atoiAll_bounds hat
   have HA:Hid (Calls Tryz.prog 177 #[.string ⟨D.toArray⟩] w fun e w'=>e=.returned (.tuple #[.int .i64 n,.nilIface])∧Below w.heap.size w w'):=by
    refine (Tryz.strconv_Atoi_ok ⟨D.toArray⟩ (by omega) n (by rw[hDd];exact hat) w).mono ?_
    rintro e w' ⟨rfl,hw⟩
    rcases hw with rfl|⟨t,rfl⟩
    · exact ⟨rfl,Below.refl _ _⟩
    · exact ⟨rfl,Lib.bytesWorld_below _ _ _⟩
   have HI2:Hid (∀ W,Below w.heap.size w W→Calls Tryz.prog 178 #[.int .i64 n] W fun e w'=>e=.returned (.string ⟨(Lib.itoa n).toArray⟩)∧Below w.heap.size w w'):=HIT.out n n0 n1
   rw[hat]at HIR
   have HIR2:Hid (zX s.data.toList=if C=true∧n≠0∧Lib.itoa n=D then some n else none):=HIR.out
   clear HIR hat hD hC hm h1 k1 h2 k2 ht hDl hDs hDd HIT hs;cases C with
   | false =>
     have HE:Hid (zX s.data.toList=none):=by show _=_;rw[HIR2.out];simp
     clear HIR2
     go_enter Tryz.func142,Tryz.ntmps142
     go_wp2_with fail;refine (Calls.mono HCS.out ?_);rintro e w1 ⟨rfl,rfl⟩;go_wp2_with fail;refine (Calls.mono HA.out ?_);rintro e w2 ⟨rfl,hb2⟩;go_wp2_with fail
     go_ret2
     exact ⟨by rw[HE.out];rfl,hb2⟩
   | true =>
     by_cases hn:n=0
     · have HE : Hid (zX s.data.toList = none) := by show _ = _;rw[HIR2.out];simp[hn]
       clear HIR2
       go_enter Tryz.func142,Tryz.ntmps142
       go_wp2_with fail;refine (Calls.mono HCS.out ?_);rintro e w1 ⟨rfl,rfl⟩;go_wp2_with fail;refine (Calls.mono HA.out ?_);rintro e w2 ⟨rfl,hb2⟩;go_wp2_with fail
       go_ret2
       exact ⟨by rw[HE.out];rfl,hb2⟩
     · by_cases hi : Lib.itoa n = D
       · have HE : Hid (zX s.data.toList = some n) := by show _ = _;rw[HIR2.out];simp[hn, hi]
         rw[hi]at HI2
         clear HIR2 hi
         go_enter Tryz.func142,Tryz.ntmps142
         go_wp2_with fail;refine (Calls.mono HCS.out ?_);rintro e w1 ⟨rfl,rfl⟩;go_wp2_with fail;refine (Calls.mono HA.out ?_);rintro e w2 ⟨rfl,hb2⟩;go_wp2_with fail;refine (Calls.mono (HI2.out _ hb2) ?_);rintro e w3 ⟨rfl,hb3⟩;go_wp2_with fail
         go_ret2
         exact ⟨by rw[HE.out];rfl,hb3⟩
       · have HE : Hid (zX s.data.toList = none) := by show _ = _;rw[HIR2.out];simp[hi]
         obtain ⟨I,hI⟩:∃ I,Lib.itoa n=I:=⟨_,rfl⟩;rw[hI]at HI2 hi
         have hid:(I==D)=false:=by simpa using hi
         clear HIR2 hI
         go_enter Tryz.func142,Tryz.ntmps142
         go_wp2_with fail;refine (Calls.mono HCS.out ?_);rintro e w1 ⟨rfl,rfl⟩;go_wp2_with fail;refine (Calls.mono HA.out ?_);rintro e w2 ⟨rfl,hb2⟩;go_wp2_with fail;refine (Calls.mono (HI2.out _ hb2) ?_);rintro e w3 ⟨rfl,hb3⟩;go_wp2_with fail
         go_ret2
         exact ⟨by rw[HE.out];rfl,hb3⟩
 | «syntax» =>
   have HA:Hid (Calls Tryz.prog 177 #[.string ⟨D.toArray⟩] w fun e w'=>∃ N,e=.returned (.tuple #[.int .i64 0,.iface 262 (.pointer (some ⟨N,0,none⟩))])∧Below w.heap.size w w'):=by
    refine (Tryz.strconv_Atoi_syntax ⟨D.toArray⟩ (by omega) (by rw[hDd];exact hat) e1 w h1 k1).mono ?_
    rintro e w' ⟨N,rfl,_,_,hb⟩;exact ⟨N,rfl,hb⟩
   have HE:Hid (zX s.data.toList=none):=by show _=_;rw[HIR.out,hat]
   clear HIR hat hD hC hm h1 k1 h2 k2 ht hDl hDs hDd HIT hs;cases C <;>
   · go_enter Tryz.func142, Tryz.ntmps142
     go_wp2_with fail;refine (Calls.mono HCS.out ?_);rintro e w1 ⟨rfl,rfl⟩;go_wp2_with fail;refine (Calls.mono HA.out ?_);rintro e w2 ⟨N,rfl,hb2⟩;go_wp2_with fail
     go_ret2
     exact ⟨by rw[HE.out];rfl,hb2⟩
 | range =>
   have HA:Hid (Calls Tryz.prog 177 #[.string ⟨D.toArray⟩] w fun e w'=>∃ N,e=.returned (.tuple #[.int .i64 (Lib.atoiSat D),.iface 262 (.pointer (some ⟨N,0,none⟩))])∧Below w.heap.size w w'):=by
    refine (Tryz.strconv_Atoi_range ⟨D.toArray⟩ (by omega) (by rw[hDd];exact hat) e2 w h2 k2).mono ?_
    rintro e w' ⟨N,rfl,_,_,hb⟩;rw[hDd];exact ⟨N,rfl,hb⟩
   have HE:Hid (zX s.data.toList=none):=by show _=_;rw[HIR.out,hat]
   clear HIR hat hD hC hm h1 k1 h2 k2 ht hDl hDs hDd HIT hs;cases C <;>
   · go_enter Tryz.func142, Tryz.ntmps142
     go_wp2_with fail;refine (Calls.mono HCS.out ?_);rintro e w1 ⟨rfl,rfl⟩;go_wp2_with fail;refine (Calls.mono HA.out ?_);rintro e w2 ⟨N,rfl,hb2⟩;go_wp2_with fail
     go_ret2
     exact ⟨by rw[HE.out];rfl,hb2⟩
theorem Kg {p:List UInt8}{A B:List UInt8}{F:Bool}(h:Lib.cut p [91]=(A,B,F)):A.length≤p.length∧B.length≤p.length:=by
 rcases JJ 91 p with ⟨_,hc⟩|⟨a,b,rfl,_,hc⟩
 · rw[h]at hc
   simp only[Prod.mk.injEq]at hc
   rw[hc.1,hc.2.1];simp
 · rw[h]at hc
   simp only[Prod.mk.injEq]at hc
   rw[hc.1,hc.2.1];simp;omega
theorem zr (w:World)(n:Nat):Below w.heap.size w (w.drewN n):=by
 induction n with
 | zero=>exact Below.refl _ _
 | succ n ih=>exact ih.drew
set_option maxHeartbeats 2000000 in
theorem XK (s:ByteArray)(w:World)(hE:Xi w)(hs:s.size≤2500) :
 Calls Tryz.prog 99 #[.string s] w fun e w'=>∃ nm n,e=.returned (.tuple #[.agg #[.string nm,.int .i64 n],.bool (jQ s.data.toList).isSome])∧(∀ st,jQ s.data.toList=some st→nm=⟨st.1.toArray⟩∧n=st.2)∧Below w.heap.size w w':=by
 have hb1:=Below.alloc1 w (.cells #[.string ⟨#[]⟩,.int .i64 0] 134);have hx1:=heap_alloc_new w (.cells #[.string ⟨#[]⟩,.int .i64 0] 134);obtain ⟨m,hm⟩:=(hE.later hb1).max;obtain ⟨A,B,F,hcut⟩:∃ A B F,Lib.cut s.data.toList [91]=(A,B,F):=⟨_,_,_,rfl⟩;have hlen:s.data.toList.length=s.size:=by rw[Array.length_toList];rfl
 have hAB:=Kg hcut;have HC:Hid _:=Tryz.strings_Cut s ⟨#[91]⟩ m _ (by omega) hm
 rw[show (⟨#[91]⟩:ByteArray).data.toList=[91] from rfl,hcut]at HC
 have HS:Hid (jQ s.data.toList=if A=[] then none else if F=false then some (if A=[35] then [] else A,0) else (zX B).map fun n=>(if A=[35] then [] else A,n)):=by
  show _=_
  unfold jQ;rw[hcut]
 have hBs:(⟨B.toArray⟩:ByteArray).size≤2500:=by show B.toArray.size≤2500;simp;omega
 have hBd:(⟨B.toArray⟩:ByteArray).data.toList=B:=by simp
 have HRI:Hid (∀ W,Below w.heap.size w W→Calls Tryz.prog 142 #[.string ⟨B.toArray⟩] W fun e w'=>e=.returned (.tuple #[.int .i64 ((zX B).getD 0),.bool (zX B).isSome])∧Below W.heap.size W w'):=by
  intro W hW;have:=Jn ⟨B.toArray⟩ W (hE.later hW) hBs;rw[hBd]at this
  exact this
 have hAl:∀ c:List UInt8,(⟨A.toArray⟩:ByteArray).toList=c↔A=c:=by
  intro c;rw[ByteArray.toList_eq]
 clear hE hm hs hlen hAB hBs hBd hcut
 by_cases hA:A=[]
 · have HE : Hid (jQ s.data.toList = none) := by show _ = _;rw[HS.out, if_pos hA]
   clear HS HRI hAl;subst hA
   go_enter Tryz.func99,Tryz.ntmps99
   go_wp2_with fail;refine (Calls.mono HC.out ?_);rintro e w2 ⟨rfl,k,rfl⟩;have hb2:=zr (w.alloc (.cells #[.string ⟨#[]⟩,.int .i64 0] 134)) k
   generalize (w.alloc (.cells #[.string ⟨#[]⟩,.int .i64 0] 134)).drewN k=w2 at *
   have hx2:=(hb2.block _ (qe hx1)).trans hx1;have hB2:Below w.heap.size w w2:=hb1.trans (hb2.mono hb1.size);have p0:w2.cell? ⟨w.heap.size,0,none⟩=some (.string ⟨#[]⟩):=by rw[cH9 hx2];rfl
   have p1:w2.cell? ⟨w.heap.size,1,none⟩=some (.int .i64 0):=by rw[cH9 hx2];rfl
   have f0:w2.frozen? ⟨w.heap.size,0,none⟩=false:=fH9 hx2 0;have f1:w2.frozen? ⟨w.heap.size,1,none⟩=false:=fH9 hx2 1;clear hb1 hx1 hb2 HC;clear hx2;go_wp2_with fail;refine bodyPost_ret (v:=.tuple #[.agg #[.string ⟨#[]⟩,.int .i64 0],.bool false]) (by simp[results,Tryz.results99,go_sem,qd,p0,p1,World.cell?_setCell_other]) rfl ?_
   refine ⟨⟨#[]⟩,0,by rw[HE.out];rfl,(by intro st h;rw[HE.out]at h;cases h),?_⟩
   exact (hB2.setCell (p:=⟨w.heap.size,0,none⟩) (nR9 _) _).setCell (p:=⟨w.heap.size,1,none⟩) (nR9 _) _
 · obtain ⟨nm, hnm⟩ : ∃ nm, (if A = [35] then [] else A) = nm := ⟨_, rfl⟩
   cases F with
   | false =>
     have HE:Hid (jQ s.data.toList=some (nm,0)):=by show _=_;rw[HS.out,if_neg hA,if_pos rfl,hnm]
     clear HS HRI
     by_cases h35:A=[35]
     · have hN : nm = [] := by rw[←hnm, if_pos h35]
       clear hnm hA hAl;subst h35 hN
       go_enter Tryz.func99,Tryz.ntmps99
       go_wp2_with fail;refine (Calls.mono HC.out ?_);rintro e w2 ⟨rfl,k,rfl⟩;have hb2:=zr (w.alloc (.cells #[.string ⟨#[]⟩,.int .i64 0] 134)) k
       generalize (w.alloc (.cells #[.string ⟨#[]⟩,.int .i64 0] 134)).drewN k=w2 at *
       have hx2:=(hb2.block _ (qe hx1)).trans hx1;have hB2:Below w.heap.size w w2:=hb1.trans (hb2.mono hb1.size);have p0:w2.cell? ⟨w.heap.size,0,none⟩=some (.string ⟨#[]⟩):=by rw[cH9 hx2];rfl
       have p1:w2.cell? ⟨w.heap.size,1,none⟩=some (.int .i64 0):=by rw[cH9 hx2];rfl
       have f0:w2.frozen? ⟨w.heap.size,0,none⟩=false:=fH9 hx2 0;have f1:w2.frozen? ⟨w.heap.size,1,none⟩=false:=fH9 hx2 1;clear hb1 hx1 hb2 HC;clear hx2;go_wp2_with fail;refine bodyPost_ret (v:=.tuple #[.agg #[.string ⟨#[]⟩,.int .i64 0],.bool true]) (by simp[results,Tryz.results99,go_sem,qd,p0,p1,World.cell?_setCell_other]) rfl ?_
       refine ⟨⟨#[]⟩,0,by rw[HE.out];rfl,(by intro st h;rw[HE.out]at h;cases h;exact ⟨rfl,rfl⟩),?_⟩
       exact (hB2.setCell (p:=⟨w.heap.size,0,none⟩) (nR9 _) _).setCell (p:=⟨w.heap.size,1,none⟩) (nR9 _) _
     · have h351 : (A == [35]) = false := by simpa using h35
       have hAe:A.isEmpty=false:=by simpa using hA
       have hN:nm=A:=by rw[←hnm,if_neg h35]
       clear hnm hAl;subst hN
       go_enter Tryz.func99,Tryz.ntmps99
       go_wp2_with fail;refine (Calls.mono HC.out ?_);rintro e w2 ⟨rfl,k,rfl⟩;have hb2:=zr (w.alloc (.cells #[.string ⟨#[]⟩,.int .i64 0] 134)) k
       generalize (w.alloc (.cells #[.string ⟨#[]⟩,.int .i64 0] 134)).drewN k=w2 at *
       have hx2:=(hb2.block _ (qe hx1)).trans hx1;have hB2:Below w.heap.size w w2:=hb1.trans (hb2.mono hb1.size);have p0:w2.cell? ⟨w.heap.size,0,none⟩=some (.string ⟨#[]⟩):=by rw[cH9 hx2];rfl
       have p1:w2.cell? ⟨w.heap.size,1,none⟩=some (.int .i64 0):=by rw[cH9 hx2];rfl
       have f0:w2.frozen? ⟨w.heap.size,0,none⟩=false:=fH9 hx2 0;have f1:w2.frozen? ⟨w.heap.size,1,none⟩=false:=fH9 hx2 1;clear hb1 hx1 hb2 HC;clear hx2;go_wp2_with fail;refine bodyPost_ret (v:=.tuple #[.agg #[.string ⟨nm.toArray⟩,.int .i64 0],.bool true]) (by simp[results,Tryz.results99,go_sem,qd,p0,p1,World.cell?_setCell_other]) rfl ?_
       refine ⟨⟨nm.toArray⟩,0,by rw[HE.out];rfl,(by intro st h;rw[HE.out]at h;cases h;exact ⟨rfl,rfl⟩),?_⟩
       exact (hB2.setCell (p:=⟨w.heap.size,0,none⟩) (nR9 _) _).setCell (p:=⟨w.heap.size,1,none⟩) (nR9 _) _
   | true =>
     have HE:Hid (jQ s.data.toList=(zX B).map fun n=>(nm,n)):=by show _=_;rw[HS.out,if_neg hA,if_neg (by simp),hnm]
     obtain ⟨q,hq⟩:∃ q,zX B=q:=⟨_,rfl⟩;rw[hq]at HE HRI
     have HE2:Hid ((jQ s.data.toList).isSome=q.isSome∧∀ st,jQ s.data.toList=some st→nm=st.1∧q.getD 0=st.2):=by
      refine ⟨by rw[HE.out];cases q<;>rfl,fun st h=>?_⟩
      rw[HE.out]at h
      cases q with
      | none=>cases h
      | some n=>cases h;exact ⟨rfl,rfl⟩
     obtain ⟨n,hn⟩:∃ n,q.getD 0=n:=⟨_,rfl⟩;obtain ⟨t,ht⟩:∃ t,q.isSome=t:=⟨_,rfl⟩;rw[hn,ht]at HRI HE2
     clear HS HE hq hn ht
     by_cases h35:A=[35]
     · have hN : nm = [] := by rw[←hnm, if_pos h35]
       clear hnm hA hAl;subst h35 hN
       go_enter Tryz.func99,Tryz.ntmps99
       go_wp2_with fail;refine (Calls.mono HC.out ?_);rintro e w2 ⟨rfl,k,rfl⟩;have hb2:=zr (w.alloc (.cells #[.string ⟨#[]⟩,.int .i64 0] 134)) k
       generalize (w.alloc (.cells #[.string ⟨#[]⟩,.int .i64 0] 134)).drewN k=w2 at *
       have hx2:=(hb2.block _ (qe hx1)).trans hx1;have hB2:Below w.heap.size w w2:=hb1.trans (hb2.mono hb1.size);have p0:w2.cell? ⟨w.heap.size,0,none⟩=some (.string ⟨#[]⟩):=by rw[cH9 hx2];rfl
       have p1:w2.cell? ⟨w.heap.size,1,none⟩=some (.int .i64 0):=by rw[cH9 hx2];rfl
       have f0:w2.frozen? ⟨w.heap.size,0,none⟩=false:=fH9 hx2 0;have f1:w2.frozen? ⟨w.heap.size,1,none⟩=false:=fH9 hx2 1;clear hb1 hx1 hb2 HC;go_wp2_with fail;refine (Calls.mono (HRI.out _ hB2) ?_);rintro e w3 ⟨rfl,hb3⟩;have hx3:=(hb3.block _ (qe hx2)).trans hx2;have hB3:Below w.heap.size w w3:=hB2.trans (hb3.mono hB2.size);clear p0 p1 f0 f1;have p0:w3.cell? ⟨w.heap.size,0,none⟩=some (.string ⟨#[]⟩):=by rw[cH9 hx3];rfl
       have p1:w3.cell? ⟨w.heap.size,1,none⟩=some (.int .i64 0):=by rw[cH9 hx3];rfl
       have f0:w3.frozen? ⟨w.heap.size,0,none⟩=false:=fH9 hx3 0;have f1:w3.frozen? ⟨w.heap.size,1,none⟩=false:=fH9 hx3 1;clear hx2 hx3 HRI;go_wp2_with fail;refine bodyPost_ret (v:=.tuple #[.agg #[.string ⟨#[]⟩,.int .i64 n],.bool t]) (by simp[results,Tryz.results99,go_sem,qd,p0,p1,World.cell?_setCell_other]) rfl ?_
       refine ⟨⟨#[]⟩,n,by rw[HE2.out.1],(by intro st h;obtain ⟨g1,g2⟩:=HE2.out.2 st h;exact ⟨by rw[←g1],g2⟩),?_⟩
       exact (hB3.setCell (p:=⟨w.heap.size,0,none⟩) (nR9 _) _).setCell (p:=⟨w.heap.size,1,none⟩) (nR9 _) _
     · have h351 : (A == [35]) = false := by simpa using h35
       have hAe:A.isEmpty=false:=by simpa using hA
       have hN:nm=A:=by rw[←hnm,if_neg h35]
       clear hnm hAl;subst hN
       go_enter Tryz.func99,Tryz.ntmps99
       go_wp2_with fail;refine (Calls.mono HC.out ?_);rintro e w2 ⟨rfl,k,rfl⟩;have hb2:=zr (w.alloc (.cells #[.string ⟨#[]⟩,.int .i64 0] 134)) k
       generalize (w.alloc (.cells #[.string ⟨#[]⟩,.int .i64 0] 134)).drewN k=w2 at *
       have hx2:=(hb2.block _ (qe hx1)).trans hx1;have hB2:Below w.heap.size w w2:=hb1.trans (hb2.mono hb1.size);have p0:w2.cell? ⟨w.heap.size,0,none⟩=some (.string ⟨#[]⟩):=by rw[cH9 hx2];rfl
       have p1:w2.cell? ⟨w.heap.size,1,none⟩=some (.int .i64 0):=by rw[cH9 hx2];rfl
       have f0:w2.frozen? ⟨w.heap.size,0,none⟩=false:=fH9 hx2 0;have f1:w2.frozen? ⟨w.heap.size,1,none⟩=false:=fH9 hx2 1;clear hb1 hx1 hb2 HC;go_wp2_with fail;refine (Calls.mono (HRI.out _ hB2) ?_);rintro e w3 ⟨rfl,hb3⟩;have hx3:=(hb3.block _ (qe hx2)).trans hx2;have hB3:Below w.heap.size w w3:=hB2.trans (hb3.mono hB2.size);clear p0 p1 f0 f1;have p0:w3.cell? ⟨w.heap.size,0,none⟩=some (.string ⟨#[]⟩):=by rw[cH9 hx3];rfl
       have p1:w3.cell? ⟨w.heap.size,1,none⟩=some (.int .i64 0):=by rw[cH9 hx3];rfl
       have f0:w3.frozen? ⟨w.heap.size,0,none⟩=false:=fH9 hx3 0;have f1:w3.frozen? ⟨w.heap.size,1,none⟩=false:=fH9 hx3 1;clear hx2 hx3 HRI;go_wp2_with fail;refine bodyPost_ret (v:=.tuple #[.agg #[.string ⟨nm.toArray⟩,.int .i64 n],.bool t]) (by simp[results,Tryz.results99,go_sem,qd,p0,p1,World.cell?_setCell_other]) rfl ?_
       refine ⟨⟨nm.toArray⟩,n,by rw[HE2.out.1],(by intro st h;obtain ⟨g1,g2⟩:=HE2.out.2 st h;exact ⟨by rw[←g1],g2⟩),?_⟩
       exact (hB3.setCell (p:=⟨w.heap.size,0,none⟩) (nR9 _) _).setCell (p:=⟨w.heap.size,1,none⟩) (nR9 _) _
end
section
attribute [local go_sem] qd
def asS (l:List PStep):List St:=l.map fun p=>⟨⟨p.1.toArray⟩,p.2⟩
theorem xz (l:List PStep):(asS l).length=l.length:=List.length_map _
theorem qdK (l:List UInt8):za ⟨l.toArray⟩=qcw l:=by
 unfold za qcw;have:(⟨l.toArray⟩:ByteArray).size=l.length:=by show l.toArray.size=_;simp
 rw[this]
theorem JI (a b:List UInt8):(⟨a.toArray⟩:ByteArray)=⟨b.toArray⟩↔a=b:=by
 constructor
 · intro h;have:=congrArg (fun x:ByteArray=>x.data.toList) h
   simpa using this
 · intro h;rw[h]
theorem qdY (p:PStep):zT ⟨⟨p.1.toArray⟩,p.2⟩=qcU p:=by
 unfold zT qcU;simp only;rw[qdK]
 have e1:decide ((⟨p.1.toArray⟩:ByteArray)=⟨#[]⟩)=decide (p.1=[]):=by
  rw[decide_eq_decide];exact JI p.1 []
 have e2:decide ((⟨p.1.toArray⟩:ByteArray)=⟨#[42]⟩)=decide (p.1=[42]):=by
  rw[decide_eq_decide];exact JI p.1 [42]
 rw[e1,e2]
theorem qau (l:List PStep):yS (asS l)=YS l:=by
 unfold yS YS;rw[xz]
 congr 1
 unfold asS;rw[List.all_map]
 congr 1
 funext p
 exact qdY p
def stepCells:List St→List Value
 | []=>[]
 | s::l=>.string s.name::.int .i64 s.n::stepCells l
theorem ZL (l m:List St):stepCells (l++m)=stepCells l++stepCells m:=by
 induction l with
 | nil=>rfl
 | cons s l ih=>simp[stepCells,ih]
theorem Jq (l:List St):∀ i s,l[i]?=some s→(stepCells l)[i*2]?=some (.string s.name)∧(stepCells l)[i*2+1]?=some (.int .i64 s.n):=by
 induction l with
 | nil=>intro i s h;simp at h
 | cons y l ih =>
   intro i s h;cases i with
   | zero=>simp at h;subst h;simp[stepCells]
   | succ i =>
     have:=ih i s (by simpa using h)
     rw[show (i+1)*2=i*2+2 by omega]
     simpa[stepCells] using this
def QH (B:Nat)(w:World)(v:Value)(l:List St):Prop:=w.ownsRow B 134 2 v l.length (stepCells l)
theorem QH.shape {B:Nat}{w:World}{v:Value}{l:List St}(h:QH B w v l):∃ a c,v=.slice a l.length c∧l.length≤c∧c≤maxLen:=by
 rcases h.2 with ⟨rfl,h0⟩|⟨g,cap,cur,rfl,hg,hh,hc,hm,hs,ht⟩
 · exact ⟨none,0,by rw[h0],by omega,nZ9 _⟩
 · exact ⟨_,cap,rfl,hc,hm⟩
theorem QH.steps {B:Nat}{w:World}{v:Value}{l:List St}(h:QH B w v l):zJ (fun b=>B≤b) w v l:=by
 rcases h.2 with ⟨rfl,h0⟩|⟨g,cap,cur,rfl,hg,hh,hc,hm,hs,ht⟩
 · have : l = [] := List.eq_nil_of_length_eq_zero h0;subst this;exact ⟨none,0,rfl,nR9 _,nZ9 _,fun h=>absurd rfl h⟩
 · refine ⟨_, cap, rfl, hc, hm, fun _ => ⟨g, 0, rfl, hg, fun i x hx => ?_⟩⟩
   have hi:=qh hx;obtain ⟨g0,g1⟩:=Jq l i x hx;rw[Nat.zero_add];exact ⟨by rw[World.ownsRow.cellAt h (i*2) (by omega)];exact g0,by rw[World.ownsRow.cellAt h (i*2+1) (by omega)];exact g1⟩
theorem QH.lt {B:Nat}{w:World}{v:Value}{l:List St}(h:QH B w v l):∀ k,v.ownBlock=some k→B≤k∧k<w.heap.size:=fun k hk=>World.ownsRow.lt h k hk
theorem QH.later {B:Nat}{w w':World}{v:Value}{l:List St}(h:QH B w v l)(hb:Below w.heap.size w w'):QH B w' v l:=qm h hb
theorem stepInfo:(Tryz.prog.info? 134).map (fun i=>(i.zero,i.size,i.bytes))=some (some (.agg #[.string ⟨#[]⟩,.int .i64 0]),2,24):=by kernel_rfl
theorem qdL (w:World)(a b:Value)(e:TypeId):∀ (j:Nat)(u:Value),([a,b]:List Value)[j]?=some u→(w.alloc (.cells #[a,b] e)).cell? ((⟨w.heap.size,0,none⟩:Addr).add j)=some u:=by
 intro j u hj
 match j,hj with
 | 0,hj|1,hj=>simp at hj;subst hj;simp[Addr.add]
theorem qbx {p:List UInt8}{st:PStep}(h:jQ p=some st):st.1.length≤p.length:=by
 unfold jQ at h
 obtain ⟨A,B,F,hcut⟩:∃ A B F,Lib.cut p [91]=(A,B,F):=⟨_,_,_,rfl⟩;have:=(Kg hcut).1;rw[hcut]at h
 simp only at h
 have key:∀ n,((if A=[35] then ([]:List UInt8) else A,(n:Int)):PStep).1.length≤p.length:=by
  intro n;simp only
  split
  · simp
  · exact this
 split at h
 · cases h
 · split at h
   · cases h;exact key 0
   · cases hi : zX B with
     | none=>rw[hi]at h;cases h
     | some n=>rw[hi]at h;cases h;exact key n
theorem KZ {ps:List (List UInt8)}{k:Nat}{p:List UInt8}(hk:ps[k]?=some p)(h:jQ p=none):stepsR (ps.drop k)=none:=by
 have hl:=qh hk
 have e:ps.drop k=p::ps.drop (k+1):=by
  rw[List.drop_eq_getElem_cons hl];congr 1;simpa[hl] using hk
 rw[e,stepsR,h]
theorem K0 {ps:List (List UInt8)}{k:Nat}{p:List UInt8}{s:PStep}(hk:ps[k]?=some p)(h:jQ p=some s):stepsR (ps.drop k)=(stepsR (ps.drop (k+1))).map (fun l=>s::l):=by
 have hl:=qh hk
 have e:ps.drop k=p::ps.drop (k+1):=by
  rw[List.drop_eq_getElem_cons hl];congr 1;simpa[hl] using hk
 rw[e,stepsR,h];cases stepsR (ps.drop (k+1))<;>rfl
theorem YX (s:ByteArray):s.data.toList.length=s.size:=by rw[Array.length_toList];rfl
def yE (s:ByteArray):Int:=if (xJ s.data.toList).isSome then 0 else 1
def yb (s:ByteArray):List St:=asS ((xJ s.data.toList).getD [])
theorem le_sum_mem:∀ {l:List Nat}{x:Nat},x∈l→x≤l.sum:=by
 intro l
 induction l with
 | nil=>intro x h;simp at h
 | cons y l ih =>
   intro x h;rw[List.mem_cons]at h
   rw[List.sum_cons]
   rcases h with rfl|h
   · omega
   · have:=ih h;omega
theorem qbk {R p:List UInt8}(h:p∈Lib.split R [47]):p.length≤R.length:=by
 have:=(VX 47 _ R (nR9 _)).1;have h2:=congrArg List.length this;rw[List.length_flatten,List.map_map]at h2
 have h3:(47::p).length∈(Lib.split R [47]).map (List.length ∘ fun p=>47::p):=List.mem_map.2 ⟨p,h,rfl⟩
 have h4:=le_sum_mem h3;rw[h2]at h4
 simp at h4
 exact h4
set_option maxHeartbeats 2000000 in
theorem VI (s:ByteArray)(w:World)(hE:Xi w)(hs:s.size≤maxLen) :
 Calls Tryz.prog 56 #[.string s] w fun e w'=>∃ v,e=.returned (.tuple #[v,.int .i64 (yE s)])∧zJ (fun b=>w.heap.size≤b) w' v (yb s)∧Below w.heap.size w w':=by
 unfold maxLen at hs
 have HPL:Hid (xJ s.data.toList=if s.data.toList.length≤2500∧Lib.hasPrefix s.data.toList [47]=true then (match stepsR (Lib.split (Lib.trimPrefix s.data.toList [47]) [47]) with|none=>none|some l=>if YS l=true then some l else none) else none):=by
  show _=_
  unfold xJ
  split<;>rename_i h
  · cases stepsR (Lib.split (Lib.trimPrefix s.data.toList [47]) [47])<;>rfl
  · rfl
 have HNO:Hid (xJ s.data.toList=none→yE s=1∧yb s=[]):=by
  intro h;unfold yE yb;rw[h];exact ⟨rfl,rfl⟩
 have hlen:=YX s
 by_cases h25:2500<s.size
 · have HE2 : Hid (yE s = 1 ∧ yb s = []) := HNO.out (by rw[HPL.out, if_neg (by rw[hlen];omega)])
   have h25i:(2500:Int)<(s.size:Int):=by omega
   clear HPL HNO
   go_enter Tryz.func56,Tryz.ntmps56
   go_wp2_with fail
   go_ret2
   exact ⟨_,by rw[HE2.out.1];rfl,by rw[HE2.out.2];exact ⟨none,0,rfl,nR9 _,nZ9 _,fun h=>absurd rfl h⟩,Below.refl _ _⟩
 · have h25i : ¬ (2500 : Int) < (s.size : Int) := by omega
   obtain ⟨R,hR⟩:∃ R,Lib.trimPrefix s.data.toList [47]=R:=⟨_,rfl⟩;obtain ⟨C,hC⟩:∃ C,Lib.hasPrefix s.data.toList [47]=C:=⟨_,rfl⟩;have HCP:Hid _:=Tryz.strings_CutPrefix s ⟨#[47]⟩ w;rw[show (⟨#[47]⟩:ByteArray).data.toList=[47] from rfl,hR,hC]at HCP
   rw[hR,hC,hlen]at HPL
   have hRl:R.length≤2500:=by
    rw[←hR];unfold Lib.trimPrefix
    split
    · rw[List.length_drop];omega
    · omega
   clear hR hC;cases C with
   | false =>
     have HE2:Hid (yE s=1∧yb s=[]):=HNO.out (by rw[HPL.out,if_neg (by simp)])
     clear HPL HNO
     go_enter Tryz.func56,Tryz.ntmps56
     go_wp2_with fail;refine (Calls.mono HCP.out ?_);rintro e w1 ⟨rfl,rfl⟩;go_wp2_with fail
     go_ret2
     exact ⟨_,by rw[HE2.out.1];rfl,by rw[HE2.out.2];exact ⟨none,0,rfl,nR9 _,nZ9 _,fun h=>absurd rfl h⟩,Below.refl _ _⟩
   | true =>
     have HP2:Hid (xJ s.data.toList=match stepsR (Lib.split R [47]) with|none=>none|some l=>if YS l=true then some l else none):=by show _=_;rw[HPL.out,if_pos ⟨by omega,rfl⟩]
     obtain ⟨m,hm⟩:=hE.max;have hRs:(⟨R.toArray⟩:ByteArray).size=R.length:=by show R.toArray.size=_;simp
     have HSP:Hid _:=Tryz.strings_Split ⟨R.toArray⟩ ⟨#[47]⟩ m w (by omega) hm (by decide)
     obtain ⟨P,hP⟩:∃ P,Lib.splitB ⟨#[47]⟩ 0 (Lib.countB ⟨R.toArray⟩ ⟨#[47]⟩) ⟨R.toArray⟩=P:=⟨_,rfl⟩;have hPl:P.length=Lib.countB ⟨R.toArray⟩ ⟨#[47]⟩+1:=by rw[←hP];exact Lib.splitB_all ⟨#[47]⟩ (by decide) 0 _ _ rfl
     have hPd:P.map (·.data.toList)=Lib.split R [47]:=by
      rw[←hP,Lib.splitB_data];unfold Lib.split;have e1:(⟨R.toArray⟩:ByteArray).data.toList=R:=by simp
      have e2:(⟨#[47]⟩:ByteArray).data.toList=[47]:=rfl;rw[e1,e2]
     have hcl:=Lib.countB_le ⟨#[47]⟩ (by decide) _ ⟨R.toArray⟩ (nR9 _)
     rw[hP,←hPl]at HSP
     have HEE:Hid (Xi w):=hE;have HPD:Hid (P.map (·.data.toList)=Lib.split R [47]):=hPd
     have HPS:Hid (∀ p∈P,p.size≤2500):=by
      intro p hp;have h1:p.data.toList∈Lib.split R [47]:=by rw[←hPd];exact List.mem_map.2 ⟨p,hp,rfl⟩
      have:=qbk h1;rw[YX]at this
      omega
     have hPn:P.length≤2501:=by omega
     obtain ⟨i0,hi,hz0,hzz1,hz2⟩:=info_parts stepInfo;have hb2:=Below.alloc1 w (.cells (P.map Value.string).toArray 9);have hx2:=heap_alloc_new w (.cells (P.map Value.string).toArray 9);have hz2w:(w.alloc (.cells (P.map Value.string).toArray 9)).heap.size=w.heap.size+1:=by simp
     clear hE hm hP hPl hPd hcl HPL hRs
     go_enter Tryz.func56,Tryz.ntmps56
     go_wp2_with fail;refine (Calls.mono HCP.out ?_);rintro e w1 ⟨rfl,rfl⟩;go_wp2_with fail;refine (Calls.mono HSP.out ?_);rintro e w2 ⟨rfl,rfl⟩;go_wp2_with fail
     generalize w1.alloc (.cells (P.map Value.string).toArray 9)=W2 at *
     have HZ2:Hid (W2.heap.size=w1.heap.size+1):=hz2w;have hle2:w1.heap.size≤W2.heap.size:=by omega
     clear hz2w HCP HSP
     go_loopg [24,6] P.length (fun g j o wr=>∃ (k:Nat) (acc:List PStep),k+g=P.length∧j=.int .i64 (k:Int)∧acc.length=k∧QH W2.heap.size wr o (asS acc)∧Below W2.heap.size W2 wr∧stepsR (Lib.split R [47])=(stepsR ((Lib.split R [47]).drop k)).map (fun l=>acc++l)∧∀ x∈acc,x.1.length≤2500)
     case atStart => exact ⟨0,[],by omega,rfl,rfl,World.ownsRow_nil _ _ _ _,Below.refl _ _,by rw[List.drop_zero];cases stepsR (Lib.split R [47])<;>rfl,by simp⟩
     case round =>
      obtain ⟨k,acc,hk,rfl,hal,hSR,hB,hGot,hshort⟩:=hrel;have hBw:Below w1.heap.size w1 wr:=hb2.trans (hB.mono hle2);have hxr:=(hB.block _ (qe hx2)).trans hx2;have hszr:=hB.size;obtain ⟨ra,rc,rfl,hrl,hrm⟩:=hSR.shape;rw[xz,hal]at hSR hrl ⊢
      have HSR:Hid (QH W2.heap.size wr (.slice ra k rc) (asS acc)):=hSR;have HGot:Hid _:=hGot;have HSH:Hid (∀ x∈acc,x.1.length≤2500):=hshort;have HAL:Hid (acc.length=k):=hal;clear hSR hGot hshort hal
      by_cases hkl:k<P.length
      · obtain ⟨p, hp⟩ : ∃ p, P[k]? = some p := ⟨P[k], by simp[hkl]⟩
        have hpL:(Lib.split R [47])[k]?=some p.data.toList:=by rw[←HPD.out,List.getElem?_map,hp];rfl
        have hps:=HPS.out p (List.mem_of_getElem? hp)
        have e1:wr.cell? ⟨w1.heap.size,k,none⟩=some (.string p):=by
         rw[cH9 hxr];simp[hp]
        have HRS:Hid _:=XK p wr (HEE.out.later hBw) hps;have hkli:(k:Int)<(P.length:Int):=by omega
        cases hst:jQ p.data.toList with
        | none =>
          rw[hst]at HRS
          have HE2:Hid (yE s=1∧yb s=[]):=HNO.out (by rw[HP2.out,HGot.out,KZ hpL hst];rfl)
          clear hst hpL hp hxr;go_wp2_with fail;refine (Calls.mono HRS.out ?_);rintro e w3 ⟨nm,n,rfl,_,hb3⟩;go_wp2_with fail
          go_ret2
          refine ⟨_,by rw[HE2.out.1];rfl,by rw[HE2.out.2];exact ⟨none,0,rfl,nR9 _,nZ9 _,fun h=>absurd rfl h⟩,?_⟩
          exact (hBw.trans (hb3.mono hBw.size)).alloc (Nat.le_trans hBw.size hb3.size) _
        | some st =>
          have hsn:=qbx hst;rw[YX]at hsn
          have HG2:Hid (stepsR (Lib.split R [47])=(stepsR ((Lib.split R [47]).drop (k+1))).map (fun l=>(acc++[st])++l)):=by
           show _=_
           rw[HGot.out,K0 hpL hst];cases stepsR ((Lib.split R [47]).drop (k+1)) with
           | none=>rfl
           | some l=>simp
          have HRS2:Hid (Calls Tryz.prog 99 #[.string p] wr fun e w'=>e=.returned (.tuple #[.agg #[.string ⟨st.1.toArray⟩,.int .i64 st.2],.bool true])∧Below wr.heap.size wr w'):=by
           refine (Calls.mono HRS.out ?_);rintro e w' ⟨nm,n,rfl,h1,hb⟩;obtain ⟨rfl,rfl⟩:=h1 st hst;rw[hst];exact ⟨rfl,hb⟩
          clear hst hpL hp hxr HRS;go_wp2_with fail;refine (Calls.mono HRS2.out ?_);rintro e w3 ⟨rfl,hb3⟩;have hB3:Below W2.heap.size W2 w3:=hB.trans (hb3.mono hszr);have hB4:Below W2.heap.size W2 (w3.alloc (.cells #[.string ⟨st.1.toArray⟩,.int .i64 st.2] 134)):=hB3.alloc hB3.size _;have hS4:QH W2.heap.size (w3.alloc (.cells #[.string ⟨st.1.toArray⟩,.int .i64 st.2] 134)) (.slice ra k rc) (asS acc):=(HSR.out.later hb3).later (Below.alloc1 _ _)
          have hown4:(w3.alloc (.cells #[.string ⟨st.1.toArray⟩,.int .i64 st.2] 134)).ownsRow W2.heap.size 134 2 (.slice ra k rc) k (stepCells (asS acc)):=by
           have:=hS4;unfold QH at this
           rw[xz,HAL.out]at this
           exact this
          have hs4:=hB3.size;go_wp2_with (at_builtin;refine wpList_append_own_at _ rfl _ _ 95 rfl W2.heap.size 134 i0 _ 2 24 Tryz.underlying95 hi hz0 hzz1 hz2 rfl (by decide) _ _ _ rfl (hown4.alloc _) ⟨w3.heap.size+1,0,none⟩ 1 1 [.string ⟨st.1.toArray⟩,.int .i64 st.2] ?qc0 ?qc1 ?qc2 ?qc3 ?qc4 ?qc5 ?qc6 ?_)
          case qc0 => first|rfl|simp[go_sem]
          case qc1 => rfl
          case qc2 => have:=qdL (w3.alloc (.cells #[.string ⟨st.1.toArray⟩,.int .i64 st.2] 134)) (.string ⟨st.1.toArray⟩) (.int .i64 st.2) 134;rw[World.size_alloc]at this;exact this
          case qc3 => intro z hz;simp at hz;rcases hz with rfl|rfl<;>rfl
          case qc4 => unfold maxLen;omega
          case qc5 => omega
          case qc6 => simp;omega
          intro v' w6 hown6 hgr6 _ _;obtain ⟨ja,jl,jc,rfl⟩:=qJ hown6
          have hS6:QH W2.heap.size w6 (.slice ja jl jc) (asS (acc++[st])):=by
           unfold QH;rw[show asS (acc++[st])=asS acc++[⟨⟨st.1.toArray⟩,st.2⟩] by simp[asS],ZL,List.length_append,xz,HAL.out]
           exact hown6
          have hB6:Below W2.heap.size W2 w6:=(hB4.alloc hB4.size _).grown hgr6 (by simp;omega) (fun z hz=>(hS4.lt z hz).1)
          clear hown6 hown4 hS4;go_wp2_with fail
          go_roundg (P.length-(k+1))
          case measure => omega
          case rel =>
           refine ⟨k+1,acc++[st],by omega,by go_num,by rw[List.length_append,HAL.out];rfl,hS6,hB6,HG2.out,fun x hx=>?_⟩
           rw[List.mem_append,List.mem_singleton]at hx
           rcases hx with hx|rfl
           · exact HSH.out x hx
           · omega
      · have hkk : k = P.length := by omega
        have hkli:¬ ((k:Int)<(P.length:Int)):=by omega
        have HG2:Hid (stepsR (Lib.split R [47])=some acc):=by
         show _=_
         have hdl:(Lib.split R [47]).length≤k:=by rw[←HPD.out,List.length_map];omega
         rw[HGot.out,List.drop_of_length_le hdl];simp[stepsR]
        have hSt:=HSR.out.steps;clear hkk
        have HPG:Hid _:=JN _ (.slice ra k rc) (asS acc) wr hSt (by
         intro x hx;obtain ⟨q,hq,rfl⟩:=List.mem_map.1 hx;have:=HSH.out q hq
         show q.1.toArray.size≤maxLen
         unfold maxLen;simp;omega)
        rw[qau]at HPG
        cases hpl:YS acc with
        | false =>
          rw[hpl]at HPG
          have HE2:Hid (yE s=1∧yb s=[]):=HNO.out (by rw[HP2.out,HG2.out];simp[hpl])
          clear hpl;go_wp2_with fail;refine (Calls.mono HPG.out ?_);rintro e w3 ⟨rfl,hb3⟩;go_wp2_with fail
          go_ret2
          exact ⟨_,by rw[HE2.out.1];rfl,by rw[HE2.out.2];exact ⟨none,0,rfl,nR9 _,nZ9 _,fun h=>absurd rfl h⟩,hBw.trans (hb3.mono hBw.size)⟩
        | true =>
          rw[hpl]at HPG
          have HE2:Hid (yE s=0∧yb s=asS acc):=by
           have:xJ s.data.toList=some acc:=by rw[HP2.out,HG2.out];simp[hpl]
           unfold yE yb;rw[this];exact ⟨rfl,rfl⟩
          clear hpl;go_wp2_with fail;refine (Calls.mono HPG.out ?_);rintro e w3 ⟨rfl,hb3⟩;go_wp2_with fail
          go_ret2
          exact ⟨_,by rw[HE2.out.1];rfl,by rw[HE2.out.2];exact (hSt.later hb3).carry fun b hb=>⟨by omega,rfl⟩,hBw.trans (hb3.mono hBw.size)⟩
end
end Go.Proofs.YtchkbffgancidaaGreatDoor
namespace Go.Proofs.YtchkbffgancidaaGreatDoor
open Go.RowKit
set_option maxRecDepth 100000
section
structure Zip (ns:List Nd) (n d:Nat) (T u:Tr) (tl:List Tr) (fs:List Fr):Prop where
 deep:Deep d T.kids
 wide:d≤100
 laid:layF d T (-1) 0=ns
 plug:plug fs (u::tl)=[T]
 num:stZ 1000 fs 0=n
 good:qS T=true
theorem Qb {ns:List Nd}(h:qr ns=true):ns.length≤80:=by
 simp only[qr,Bool.and_eq_true,decide_eq_true_eq]at h
 exact h.1.1
theorem Ya {ns:List Nd}(hg:qr ns=true){n:Nat}(hn:n<ns.length):∃ d T u fs,Zip ns n d T u [] fs:=by
 obtain ⟨d,t,hd,hl,hG,_,_,_,hdl⟩:=Qo hg;have h80:=Qb hg;have hlen:=layF_length d t (-1) 0 hd;rw[hl]at hlen
 obtain ⟨fs,u,e1,e2⟩:=qev (D:=1000) d t 0 n hd (by omega) (nZ9 _) (by omega)
 exact ⟨d,t,u,fs,hd,by omega,hl,e1,e2,hG⟩
section
variable {ns : List Nd} {n d : Nat} {T u : Tr} {tl : List Tr} {fs : List Fr}
theorem Zip.segL (h:Zip ns n d T u tl fs):Va ns d 0 (Go.Proofs.YtchkbffgancidaaGreatDoor.plug fs (u::tl))∧∀ k∈Go.Proofs.YtchkbffgancidaaGreatDoor.plug fs (u::tl),Deep d k.kids:=by
 rw[h.plug];refine ⟨⟨⟨-1,by rw[←h.laid];exact KU _⟩,trivial⟩,fun k hk=>?_⟩
 simp at hk
 subst hk;exact h.deep
theorem Zip.node (h:Zip ns n d T u tl fs):∃ e par,Deep e u.kids∧Seg ns n (layF e u par n):=by
 obtain ⟨h1,h2⟩:=h.segL;obtain ⟨e,par,h3,h4,_⟩:=qbm (D:=1000) fs d 0 h2 h1 (by have:=h.wide;omega)
 rw[h.num]at h4
 exact ⟨e,par,h3,h4⟩
theorem Zip.get (h:Zip ns n d T u tl fs):∃ x,ns[n]?=some x∧x.text=u.text∧x.s=u.s∧x.attrs=u.attrs:=by
 obtain ⟨e,par,h1,h2⟩:=h.node;exact ⟨_,h2 0 _ (by rw[jE h1];rfl),rfl,rfl,rfl⟩
end
theorem jg {u:Tr}(h:qw u=true)(ht:u.text=false):za u.s=true∧yq u.attrs=true:=by
 unfold qw at h
 rw[ht]at h
 simpa using h
theorem VJ {u:Tr}{tl:List Tr}:∀ (fs:List Fr)(d:Nat),rgt (d+1) (plug fs (u::tl))=true→(∀ k∈plug fs (u::tl),Deep d k.kids)→qw u=true:=by
 intro fs
 induction fs with
 | nil=>intro d h _;exact (y9 _ _ h u List.mem_cons_self).1
 | cons f fs ih =>
   intro d h hd;have hk:=hd _ (List.mem_singleton.2 rfl);cases d with
   | zero =>
     have e:f.ahead++(plug fs (u::tl)++f.behind)=[]:=hk;simp at e
     exact absurd e.2.1 (plug_ne fs u tl)
   | succ d =>
     have h1:=y9 _ _ h _ (List.mem_singleton.2 rfl);have hk':∀ k∈f.ahead++(plug fs (u::tl)++f.behind),Deep d k.kids:=hk;cases ht:f.t.text with
     | true =>
       have:=xr h1.1 ht;simp at this
       exact absurd this.2.1 (plug_ne fs u tl)
     | false =>
       have h2:=h1.2;simp only[ht,Bool.false_or]at h2
       have h3:rgL (rgt d) false (f.ahead++(plug fs (u::tl)++f.behind))=true:=h2;have h4:∀ k∈plug fs (u::tl),qw k=true∧(k.text||rgt d k.kids)=true:=fun k hk=>y9 _ _ h3 k (List.mem_append_right _ (List.mem_append_left _ hk))
       cases fs with
       | nil=>exact (h4 u List.mem_cons_self).1
       | cons g fs =>
         refine ih d ?_ (fun k hk=>hk' k (List.mem_append_right _ (List.mem_append_left _ hk)))
         have h5:=h4 _ (List.mem_singleton.2 rfl)
         show rgL (rgt d) false [_]=true
         simp only[rgL,Bool.and_eq_true,Bool.false_and,Bool.not_false,and_true];exact ⟨h5.1,h5.2⟩
theorem Zip.right {ns:List Nd}{n d:Nat}{T u:Tr}{tl:List Tr}{fs:List Fr}(h:Zip ns n d T u tl fs):qw u=true:=by
 have hG:=h.good;rw[jK h.deep]at hG
 simp only[Bool.and_eq_true]at hG
 obtain ⟨_,h2⟩:=h.segL;exact VJ fs d (by rw[h.plug];exact hG.2) h2
theorem rgt_all:∀ {n:Nat}{ts:List Tr},Deep n ts→rgt n ts=true→∀ N,rgt N ts=true:=by
 intro n
 induction n with
 | zero=>intro ts h _ N;have e:ts=[]:=h;subst e;exact xM N
 | succ n ih =>
   intro ts hd h N;cases N with
   | zero=>rfl
   | succ N =>
     have key:∀ (l:List Tr) (p:Bool),(∀ t∈l,Deep n t.kids)→rgL (rgt n) p l=true→rgL (rgt N) p l=true:=by
      intro l
      induction l with
      | nil=>intro p _ _;rfl
      | cons t l ihl =>
        intro p hd h;simp only[rgL,Bool.and_eq_true]at h ⊢
        refine ⟨⟨h.1.1,?_⟩,ihl _ (fun u hu=>hd u (List.mem_cons_of_mem _ hu)) h.2⟩
        have h3:=h.1.2;cases htx:t.text with
        | true=>rfl
        | false =>
          rw[htx,Bool.false_or]at h3
          rw[Bool.false_or];exact ih (hd t List.mem_cons_self) h3 N
     exact key ts false hd h
end
end Go.Proofs.YtchkbffgancidaaGreatDoor
namespace Go.Proofs.YtchkbffgancidaaGreatDoor
open Go.ChangeShapes Go.WideShapes Go.ChangeAt Go.RowKit
set_option maxRecDepth 100000
def yu (B:Nat)(w:World)(v:Value)(l:List (ByteArray × ByteArray)):Prop:=w.ownsRow B 44 2 v l.length (attrCells l)
structure Y5 (B:Nat) (T:Nat→Prop) (N i:Nat) (w:World) (r:Rw) (x:Nd):Prop where
 text:r.text=x.text
 s:r.s=x.s
 par:r.par=x.parent
 kids:qE B w r.vk x.kids
 own:i<N→yu B w r.va x.attrs
 far:N≤i→qj T w r.va x.attrs
structure qR (B:Nat) (T:Nat→Prop) (N:Nat) (w:World) (v:Value) (ns:List Nd) (ms:List Rw):Prop where
 len:ms.length=ns.length
 row:w.ownsRow B 42 5 v ns.length (rawCells ms)
 each:∀ (i:Nat) (r:Rw) (x:Nd),ms[i]?=some r→ns[i]?=some x→Y5 B T N i w r x
 kids:∀ (i j:Nat) (r q:Rw) (b:Nat),i≠j→ms[i]?=some r→ms[j]?=some q→r.vk.ownBlock=some b→q.vk.ownBlock≠some b
 attrs:∀ (i j:Nat) (r q:Rw) (b:Nat),i≠j→i<N→j<N→ms[i]?=some r→ms[j]?=some q→r.va.ownBlock=some b→q.va.ownBlock≠some b
 low:∀ b,T b→b<B
 le:B≤w.heap.size
theorem Y5.keep {B:Nat}{T:Nat→Prop}{N i:Nat}{w w':World}{r:Rw}{x:Nd}(h:Y5 B T N i w r x)(hlow:∀ b,T b→w'.heap[b]?=w.heap[b]?)(hA:i<N→∀ b,r.va.ownBlock=some b→w'.heap[b]?=w.heap[b]?)(hI:∀ b,r.vk.ownBlock=some b→w'.heap[b]?=w.heap[b]?):Y5 B T N i w' r x :=
 ⟨h.text,h.s,h.par,qk h.kids hI,fun hi=>qk (h.own hi) (hA hi),fun hi=>(h.far hi).carry fun b hb=>⟨hb,hlow b hb⟩⟩
theorem qR.get {B:Nat}{T:Nat→Prop}{N:Nat}{w:World}{v:Value}{ns:List Nd}{ms:List Rw}(h:qR B T N w v ns ms){i:Nat}{x:Nd}(hx:ns[i]?=some x):∃ r,ms[i]?=some r∧Y5 B T N i w r x:=by
 have hi:i<ns.length:=(List.getElem?_eq_some_iff.1 hx).1;have hr:ms[i]?=some (ms[i]'(by rw[h.len];exact hi)):=by simp[h.len,hi]
 exact ⟨_,hr,h.each i _ x hr hx⟩
theorem qR.get' {B:Nat}{T:Nat→Prop}{N:Nat}{w:World}{v:Value}{ns:List Nd}{ms:List Rw}(h:qR B T N w v ns ms){i:Nat}{r:Rw}(hr:ms[i]?=some r):∃ x,ns[i]?=some x∧Y5 B T N i w r x:=by
 have hi:i<ms.length:=(List.getElem?_eq_some_iff.1 hr).1;have hx:ns[i]?=some (ns[i]'(by rw[←h.len];exact hi)):=by simp[←h.len,hi]
 exact ⟨_,hx,h.each i r _ hr hx⟩
theorem qR.keep {B:Nat}{T:Nat→Prop}{N:Nat}{w w':World}{v:Value}{ns:List Nd}{ms:List Rw}(h:qR B T N w v ns ms)(hsz:w.heap.size≤w'.heap.size)(hlow:∀ b,b<B→w'.heap[b]?=w.heap[b]?)(hA:∀ b,qU B 44 w b→w'.heap[b]?=w.heap[b]?)
 (hI:∀ b,qU B 3 w b→w'.heap[b]?=w.heap[b]?) (hN:∀ b,qU B 42 w b→w'.heap[b]?=w.heap[b]?):qR B T N w' v ns ms :=
 ⟨h.len,qk h.row fun b hb=>hN b (qg h.row hb),fun i r x hr hx=>(h.each i r x hr hx).keep (fun b hb=>hlow b (h.low b hb)) (fun hi b hb=>hA b (qg ((h.each i r x hr hx).own hi) hb)) (fun b hb=>hI b (qg (h.each i r x hr hx).kids hb)),
  h.kids,h.attrs,h.low,Nat.le_trans h.le hsz⟩
theorem qR.later {B:Nat}{T:Nat→Prop}{N:Nat}{w w':World}{v:Value}{ns:List Nd}{ms:List Rw}(h:qR B T N w v ns ms)(hb:Below w.heap.size w w'):qR B T N w' v ns ms :=
 h.keep hb.size (fun b hb'=>hb.block b (Nat.lt_of_lt_of_le hb' h.le)) (fun b hs=>hb.block b hs.lt) (fun b hs=>hb.block b hs.lt) (fun b hs=>hb.block b hs.lt)
theorem qz {w:World}{B B':Nat}{e e':TypeId}{b b':Nat}(h:qU B e w b)(h':qU B' e' w b')(hne:e≠e'):b≠b':=by
 intro hb;subst hb;obtain ⟨_,c,fz,hc⟩:=h;obtain ⟨_,c',fz',hc'⟩:=h';rw[hc]at hc'
 injection hc' with hc'
 injection hc' with _ h4 _
 exact hne h4
theorem qR.snoc {B:Nat}{T:Nat→Prop}{N:Nat}{w w':World}{v v':Value}{ns:List Nd}{ms:List Rw}{r:Rw}{x:Nd}(h:qR B T N w v ns ms)
 (hown:w'.ownsRow B 42 5 v' (ns.length+1) (rawCells ms++[.bool r.text,.string r.s,r.va,.int .i64 r.par,r.vk])) (hg:w.grownBy w' v.ownBlock) (hR:Y5 B T N ns.length w r x) (hN:N≤ns.length) (hk:r.vk.ownBlock=none):qR B T N w' v' (ns++[x]) (ms++[r]):=by
 have hvB:∀ b,v.ownBlock=some b→B≤b:=fun b hb=>(h.row.lt b hb).1
 have keep:∀ {i:Nat} {r:Rw} {x:Nd},Y5 B T N i w r x→Y5 B T N i w' r x:=by
  intro i r x hR;refine hR.keep (fun b hb=>hg.block b (Nat.lt_of_lt_of_le (h.low b hb) h.le) (fun e=>by have:=hvB b e.symm;have:=h.low b hb;omega)) (fun hi b hb=>?_) (fun b hb=>?_)
  · have hs := qg (hR.own hi) hb;exact hg.block b hs.lt (qt h.row hs (by decide))
  · have hs := qg hR.kids hb;exact hg.block b hs.lt (qt h.row hs (by decide))
 have last:∀ {i:Nat} {q:Rw},(ms++[r])[i]?=some q→(i<ms.length∧ms[i]?=some q)∨(i=ms.length∧q=r):=by
  intro i q hq
  rcases Nat.lt_or_ge i ms.length with hi|hi
  · rw[List.getElem?_append_left hi]at hq;exact Or.inl ⟨hi,hq⟩
  · rw[List.getElem?_append_right hi]at hq
    have hz:i-ms.length=0:=by
     rcases Nat.eq_zero_or_pos (i-ms.length) with h'|h'
     · exact h'
     · rw[List.getElem?_eq_none (by simp;omega)]at hq;cases hq
    rw[hz]at hq
    simp at hq
    exact Or.inr ⟨by omega,hq.symm⟩
 refine ⟨by simp[h.len],?_,?_,?_,?_,h.low,Nat.le_trans h.le hg.size⟩
 · rw[Z0,List.length_append];exact hown
 · intro i q y hq hy
   rcases last hq with ⟨hi,hq'⟩|⟨hi,hqr⟩
   · rw[List.getElem?_append_left (by rw[←h.len];exact hi)]at hy
     exact keep (h.each i q y hq' hy)
   · subst hi hqr;rw[h.len,List.getElem?_append_right (nR9 _)]at hy
     simp at hy
     subst hy;rw[h.len];exact keep hR
 · intro i j p q b hne hp hq hb
   rcases last hp with ⟨hi,hp'⟩|⟨hi,hpr⟩
   · rcases last hq with ⟨hj, hq'⟩ | ⟨hj, hqr⟩
     · exact h.kids i j p q b hne hp' hq' hb
     · rw[hqr,hk];exact fun e=>by cases e
   · rw[hpr,hk]at hb;cases hb
 · intro i j p q b hne hiN hjN hp hq hb
   rcases last hp with ⟨hi,hp'⟩|⟨hi,hpr⟩
   · rcases last hq with ⟨hj, hq'⟩ | ⟨hj, hqr⟩
     · exact h.attrs i j p q b hne hiN hjN hp' hq' hb
     · rw[h.len]at hj;omega
   · rw[h.len]at hi;omega
theorem qR.put {B:Nat}{T:Nat→Prop}{N:Nat}{w w1 w2:World}{v:Value}{ns:List Nd}{ms:List Rw}{i:Nat}{r r':Rw}{x x':Nd}(h:qR B T N w v ns ms)(hr:ms[i]?=some r)(hx:ns[i]?=some x)(hsz:w.heap.size≤w1.heap.size)(hsz2:w2.heap.size=w1.heap.size)
 (hkeep:∀ b,b<w.heap.size→r.vk.ownBlock≠some b→(i<N→r.va.ownBlock≠some b)→w1.heap[b]?=w.heap[b]?)
 (hrow:w2.ownsRow B 42 5 v ns.length (rawCells (ms.set i r'))) (hk2:∀ b,v.ownBlock≠some b→w2.heap[b]?=w1.heap[b]?) (hR:Y5 B T N i w1 r' x')
 (hk:∀ b,r'.vk.ownBlock=some b→r.vk.ownBlock=some b∨w.heap.size≤b) (ha:i<N→∀ b,r'.va.ownBlock=some b→r.va.ownBlock=some b∨w.heap.size≤b):qR B T N w2 v (ns.set i x') (ms.set i r'):=by
 have hRi:=h.each i r x hr hx;have hil:i<ns.length:=(List.getElem?_eq_some_iff.1 hx).1;have him:i<ms.length:=by rw[h.len];exact hil
 have vnode:∀ b,v.ownBlock=some b→qU B 42 w b:=fun b hb=>qg h.row hb
 have keepLow:∀ b,b<B→w2.heap[b]?=w.heap[b]?:=fun b hb=>by
  rw[hk2 b (fun e=>by have:=(h.row.lt b e).1;omega)]
  refine hkeep b (Nat.lt_of_lt_of_le hb h.le) (fun e=>?_) (fun hi e=>?_)
  · have:=(qE.lt hRi.kids b e).1;omega
  · have:=((hRi.own hi).lt b e).1;omega
 have new_ne:∀ b,v.ownBlock=some b→b<w.heap.size:=fun b hb=>(vnode b hb).lt
 refine ⟨by simp[h.len],by rw[List.length_set];exact hrow,?_,?_,?_,h.low,?_⟩
 · intro j q y hq hy
   by_cases hj:j=i
   · subst hj;rw[List.getElem?_set_self him]at hq
     rw[List.getElem?_set_self hil]at hy
     injection hq with hq
     injection hy with hy
     subst hq hy;refine hR.keep (fun b hb=>hk2 b (fun e=>by have:=(h.row.lt b e).1;have:=h.low b hb;omega)) (fun hi b hb=>hk2 b (fun e=>?_)) (fun b hb=>hk2 b (fun e=>?_))
     · rcases ha hi b hb with e1 | e1
       · exact qz (qg (hRi.own hi) e1) (vnode b e) (by decide) rfl
       · have:=new_ne b e;omega
     · rcases hk b hb with e1 | e1
       · exact qz (qg hRi.kids e1) (vnode b e) (by decide) rfl
       · have:=new_ne b e;omega
   · rw[List.getElem?_set_ne (fun e => hj e.symm)]at hq hy
     have hq':=h.each j q y hq hy;refine hq'.keep (fun b hb=>keepLow b (h.low b hb)) (fun hjN b hb=>?_) (fun b hb=>?_)
     · have hs := qg (hq'.own hjN) hb;rw[hk2 b (fun e=>qz hs (vnode b e) (by decide) rfl)]
       exact hkeep b hs.lt (fun e=>qz hs (qg hRi.kids e) (by decide) rfl) (fun hi e=>h.attrs i j r q b (fun e=>hj e.symm) hi hjN hr hq e hb)
     · have hs := qg hq'.kids hb;rw[hk2 b (fun e=>qz hs (vnode b e) (by decide) rfl)]
       exact hkeep b hs.lt (fun e=>h.kids i j r q b (fun e=>hj e.symm) hr hq e hb) (fun hi e=>qz hs (qg (hRi.own hi) e) (by decide) rfl)
 · intro j k p q b hne hp hq hb e
   have lt:∀ {m:Nat} {q:Rw},ms[m]?=some q→∀ b,q.vk.ownBlock=some b→b<w.heap.size:=fun hm b hb=>by
    obtain ⟨y,_,hy⟩:=h.get' hm;exact (qE.lt hy.kids b hb).2
   by_cases hj:j=i
   · subst hj;rw[List.getElem?_set_self him]at hp
     injection hp with hp
     subst hp;rw[List.getElem?_set_ne hne]at hq
     rcases hk b hb with e1|e1
     · exact h.kids j k r q b hne hr hq e1 e
     · have:=lt hq b e;omega
   · rw[List.getElem?_set_ne (fun e => hj e.symm)]at hp
     by_cases hki:k=i
     · subst hki;rw[List.getElem?_set_self him]at hq
       injection hq with hq
       subst hq
       rcases hk b e with e1|e1
       · exact h.kids j k p r b hne hp hr hb e1
       · have:=lt hp b hb;omega
     · rw[List.getElem?_set_ne (fun e => hki e.symm)]at hq
       exact h.kids j k p q b hne hp hq hb e
 · intro j k p q b hne hjN hkN hp hq hb e
   have lt:∀ {m:Nat} {q:Rw},m<N→ms[m]?=some q→∀ b,q.va.ownBlock=some b→b<w.heap.size:=fun hmN hm b hb=>by
    obtain ⟨y,_,hy⟩:=h.get' hm;exact ((hy.own hmN).lt b hb).2
   by_cases hj:j=i
   · subst hj;rw[List.getElem?_set_self him]at hp
     injection hp with hp
     subst hp;rw[List.getElem?_set_ne hne]at hq
     rcases ha hjN b hb with e1|e1
     · exact h.attrs j k r q b hne hjN hkN hr hq e1 e
     · have:=lt hkN hq b e;omega
   · rw[List.getElem?_set_ne (fun e => hj e.symm)]at hp
     by_cases hki:k=i
     · subst hki;rw[List.getElem?_set_self him]at hq
       injection hq with hq
       subst hq
       rcases ha hkN b e with e1|e1
       · exact h.attrs j k p r b hne hjN hkN hp hr hb e1
       · have:=lt hjN hp b hb;omega
     · rw[List.getElem?_set_ne (fun e => hki e.symm)]at hq
       exact h.attrs j k p q b hne hjN hkN hp hq hb e
 · rw[hsz2];exact Nat.le_trans h.le hsz
section
attribute [local go_sem] qd
theorem KD (k:Int)(w:World):Calls Tryz.prog 108 #[.int .i64 k] w fun e w'=>e=.returned (.bool (ze k))∧w'=w:=by
 have HP:Hid (ze k=(decide (k=3)||decide (k=4)||decide (k=5)||decide (k=6))):=rfl
 by_cases h3:k=3
 · have HE : Hid (ze k = true) := by show _ = _;rw[HP.out];simp[h3]
   subst h3
   go_enter Tryz.func108,Tryz.ntmps108
   go_wp2;go_ret;exact ⟨by rw[HE.out];rfl,rfl⟩
 by_cases h4:k=4
 · have HE : Hid (ze k = true) := by show _ = _;rw[HP.out];simp[h4]
   subst h4
   go_enter Tryz.func108,Tryz.ntmps108
   go_wp2;go_ret;exact ⟨by rw[HE.out];rfl,rfl⟩
 by_cases h5:k=5
 · have HE : Hid (ze k = true) := by show _ = _;rw[HP.out];simp[h5]
   subst h5
   go_enter Tryz.func108,Tryz.ntmps108
   go_wp2;go_ret;exact ⟨by rw[HE.out];rfl,rfl⟩
 by_cases h6:k=6
 · have HE : Hid (ze k = true) := by show _ = _;rw[HP.out];simp[h6]
   subst h6
   go_enter Tryz.func108,Tryz.ntmps108
   go_wp2;go_ret;exact ⟨by rw[HE.out];rfl,rfl⟩
 have HE:Hid (ze k=false):=by show _=_;rw[HP.out];simp[h3,h4,h5,h6]
 have b3:(k==3)=false:=by simpa using h3
 have b4:(k==4)=false:=by simpa using h4
 have b5:(k==5)=false:=by simpa using h5
 have b6:(k==6)=false:=by simpa using h6
 clear h3 h4 h5 h6 HP
 go_enter Tryz.func108,Tryz.ntmps108
 go_wp2;go_ret;exact ⟨by rw[HE.out];rfl,rfl⟩
theorem qdI (n:Nat):((n:Int)==0)=decide (n=0):=by
 by_cases h:n=0<;>simp[h]
theorem qar (a:ByteArray):a.toList.isEmpty=decide (a=⟨#[]⟩):=by
 rw[ByteArray.toList_eq];obtain ⟨d⟩:=a
 by_cases h:d=#[]
 · subst h;simp
 · have h2 : ¬ (⟨d⟩ : ByteArray) = ⟨#[]⟩ := by intro e;injection e with e;exact h e
   simp[h,h2]
theorem ZF (S:Nat→Prop)(n:Nat)(ca:Option Addr)(cc:Nat)(o:Opn)(w:World)(hC:qa S w n (.slice ca o.content.length cc) o.content)(hx:TextsN n o.content) :
 Calls Tryz.prog 105 #[.agg #[.int .i64 o.kind,.int .i64 o.target,.slice ca o.content.length cc,.string o.name,.string o.s]] w fun e w'=>e=.returned (.bool (yr o))∧Below w.heap.size w w':=by
 have HP:Hid (qef o.kind=(decide (o.kind=1)||decide (o.kind=2)||decide (o.kind=3)||decide (o.kind=4)||decide (o.kind=6))):=rfl
 have HC:Hid (∀ W,qa S W n (.slice ca o.content.length cc) o.content→Calls Tryz.prog 32 #[.slice ca o.content.length cc] W fun e w'=>e=.returned (.bool (qG o.content))∧Below W.heap.size W w'):=fun W hW=>xY S n _ _ W hW hx
 have HO:Hid (yr o=if qef o.kind then qG o.content else decide (o.content.length=0)):=rfl
 obtain ⟨k,tg,ct,nm,s⟩:=o;dsimp only at *
 by_cases h1:k=1
 · have HE : Hid (yr ⟨k, tg, ct, nm, s⟩ = qG ct) := by show _ = _;rw[HO.out, HP.out];simp[h1]
   clear HP HO;subst h1;have hb:=Below.alloc1 w (.cells #[.int .i64 1,.int .i64 tg,.slice ca ct.length cc,.string nm,.string s] 94)
   go_enter Tryz.func105,Tryz.ntmps105
   go_wp2_with fail;refine (HC.out _ (hC.later hb)).mono ?_;rintro e w1 ⟨rfl,hb1⟩;go_wp2_with fail;go_ret;exact ⟨by rw[HE.out];rfl,hb.trans (hb1.mono hb.size)⟩
 by_cases h2:k=2
 · have HE : Hid (yr ⟨k, tg, ct, nm, s⟩ = qG ct) := by show _ = _;rw[HO.out, HP.out];simp[h2]
   clear HP HO;subst h2;have hb:=Below.alloc1 w (.cells #[.int .i64 2,.int .i64 tg,.slice ca ct.length cc,.string nm,.string s] 94)
   go_enter Tryz.func105,Tryz.ntmps105
   go_wp2_with fail;refine (HC.out _ (hC.later hb)).mono ?_;rintro e w1 ⟨rfl,hb1⟩;go_wp2_with fail;go_ret;exact ⟨by rw[HE.out];rfl,hb.trans (hb1.mono hb.size)⟩
 by_cases h3:k=3
 · have HE : Hid (yr ⟨k, tg, ct, nm, s⟩ = qG ct) := by show _ = _;rw[HO.out, HP.out];simp[h3]
   clear HP HO;subst h3;have hb:=Below.alloc1 w (.cells #[.int .i64 3,.int .i64 tg,.slice ca ct.length cc,.string nm,.string s] 94)
   go_enter Tryz.func105,Tryz.ntmps105
   go_wp2_with fail;refine (HC.out _ (hC.later hb)).mono ?_;rintro e w1 ⟨rfl,hb1⟩;go_wp2_with fail;go_ret;exact ⟨by rw[HE.out];rfl,hb.trans (hb1.mono hb.size)⟩
 by_cases h4:k=4
 · have HE : Hid (yr ⟨k, tg, ct, nm, s⟩ = qG ct) := by show _ = _;rw[HO.out, HP.out];simp[h4]
   clear HP HO;subst h4;have hb:=Below.alloc1 w (.cells #[.int .i64 4,.int .i64 tg,.slice ca ct.length cc,.string nm,.string s] 94)
   go_enter Tryz.func105,Tryz.ntmps105
   go_wp2_with fail;refine (HC.out _ (hC.later hb)).mono ?_;rintro e w1 ⟨rfl,hb1⟩;go_wp2_with fail;go_ret;exact ⟨by rw[HE.out];rfl,hb.trans (hb1.mono hb.size)⟩
 by_cases h6:k=6
 · have HE : Hid (yr ⟨k, tg, ct, nm, s⟩ = qG ct) := by show _ = _;rw[HO.out, HP.out];simp[h6]
   clear HP HO;subst h6;have hb:=Below.alloc1 w (.cells #[.int .i64 6,.int .i64 tg,.slice ca ct.length cc,.string nm,.string s] 94)
   go_enter Tryz.func105,Tryz.ntmps105
   go_wp2_with fail;refine (HC.out _ (hC.later hb)).mono ?_;rintro e w1 ⟨rfl,hb1⟩;go_wp2_with fail;go_ret;exact ⟨by rw[HE.out];rfl,hb.trans (hb1.mono hb.size)⟩
 have HE:Hid (yr ⟨k,tg,ct,nm,s⟩=decide (ct.length=0)):=by show _=_;rw[HO.out,HP.out];simp[h1,h2,h3,h4,h6]
 have b1:(k==1)=false:=by simpa using h1
 have b2:(k==2)=false:=by simpa using h2
 have b3:(k==3)=false:=by simpa using h3
 have b4:(k==4)=false:=by simpa using h4
 have b6:(k==6)=false:=by simpa using h6
 clear HP HO h1 h2 h3 h4 h6;have hb:=Below.alloc1 w (.cells #[.int .i64 k,.int .i64 tg,.slice ca ct.length cc,.string nm,.string s] 94)
 go_enter Tryz.func105,Tryz.ntmps105
 go_wp2_with fail;go_ret;exact ⟨by rw[HE.out,←qdI];rfl,hb⟩
theorem Jo (vc:Value)(o:Opn)(w:World)(hx:o.name.size≤maxLen) :
 Calls Tryz.prog 106 #[.agg #[.int .i64 o.kind,.int .i64 o.target,vc,.string o.name,.string o.s]] w fun e w'=>e=.returned (.bool (jm o))∧Below w.heap.size w w':=by
 have HP:Hid (qeg o.kind=(decide (o.kind=8)||decide (o.kind=9)||decide (o.kind=10))):=rfl
 have HC:Hid (∀ W,Calls Tryz.prog 126 #[.string o.name] W fun e w'=>e=.returned (.bool (za o.name))∧w'=W):=fun W=>yg _ W hx
 have HO:Hid (jm o=if qeg o.kind then za o.name else decide (o.name=⟨#[]⟩)):=rfl
 obtain ⟨k,tg,ct,nm,s⟩:=o;dsimp only at *
 by_cases h8:k=8
 · have HE : Hid (jm ⟨k, tg, ct, nm, s⟩ = za nm) := by show _ = _;rw[HO.out, HP.out];simp[h8]
   clear HP HO;subst h8;have hb:=Below.alloc1 w (.cells #[.int .i64 8,.int .i64 tg,vc,.string nm,.string s] 94)
   go_enter Tryz.func106,Tryz.ntmps106
   go_wp2_with fail;refine (HC.out _).mono ?_;rintro e w1 ⟨rfl,rfl⟩;go_wp2_with fail;go_ret;exact ⟨by rw[HE.out];rfl,hb⟩
 by_cases h9:k=9
 · have HE : Hid (jm ⟨k, tg, ct, nm, s⟩ = za nm) := by show _ = _;rw[HO.out, HP.out];simp[h9]
   clear HP HO;subst h9;have hb:=Below.alloc1 w (.cells #[.int .i64 9,.int .i64 tg,vc,.string nm,.string s] 94)
   go_enter Tryz.func106,Tryz.ntmps106
   go_wp2_with fail;refine (HC.out _).mono ?_;rintro e w1 ⟨rfl,rfl⟩;go_wp2_with fail;go_ret;exact ⟨by rw[HE.out];rfl,hb⟩
 by_cases h10:k=10
 · have HE : Hid (jm ⟨k, tg, ct, nm, s⟩ = za nm) := by show _ = _;rw[HO.out, HP.out];simp[h10]
   clear HP HO;subst h10;have hb:=Below.alloc1 w (.cells #[.int .i64 10,.int .i64 tg,vc,.string nm,.string s] 94)
   go_enter Tryz.func106,Tryz.ntmps106
   go_wp2_with fail;refine (HC.out _).mono ?_;rintro e w1 ⟨rfl,rfl⟩;go_wp2_with fail;go_ret;exact ⟨by rw[HE.out];rfl,hb⟩
 have HE:Hid (jm ⟨k,tg,ct,nm,s⟩=decide (nm=⟨#[]⟩)):=by show _=_;rw[HO.out,HP.out];simp[h8,h9,h10]
 have b8:(k==8)=false:=by simpa using h8
 have b9:(k==9)=false:=by simpa using h9
 have b10:(k==10)=false:=by simpa using h10
 clear HP HO h8 h9 h10;have hb:=Below.alloc1 w (.cells #[.int .i64 k,.int .i64 tg,vc,.string nm,.string s] 94)
 go_enter Tryz.func106,Tryz.ntmps106
 go_wp2_with fail;go_ret;exact ⟨by rw[HE.out,←qar];rfl,hb⟩
theorem VO (vc:Value)(o:Opn)(w:World)(hx:o.s.size≤maxLen) :
 Calls Tryz.prog 107 #[.agg #[.int .i64 o.kind,.int .i64 o.target,vc,.string o.name,.string o.s]] w fun e w'=>e=.returned (.bool (jR o))∧Below w.heap.size w w':=by
 have HP:Hid (qeh o.kind=(decide (o.kind=7)||decide (o.kind=9))):=rfl
 have HC:Hid (∀ W,Calls Tryz.prog 125 #[.string o.s] W fun e w'=>e=.returned (.bool (zo o.s))∧w'=W):=fun W=>zV _ W hx
 have HO:Hid (jR o=if qeh o.kind then zo o.s else decide (o.s=⟨#[]⟩)):=rfl
 obtain ⟨k,tg,ct,nm,s⟩:=o;dsimp only at *
 by_cases h7:k=7
 · have HE : Hid (jR ⟨k, tg, ct, nm, s⟩ = zo s) := by show _ = _;rw[HO.out, HP.out];simp[h7]
   clear HP HO;subst h7;have hb:=Below.alloc1 w (.cells #[.int .i64 7,.int .i64 tg,vc,.string nm,.string s] 94)
   go_enter Tryz.func107,Tryz.ntmps107
   go_wp2_with fail;refine (HC.out _).mono ?_;rintro e w1 ⟨rfl,rfl⟩;go_wp2_with fail;go_ret;exact ⟨by rw[HE.out];rfl,hb⟩
 by_cases h9:k=9
 · have HE : Hid (jR ⟨k, tg, ct, nm, s⟩ = zo s) := by show _ = _;rw[HO.out, HP.out];simp[h9]
   clear HP HO;subst h9;have hb:=Below.alloc1 w (.cells #[.int .i64 9,.int .i64 tg,vc,.string nm,.string s] 94)
   go_enter Tryz.func107,Tryz.ntmps107
   go_wp2_with fail;refine (HC.out _).mono ?_;rintro e w1 ⟨rfl,rfl⟩;go_wp2_with fail;go_ret;exact ⟨by rw[HE.out];rfl,hb⟩
 have HE:Hid (jR ⟨k,tg,ct,nm,s⟩=decide (s=⟨#[]⟩)):=by show _=_;rw[HO.out,HP.out];simp[h7,h9]
 have b7:(k==7)=false:=by simpa using h7
 have b9:(k==9)=false:=by simpa using h9
 clear HP HO h7 h9;have hb:=Below.alloc1 w (.cells #[.int .i64 k,.int .i64 tg,vc,.string nm,.string s] 94)
 go_enter Tryz.func107,Tryz.ntmps107
 go_wp2_with fail;go_ret;exact ⟨by rw[HE.out,←qar];rfl,hb⟩
theorem zQ {w w1:World}{cs:Array Value}{T:TypeId}(h:Below (w.alloc (.cells cs T)).heap.size (w.alloc (.cells cs T)) w1):w1.heap[w.heap.size]?=some (.cells cs T (0,0)):=by
 rw[h.block _ (by simp)];show (w.heap.push _)[w.heap.size]?=_;simp
theorem yJ {W:World}{b:Nat}{T:TypeId}{c0 c1 c2 c3 c4:Value}(h:W.heap[b]?=some (.cells #[c0,c1,c2,c3,c4] T (0,0))) :
 W.cell? ⟨b,0,none⟩=some c0∧W.cell? ⟨b,1,none⟩=some c1∧W.cell? ⟨b,2,none⟩=some c2∧W.cell? ⟨b,3,none⟩=some c3∧W.cell? ⟨b,4,none⟩=some c4:=by
 simp[World.cell?,h]
set_option maxHeartbeats 4000000 in
theorem Jx (S:Nat→Prop)(n:Nat)(v:Value)(ca:Option Addr)(cc:Nat)(ns:List Nd)(o:Opn)(w:World)(hN:qu S w v ns)(hC:qa S w n (.slice ca o.content.length cc) o.content)(hx:TextsN n o.content)(hn:o.name.size≤maxLen)(hs:o.s.size≤maxLen) :
 Calls Tryz.prog 60 #[v,.agg #[.int .i64 o.kind,.int .i64 o.target,.slice ca o.content.length cc,.string o.name,.string o.s]] w fun e w'=>e=.returned (.int .i64 (qP ns o))∧Below w.heap.size w w':=by
 have HC:Hid (∀ W,Below w.heap.size w W→Calls Tryz.prog 105 #[.agg #[.int .i64 o.kind,.int .i64 o.target,.slice ca o.content.length cc,.string o.name,.string o.s]] W fun e w'=>e=.returned (.bool (yr o))∧Below W.heap.size W w'):=fun W hW=>ZF S n ca cc o W (hC.later hW) hx
 have HM:Hid (∀ W,Calls Tryz.prog 106 #[.agg #[.int .i64 o.kind,.int .i64 o.target,.slice ca o.content.length cc,.string o.name,.string o.s]] W fun e w'=>e=.returned (.bool (jm o))∧Below W.heap.size W w'):=fun W=>Jo _ o W hn
 have HT:Hid (∀ W,Calls Tryz.prog 107 #[.agg #[.int .i64 o.kind,.int .i64 o.target,.slice ca o.content.length cc,.string o.name,.string o.s]] W fun e w'=>e=.returned (.bool (jR o))∧Below W.heap.size W w'):=fun W=>VO _ o W hs
 have HW:Hid (qP ns o=if decide (o.kind<1)||decide (10<o.kind) then 4
  else if decide (o.target<0)||decide ((ns.length:Int)≤o.target) then 3
  else if !(yr o)||!(jm o)||!(jR o) then 1
  else if decide (o.target=0)&&ze o.kind then 6
  else if Qj ns o.target&&!(ze o.kind)&&!(decide (o.kind=7)) then 4
  else 0):=rfl
 have HX:Hid (∀ i:Nat,Qj ns (i:Int)=match ns[i]? with
  | some x=>x.text
  | none=>false):=fun i=>rfl
 have hb:=Below.alloc1 w (.cells #[.int .i64 o.kind,.int .i64 o.target,.slice ca o.content.length cc,.string o.name,.string o.s] 94);have HN:Hid (qu S w v ns):=hN;obtain ⟨na,nc,rfl,hnl,hnc,hnodes⟩:=hN;clear hC hx hn hs hnodes
 generalize yr o=bc at *
 generalize jm o=bn at *
 generalize jR o=bt at *
 generalize qP ns o=R at *
 obtain ⟨k,tg,ct,nm,s⟩:=o;dsimp only at *
 by_cases hk1:k<1
 · have HR : Hid (R = 4) := by show _ = _;rw[HW.out];simp[hk1]
   clear HW
   go_enter Tryz.func60,Tryz.ntmps60
   go_wp2_with fail;go_ret;exact ⟨by rw[HR.out];rfl,hb⟩
 by_cases hk2:10<k
 · have HR : Hid (R = 4) := by show _ = _;rw[HW.out];simp[hk2]
   clear HW
   go_enter Tryz.func60,Tryz.ntmps60
   go_wp2_with fail;go_ret;exact ⟨by rw[HR.out];rfl,hb⟩
 by_cases ht1:tg<0
 · have HR : Hid (R = 3) := by show _ = _;rw[HW.out];simp[hk1, hk2, ht1]
   clear HW
   go_enter Tryz.func60,Tryz.ntmps60
   go_wp2_with fail;go_ret;exact ⟨by rw[HR.out];rfl,hb⟩
 by_cases ht2:(ns.length:Int)≤tg
 · have HR : Hid (R = 3) := by show _ = _;rw[HW.out];simp[hk1, hk2, ht2]
   clear HW
   go_enter Tryz.func60,Tryz.ntmps60
   go_wp2_with fail;go_ret;exact ⟨by rw[HR.out];rfl,hb⟩
 have HR:Hid (R=if !bc||!bn||!bt then 1 else if decide (tg=0)&&ze k then 6 else if Qj ns tg&&!(ze k)&&!(decide (k=7)) then 4 else 0):=by show _=_;rw[HW.out];simp[hk1,hk2,ht1,ht2]
 clear HW;cases bc with
 | false =>
   go_enter Tryz.func60,Tryz.ntmps60
   go_wp2_with fail;refine (HC.out _ hb).mono ?_;rintro e w1 ⟨rfl,hb1⟩;have hB1:=hb.trans (hb1.mono hb.size);have hz1:w.heap.size<w1.heap.size:=by have:=hb1.size;simp at this;omega
   have HB1:Hid (w1.heap[w.heap.size]?=some (.cells #[.int .i64 k,.int .i64 tg,.slice ca ct.length cc,.string nm,.string s] 94 (0,0))):=zQ hb1;obtain ⟨x10,x11,x12,x13,x14⟩:=yJ HB1.out;go_wp2_with fail;go_ret;exact ⟨by rw[HR.out];rfl,hB1⟩
 | true =>
 cases bn with
 | false =>
   go_enter Tryz.func60,Tryz.ntmps60
   go_wp2_with fail;refine (HC.out _ hb).mono ?_;rintro e w1 ⟨rfl,hb1⟩;have hB1:=hb.trans (hb1.mono hb.size);have hz1:w.heap.size<w1.heap.size:=by have:=hb1.size;simp at this;omega
   have HB1:Hid (w1.heap[w.heap.size]?=some (.cells #[.int .i64 k,.int .i64 tg,.slice ca ct.length cc,.string nm,.string s] 94 (0,0))):=zQ hb1;obtain ⟨x10,x11,x12,x13,x14⟩:=yJ HB1.out;go_wp2_with fail;refine (HM.out _).mono ?_;rintro e w2 ⟨rfl,hb2⟩;have hB2:=hB1.trans (hb2.mono (by omega))
   have hz2:w.heap.size<w2.heap.size:=by have:=hb2.size;omega
   have HB2:Hid (w2.heap[w.heap.size]?=some (.cells #[.int .i64 k,.int .i64 tg,.slice ca ct.length cc,.string nm,.string s] 94 (0,0))):=(hb2.block _ (by omega)).trans HB1.out
   clear x10 x11 x12 x13 x14;obtain ⟨x20,x21,x22,x23,x24⟩:=yJ HB2.out;go_wp2_with fail;go_ret;exact ⟨by rw[HR.out];rfl,hB2⟩
 | true =>
 cases bt with
 | false =>
   go_enter Tryz.func60,Tryz.ntmps60
   go_wp2_with fail;refine (HC.out _ hb).mono ?_;rintro e w1 ⟨rfl,hb1⟩;have hB1:=hb.trans (hb1.mono hb.size);have hz1:w.heap.size<w1.heap.size:=by have:=hb1.size;simp at this;omega
   have HB1:Hid (w1.heap[w.heap.size]?=some (.cells #[.int .i64 k,.int .i64 tg,.slice ca ct.length cc,.string nm,.string s] 94 (0,0))):=zQ hb1;obtain ⟨x10,x11,x12,x13,x14⟩:=yJ HB1.out;go_wp2_with fail;refine (HM.out _).mono ?_;rintro e w2 ⟨rfl,hb2⟩;have hB2:=hB1.trans (hb2.mono (by omega))
   have hz2:w.heap.size<w2.heap.size:=by have:=hb2.size;omega
   have HB2:Hid (w2.heap[w.heap.size]?=some (.cells #[.int .i64 k,.int .i64 tg,.slice ca ct.length cc,.string nm,.string s] 94 (0,0))):=(hb2.block _ (by omega)).trans HB1.out
   clear x10 x11 x12 x13 x14;obtain ⟨x20,x21,x22,x23,x24⟩:=yJ HB2.out;go_wp2_with fail;refine (HT.out _).mono ?_;rintro e w3 ⟨rfl,hb3⟩;have hB3:=hB2.trans (hb3.mono (by omega))
   have hz3:w.heap.size<w3.heap.size:=by have:=hb3.size;omega
   have HB3:Hid (w3.heap[w.heap.size]?=some (.cells #[.int .i64 k,.int .i64 tg,.slice ca ct.length cc,.string nm,.string s] 94 (0,0))):=(hb3.block _ (by omega)).trans HB2.out
   clear x20 x21 x22 x23 x24;obtain ⟨x30,x31,x32,x33,x34⟩:=yJ HB3.out;go_wp2_with fail;go_ret;exact ⟨by rw[HR.out];rfl,hB3⟩
 | true =>
 have HR2:Hid (R=if decide (tg=0)&&ze k then 6 else if Qj ns tg&&!(ze k)&&!(decide (k=7)) then 4 else 0):=by show _=_;rw[HR.out];simp
 clear HR;have HP:Hid (∀ W,Calls Tryz.prog 108 #[.int .i64 k] W fun e w'=>e=.returned (.bool (ze k))∧w'=W):=fun W=>KD k W
 by_cases h0:tg=0
 · subst h0;obtain ⟨x,hxi⟩:∃ x,ns[0]?=some x:=⟨ns[0]'(by omega),by simp⟩
   have HR3:Hid (R=if ze k then 6 else if x.text&&!(ze k)&&!(decide (k=7)) then 4 else 0):=by
    show _=_
    have e:Qj ns 0=x.text:=by rw[show (0:Int)=((0:Nat):Int) from rfl,HX.out 0,hxi]
    rw[HR2.out,e];simp
   obtain ⟨b,of,cap,va,vk,hv,_,_,hSb,hbw,c0,c1,c2,c3,c4,hAt,hKi⟩:=HN.out.at hxi
   clear HR2 HX HN c1 c2 c3 c4 hAt hKi hSb hxi
   injection hv with hv1 _ hv2
   subst hv1 hv2;have hL0:¬ ns.length=0:=by omega
   generalize ns.length=L at *
   generalize ze k=pb at *
   cases pb with
   | true =>
     go_enter Tryz.func60,Tryz.ntmps60
     go_wp2_with fail;refine (HC.out _ hb).mono ?_;rintro e w1 ⟨rfl,hb1⟩;have hB1:=hb.trans (hb1.mono hb.size);have hz1:w.heap.size<w1.heap.size:=by have:=hb1.size;simp at this;omega
     have HB1:Hid (w1.heap[w.heap.size]?=some (.cells #[.int .i64 k,.int .i64 0,.slice ca ct.length cc,.string nm,.string s] 94 (0,0))):=zQ hb1;obtain ⟨x10,x11,x12,x13,x14⟩:=yJ HB1.out;go_wp2_with fail;refine (HM.out _).mono ?_;rintro e w2 ⟨rfl,hb2⟩;have hB2:=hB1.trans (hb2.mono (by omega))
     have hz2:w.heap.size<w2.heap.size:=by have:=hb2.size;omega
     have HB2:Hid (w2.heap[w.heap.size]?=some (.cells #[.int .i64 k,.int .i64 0,.slice ca ct.length cc,.string nm,.string s] 94 (0,0))):=(hb2.block _ (by omega)).trans HB1.out
     clear x10 x11 x12 x13 x14;obtain ⟨x20,x21,x22,x23,x24⟩:=yJ HB2.out;go_wp2_with fail;refine (HT.out _).mono ?_;rintro e w3 ⟨rfl,hb3⟩;have hB3:=hB2.trans (hb3.mono (by omega))
     have hz3:w.heap.size<w3.heap.size:=by have:=hb3.size;omega
     have HB3:Hid (w3.heap[w.heap.size]?=some (.cells #[.int .i64 k,.int .i64 0,.slice ca ct.length cc,.string nm,.string s] 94 (0,0))):=(hb3.block _ (by omega)).trans HB2.out
     clear x20 x21 x22 x23 x24;obtain ⟨x30,x31,x32,x33,x34⟩:=yJ HB3.out;go_wp2_with fail;refine (HP.out _).mono ?_;rintro e w4 ⟨rfl,rfl⟩;go_wp2_with fail;go_ret;exact ⟨by rw[HR3.out];rfl,hB3⟩
   | false =>
     simp only[Nat.zero_mul,Nat.add_zero]at c0
     have d0:Hid (∀ W,Below w.heap.size w W→W.cell? ⟨b,of,none⟩=some (.bool x.text)):=fun W hW=>(World.cell?_of_block (a:=⟨b,of,none⟩) (hW.block b hbw)).trans c0
     clear c0
     generalize x.text=tx at *
     cases tx with
     | false =>
       go_enter Tryz.func60,Tryz.ntmps60
       go_wp2_with fail;refine (HC.out _ hb).mono ?_;rintro e w1 ⟨rfl,hb1⟩;have hB1:=hb.trans (hb1.mono hb.size);have hz1:w.heap.size<w1.heap.size:=by have:=hb1.size;simp at this;omega
       have HB1:Hid (w1.heap[w.heap.size]?=some (.cells #[.int .i64 k,.int .i64 0,.slice ca ct.length cc,.string nm,.string s] 94 (0,0))):=zQ hb1;obtain ⟨x10,x11,x12,x13,x14⟩:=yJ HB1.out;go_wp2_with fail;refine (HM.out _).mono ?_;rintro e w2 ⟨rfl,hb2⟩;have hB2:=hB1.trans (hb2.mono (by omega))
       have hz2:w.heap.size<w2.heap.size:=by have:=hb2.size;omega
       have HB2:Hid (w2.heap[w.heap.size]?=some (.cells #[.int .i64 k,.int .i64 0,.slice ca ct.length cc,.string nm,.string s] 94 (0,0))):=(hb2.block _ (by omega)).trans HB1.out
       clear x10 x11 x12 x13 x14;obtain ⟨x20,x21,x22,x23,x24⟩:=yJ HB2.out;go_wp2_with fail;refine (HT.out _).mono ?_;rintro e w3 ⟨rfl,hb3⟩;have hB3:=hB2.trans (hb3.mono (by omega))
       have hz3:w.heap.size<w3.heap.size:=by have:=hb3.size;omega
       have HB3:Hid (w3.heap[w.heap.size]?=some (.cells #[.int .i64 k,.int .i64 0,.slice ca ct.length cc,.string nm,.string s] 94 (0,0))):=(hb3.block _ (by omega)).trans HB2.out
       clear x20 x21 x22 x23 x24;obtain ⟨x30,x31,x32,x33,x34⟩:=yJ HB3.out;go_wp2_with fail;refine (HP.out _).mono ?_;rintro e w4 ⟨rfl,rfl⟩;have e0:=d0.out _ hB3;go_wp2_with fail;go_ret;exact ⟨by rw[HR3.out];rfl,hB3⟩
     | true =>
       by_cases h7:k=7
       · subst h7
         go_enter Tryz.func60,Tryz.ntmps60
         go_wp2_with fail;refine (HC.out _ hb).mono ?_;rintro e w1 ⟨rfl,hb1⟩;have hB1:=hb.trans (hb1.mono hb.size);have hz1:w.heap.size<w1.heap.size:=by have:=hb1.size;simp at this;omega
         have HB1:Hid (w1.heap[w.heap.size]?=some (.cells #[.int .i64 7,.int .i64 0,.slice ca ct.length cc,.string nm,.string s] 94 (0,0))):=zQ hb1;obtain ⟨x10,x11,x12,x13,x14⟩:=yJ HB1.out;go_wp2_with fail;refine (HM.out _).mono ?_;rintro e w2 ⟨rfl,hb2⟩;have hB2:=hB1.trans (hb2.mono (by omega))
         have hz2:w.heap.size<w2.heap.size:=by have:=hb2.size;omega
         have HB2:Hid (w2.heap[w.heap.size]?=some (.cells #[.int .i64 7,.int .i64 0,.slice ca ct.length cc,.string nm,.string s] 94 (0,0))):=(hb2.block _ (by omega)).trans HB1.out
         clear x10 x11 x12 x13 x14;obtain ⟨x20,x21,x22,x23,x24⟩:=yJ HB2.out;go_wp2_with fail;refine (HT.out _).mono ?_;rintro e w3 ⟨rfl,hb3⟩;have hB3:=hB2.trans (hb3.mono (by omega))
         have hz3:w.heap.size<w3.heap.size:=by have:=hb3.size;omega
         have HB3:Hid (w3.heap[w.heap.size]?=some (.cells #[.int .i64 7,.int .i64 0,.slice ca ct.length cc,.string nm,.string s] 94 (0,0))):=(hb3.block _ (by omega)).trans HB2.out
         clear x20 x21 x22 x23 x24;obtain ⟨x30,x31,x32,x33,x34⟩:=yJ HB3.out;go_wp2_with fail;refine (HP.out _).mono ?_;rintro e w4 ⟨rfl,rfl⟩;have e0:=d0.out _ hB3;go_wp2_with fail;refine (HP.out _).mono ?_;rintro e w5 ⟨rfl,rfl⟩;go_wp2_with fail;go_ret;exact ⟨by rw[HR3.out];rfl,hB3⟩
       · have HR4 : Hid (R = 4) := by show _ = _;rw[HR3.out];simp[h7]
         have b7:(k==7)=false:=by simpa using h7
         clear HR3 h7
         go_enter Tryz.func60,Tryz.ntmps60
         go_wp2_with fail;refine (HC.out _ hb).mono ?_;rintro e w1 ⟨rfl,hb1⟩;have hB1:=hb.trans (hb1.mono hb.size);have hz1:w.heap.size<w1.heap.size:=by have:=hb1.size;simp at this;omega
         have HB1:Hid (w1.heap[w.heap.size]?=some (.cells #[.int .i64 k,.int .i64 0,.slice ca ct.length cc,.string nm,.string s] 94 (0,0))):=zQ hb1;obtain ⟨x10,x11,x12,x13,x14⟩:=yJ HB1.out;go_wp2_with fail;refine (HM.out _).mono ?_;rintro e w2 ⟨rfl,hb2⟩;have hB2:=hB1.trans (hb2.mono (by omega))
         have hz2:w.heap.size<w2.heap.size:=by have:=hb2.size;omega
         have HB2:Hid (w2.heap[w.heap.size]?=some (.cells #[.int .i64 k,.int .i64 0,.slice ca ct.length cc,.string nm,.string s] 94 (0,0))):=(hb2.block _ (by omega)).trans HB1.out
         clear x10 x11 x12 x13 x14;obtain ⟨x20,x21,x22,x23,x24⟩:=yJ HB2.out;go_wp2_with fail;refine (HT.out _).mono ?_;rintro e w3 ⟨rfl,hb3⟩;have hB3:=hB2.trans (hb3.mono (by omega))
         have hz3:w.heap.size<w3.heap.size:=by have:=hb3.size;omega
         have HB3:Hid (w3.heap[w.heap.size]?=some (.cells #[.int .i64 k,.int .i64 0,.slice ca ct.length cc,.string nm,.string s] 94 (0,0))):=(hb3.block _ (by omega)).trans HB2.out
         clear x20 x21 x22 x23 x24;obtain ⟨x30,x31,x32,x33,x34⟩:=yJ HB3.out;go_wp2_with fail;refine (HP.out _).mono ?_;rintro e w4 ⟨rfl,rfl⟩;have e0:=d0.out _ hB3;go_wp2_with fail;refine (HP.out _).mono ?_;rintro e w5 ⟨rfl,rfl⟩;go_wp2_with fail;go_ret;exact ⟨by rw[HR4.out];rfl,hB3⟩
 · obtain ⟨i, rfl⟩ : ∃ i : Nat, tg = (i : Int) := ⟨tg.toNat, by omega⟩
   have hil:i<ns.length:=by omega
   obtain ⟨x,hxi⟩:∃ x,ns[i]?=some x:=⟨ns[i],by simp[hil]⟩
   have HR3:Hid (R=if x.text&&!(ze k)&&!(decide (k=7)) then 4 else 0):=by
    show _=_
    rw[HR2.out,HX.out i,hxi,decide_eq_false h0];simp
   obtain ⟨b,of,cap,va,vk,hv,_,_,hSb,hbw,c0,c1,c2,c3,c4,hAt,hKi⟩:=HN.out.at hxi
   clear HR2 HX HN c1 c2 c3 c4 hAt hKi hSb hxi
   injection hv with hv1 _ hv2
   subst hv1 hv2;have d0:Hid (∀ W,Below w.heap.size w W→W.cell? ⟨b,of+i*5,none⟩=some (.bool x.text)):=fun W hW=>(World.cell?_of_block (a:=⟨b,of+i*5,none⟩) (hW.block b hbw)).trans c0
   have hi0:((i:Int)==0)=false:=by simpa using h0
   clear c0 h0
   generalize ns.length=L at *
   generalize ze k=pb at *
   generalize x.text=tx at *
   cases tx with
   | false =>
     go_enter Tryz.func60,Tryz.ntmps60
     go_wp2_with fail;refine (HC.out _ hb).mono ?_;rintro e w1 ⟨rfl,hb1⟩;have hB1:=hb.trans (hb1.mono hb.size);have hz1:w.heap.size<w1.heap.size:=by have:=hb1.size;simp at this;omega
     have HB1:Hid (w1.heap[w.heap.size]?=some (.cells #[.int .i64 k,.int .i64 (i:Int),.slice ca ct.length cc,.string nm,.string s] 94 (0,0))):=zQ hb1;obtain ⟨x10,x11,x12,x13,x14⟩:=yJ HB1.out;go_wp2_with fail;refine (HM.out _).mono ?_;rintro e w2 ⟨rfl,hb2⟩;have hB2:=hB1.trans (hb2.mono (by omega))
     have hz2:w.heap.size<w2.heap.size:=by have:=hb2.size;omega
     have HB2:Hid (w2.heap[w.heap.size]?=some (.cells #[.int .i64 k,.int .i64 (i:Int),.slice ca ct.length cc,.string nm,.string s] 94 (0,0))):=(hb2.block _ (by omega)).trans HB1.out
     clear x10 x11 x12 x13 x14;obtain ⟨x20,x21,x22,x23,x24⟩:=yJ HB2.out;go_wp2_with fail;refine (HT.out _).mono ?_;rintro e w3 ⟨rfl,hb3⟩;have hB3:=hB2.trans (hb3.mono (by omega))
     have hz3:w.heap.size<w3.heap.size:=by have:=hb3.size;omega
     have e0:=d0.out _ hB3;have HB3:Hid (w3.heap[w.heap.size]?=some (.cells #[.int .i64 k,.int .i64 (i:Int),.slice ca ct.length cc,.string nm,.string s] 94 (0,0))):=(hb3.block _ (by omega)).trans HB2.out
     clear x20 x21 x22 x23 x24;obtain ⟨x30,x31,x32,x33,x34⟩:=yJ HB3.out;go_wp2_with fail;go_ret;exact ⟨by rw[HR3.out];rfl,hB3⟩
   | true =>
     cases pb with
     | true =>
       go_enter Tryz.func60,Tryz.ntmps60
       go_wp2_with fail;refine (HC.out _ hb).mono ?_;rintro e w1 ⟨rfl,hb1⟩;have hB1:=hb.trans (hb1.mono hb.size);have hz1:w.heap.size<w1.heap.size:=by have:=hb1.size;simp at this;omega
       have HB1:Hid (w1.heap[w.heap.size]?=some (.cells #[.int .i64 k,.int .i64 (i:Int),.slice ca ct.length cc,.string nm,.string s] 94 (0,0))):=zQ hb1;obtain ⟨x10,x11,x12,x13,x14⟩:=yJ HB1.out;go_wp2_with fail;refine (HM.out _).mono ?_;rintro e w2 ⟨rfl,hb2⟩;have hB2:=hB1.trans (hb2.mono (by omega))
       have hz2:w.heap.size<w2.heap.size:=by have:=hb2.size;omega
       have HB2:Hid (w2.heap[w.heap.size]?=some (.cells #[.int .i64 k,.int .i64 (i:Int),.slice ca ct.length cc,.string nm,.string s] 94 (0,0))):=(hb2.block _ (by omega)).trans HB1.out
       clear x10 x11 x12 x13 x14;obtain ⟨x20,x21,x22,x23,x24⟩:=yJ HB2.out;go_wp2_with fail;refine (HT.out _).mono ?_;rintro e w3 ⟨rfl,hb3⟩;have hB3:=hB2.trans (hb3.mono (by omega))
       have hz3:w.heap.size<w3.heap.size:=by have:=hb3.size;omega
       have e0:=d0.out _ hB3;have HB3:Hid (w3.heap[w.heap.size]?=some (.cells #[.int .i64 k,.int .i64 (i:Int),.slice ca ct.length cc,.string nm,.string s] 94 (0,0))):=(hb3.block _ (by omega)).trans HB2.out
       clear x20 x21 x22 x23 x24;obtain ⟨x30,x31,x32,x33,x34⟩:=yJ HB3.out;go_wp2_with fail;refine (HP.out _).mono ?_;rintro e w5 ⟨rfl,rfl⟩;go_wp2_with fail;go_ret;exact ⟨by rw[HR3.out];rfl,hB3⟩
     | false =>
       by_cases h7:k=7
       · subst h7
         go_enter Tryz.func60,Tryz.ntmps60
         go_wp2_with fail;refine (HC.out _ hb).mono ?_;rintro e w1 ⟨rfl,hb1⟩;have hB1:=hb.trans (hb1.mono hb.size);have hz1:w.heap.size<w1.heap.size:=by have:=hb1.size;simp at this;omega
         have HB1:Hid (w1.heap[w.heap.size]?=some (.cells #[.int .i64 7,.int .i64 (i:Int),.slice ca ct.length cc,.string nm,.string s] 94 (0,0))):=zQ hb1;obtain ⟨x10,x11,x12,x13,x14⟩:=yJ HB1.out;go_wp2_with fail;refine (HM.out _).mono ?_;rintro e w2 ⟨rfl,hb2⟩;have hB2:=hB1.trans (hb2.mono (by omega))
         have hz2:w.heap.size<w2.heap.size:=by have:=hb2.size;omega
         have HB2:Hid (w2.heap[w.heap.size]?=some (.cells #[.int .i64 7,.int .i64 (i:Int),.slice ca ct.length cc,.string nm,.string s] 94 (0,0))):=(hb2.block _ (by omega)).trans HB1.out
         clear x10 x11 x12 x13 x14;obtain ⟨x20,x21,x22,x23,x24⟩:=yJ HB2.out;go_wp2_with fail;refine (HT.out _).mono ?_;rintro e w3 ⟨rfl,hb3⟩;have hB3:=hB2.trans (hb3.mono (by omega))
         have hz3:w.heap.size<w3.heap.size:=by have:=hb3.size;omega
         have e0:=d0.out _ hB3;have HB3:Hid (w3.heap[w.heap.size]?=some (.cells #[.int .i64 7,.int .i64 (i:Int),.slice ca ct.length cc,.string nm,.string s] 94 (0,0))):=(hb3.block _ (by omega)).trans HB2.out
         clear x20 x21 x22 x23 x24;obtain ⟨x30,x31,x32,x33,x34⟩:=yJ HB3.out;go_wp2_with fail;refine (HP.out _).mono ?_;rintro e w5 ⟨rfl,rfl⟩;go_wp2_with fail;go_ret;exact ⟨by rw[HR3.out];rfl,hB3⟩
       · have HR4 : Hid (R = 4) := by show _ = _;rw[HR3.out];simp[h7]
         have b7:(k==7)=false:=by simpa using h7
         clear HR3 h7
         go_enter Tryz.func60,Tryz.ntmps60
         go_wp2_with fail;refine (HC.out _ hb).mono ?_;rintro e w1 ⟨rfl,hb1⟩;have hB1:=hb.trans (hb1.mono hb.size);have hz1:w.heap.size<w1.heap.size:=by have:=hb1.size;simp at this;omega
         have HB1:Hid (w1.heap[w.heap.size]?=some (.cells #[.int .i64 k,.int .i64 (i:Int),.slice ca ct.length cc,.string nm,.string s] 94 (0,0))):=zQ hb1;obtain ⟨x10,x11,x12,x13,x14⟩:=yJ HB1.out;go_wp2_with fail;refine (HM.out _).mono ?_;rintro e w2 ⟨rfl,hb2⟩;have hB2:=hB1.trans (hb2.mono (by omega))
         have hz2:w.heap.size<w2.heap.size:=by have:=hb2.size;omega
         have HB2:Hid (w2.heap[w.heap.size]?=some (.cells #[.int .i64 k,.int .i64 (i:Int),.slice ca ct.length cc,.string nm,.string s] 94 (0,0))):=(hb2.block _ (by omega)).trans HB1.out
         clear x10 x11 x12 x13 x14;obtain ⟨x20,x21,x22,x23,x24⟩:=yJ HB2.out;go_wp2_with fail;refine (HT.out _).mono ?_;rintro e w3 ⟨rfl,hb3⟩;have hB3:=hB2.trans (hb3.mono (by omega))
         have hz3:w.heap.size<w3.heap.size:=by have:=hb3.size;omega
         have e0:=d0.out _ hB3;have HB3:Hid (w3.heap[w.heap.size]?=some (.cells #[.int .i64 k,.int .i64 (i:Int),.slice ca ct.length cc,.string nm,.string s] 94 (0,0))):=(hb3.block _ (by omega)).trans HB2.out
         clear x20 x21 x22 x23 x24;obtain ⟨x30,x31,x32,x33,x34⟩:=yJ HB3.out;go_wp2_with fail;refine (HP.out _).mono ?_;rintro e w5 ⟨rfl,rfl⟩;go_wp2_with fail;go_ret;exact ⟨by rw[HR4.out];rfl,hB3⟩
end
section
attribute [local go_sem] qd
set_option maxHeartbeats 4000000 in
theorem XW (a b:Opn)(va vb:Value)(w:World) :
 Calls Tryz.prog 63 #[.agg #[.int .i64 a.kind,.int .i64 a.target,va,.string a.name,.string a.s],.agg #[.int .i64 b.kind,.int .i64 b.target,vb,.string b.name,.string b.s]] w fun e w'=>e=.returned (.bool (agB a b))∧Below w.heap.size w w':=by
 have HA:Hid (agB a b=(decide (a.target=b.target)&&((decide (a.kind=6)&&decide (b.kind=6))||(decide (a.kind=7)&&decide (b.kind=7))||(decide (a.kind=8)&&decide (b.kind=8)) ||
  ((decide (a.kind=9)||decide (a.kind=10))&&(decide (b.kind=9)||decide (b.kind=10))&&decide (a.name=b.name))))):=rfl
 have hb:=(Below.alloc1 w (.cells #[.int .i64 a.kind,.int .i64 a.target,va,.string a.name,.string a.s] 94)).alloc (by simp) (.cells #[.int .i64 b.kind,.int .i64 b.target,vb,.string b.name,.string b.s] 94)
 generalize agB a b=R at *
 obtain ⟨k,tg,ct,nm,s⟩:=a;obtain ⟨k',tg',ct',nm',s'⟩:=b;dsimp only at *
 by_cases ht:tg=tg'
 · subst ht
   by_cases h6:k=6
   · subst h6
     by_cases g:k'=6
     · subst g;have HR:Hid (R=true):=by show _=_;rw[HA.out];simp
       clear HA
       go_enter Tryz.func63,Tryz.ntmps63
       go_wp2_with fail;go_ret;exact ⟨by rw[HR.out];rfl,hb⟩
     · have HR : Hid (R = false) := by show _ = _;rw[HA.out];simp[g]
       have b1:(k'==6)=false:=by simpa using g
       have b2:((6:Int)==k')=false:=by simpa using fun e=>g e.symm
       clear HA g
       go_enter Tryz.func63,Tryz.ntmps63
       go_wp2_with fail;go_ret;exact ⟨by rw[HR.out];rfl,hb⟩
   by_cases h7:k=7
   · subst h7
     by_cases g:k'=7
     · subst g;have HR:Hid (R=true):=by show _=_;rw[HA.out];simp
       clear HA
       go_enter Tryz.func63,Tryz.ntmps63
       go_wp2_with fail;go_ret;exact ⟨by rw[HR.out];rfl,hb⟩
     · have HR : Hid (R = false) := by show _ = _;rw[HA.out];simp[g]
       have b1:(k'==7)=false:=by simpa using g
       have b2:((7:Int)==k')=false:=by simpa using fun e=>g e.symm
       clear HA g
       go_enter Tryz.func63,Tryz.ntmps63
       go_wp2_with fail;go_ret;exact ⟨by rw[HR.out];rfl,hb⟩
   by_cases h8:k=8
   · subst h8
     by_cases g:k'=8
     · subst g;have HR:Hid (R=true):=by show _=_;rw[HA.out];simp
       clear HA
       go_enter Tryz.func63,Tryz.ntmps63
       go_wp2_with fail;go_ret;exact ⟨by rw[HR.out];rfl,hb⟩
     · have HR : Hid (R = false) := by show _ = _;rw[HA.out];simp[g]
       have b1:(k'==8)=false:=by simpa using g
       have b2:((8:Int)==k')=false:=by simpa using fun e=>g e.symm
       clear HA g
       go_enter Tryz.func63,Tryz.ntmps63
       go_wp2_with fail;go_ret;exact ⟨by rw[HR.out];rfl,hb⟩
   by_cases h9:k=9
   · subst h9
     by_cases g9:k'=9
     · subst g9;have HR:Hid (R=decide (nm=nm')):=by show _=_;rw[HA.out];simp
       clear HA
       go_enter Tryz.func63,Tryz.ntmps63
       go_wp2_with fail;go_ret;exact ⟨by rw[HR.out,jB];rfl,hb⟩
     by_cases g10:k'=10
     · subst g10;have HR:Hid (R=decide (nm=nm')):=by show _=_;rw[HA.out];simp
       clear HA
       go_enter Tryz.func63,Tryz.ntmps63
       go_wp2_with fail;go_ret;exact ⟨by rw[HR.out,jB];rfl,hb⟩
     have HR:Hid (R=false):=by show _=_;rw[HA.out];simp[g9,g10]
     have b1:(k'==9)=false:=by simpa using g9
     have b2:(k'==10)=false:=by simpa using g10
     clear HA g9 g10
     go_enter Tryz.func63,Tryz.ntmps63
     go_wp2_with fail;go_ret;exact ⟨by rw[HR.out];rfl,hb⟩
   by_cases h10:k=10
   · subst h10
     by_cases g9:k'=9
     · subst g9;have HR:Hid (R=decide (nm=nm')):=by show _=_;rw[HA.out];simp
       clear HA
       go_enter Tryz.func63,Tryz.ntmps63
       go_wp2_with fail;go_ret;exact ⟨by rw[HR.out,jB];rfl,hb⟩
     by_cases g10:k'=10
     · subst g10;have HR:Hid (R=decide (nm=nm')):=by show _=_;rw[HA.out];simp
       clear HA
       go_enter Tryz.func63,Tryz.ntmps63
       go_wp2_with fail;go_ret;exact ⟨by rw[HR.out,jB];rfl,hb⟩
     have HR:Hid (R=false):=by show _=_;rw[HA.out];simp[g9,g10]
     have b1:(k'==9)=false:=by simpa using g9
     have b2:(k'==10)=false:=by simpa using g10
     clear HA g9 g10
     go_enter Tryz.func63,Tryz.ntmps63
     go_wp2_with fail;go_ret;exact ⟨by rw[HR.out];rfl,hb⟩
   have HR:Hid (R=false):=by show _=_;rw[HA.out];simp[h6,h7,h8,h9,h10]
   have b6:(k==6)=false:=by simpa using h6
   have b7:(k==7)=false:=by simpa using h7
   have b8:(k==8)=false:=by simpa using h8
   have b9:(k==9)=false:=by simpa using h9
   have b10:(k==10)=false:=by simpa using h10
   clear HA h6 h7 h8 h9 h10
   go_enter Tryz.func63,Tryz.ntmps63
   go_wp2_with fail;go_ret;exact ⟨by rw[HR.out];rfl,hb⟩
 · have HR : Hid (R = false) := by show _ = _;rw[HA.out, decide_eq_false ht];rfl
   have b1:(tg==tg')=false:=by simpa using ht
   clear HA ht
   go_enter Tryz.func63,Tryz.ntmps63
   go_wp2_with fail;go_ret;exact ⟨by rw[HR.out];rfl,hb⟩
end
section
attribute [local go_sem] qd
theorem qaY {ns:List Nd}{l:List Int}{k m:Nat}{x:Nd}(hk:l[k]?=some (m:Int))(hx:ns[m]?=some x)(name:ByteArray) :
 ZZ ns (l.take (k+1)) name=ZZ ns (l.take k) name++(if Q3 x name then [(m:Int)] else []):=by
 have hl:=qh hk;have e:l[k]=(m:Int):=by simpa[hl] using hk
 unfold ZZ;rw[List.take_succ_eq_append_getElem hl,List.filter_append,e,List.filter_cons,qaX hx];rfl
theorem Km (ns:List Nd)(l:List Int)(name:ByteArray):(ZZ ns l name).length≤l.length:=List.length_filter_le _ _
set_option maxHeartbeats 1000000 in
theorem YL (S:Nat→Prop)(vn vs:Value)(ns:List Nd)(l:List Int)(s:St)(w:World)(hN:qu S w vn ns)(hI:qW S w vs l)(hin:∀ u∈l,0≤u∧u<ns.length)(hs0:0≤s.n)(hl:l.length≤1048576) :
 Calls Tryz.prog 59 #[vn,vs,.agg #[.string s.name,.int .i64 s.n]] w fun e w'=>∃ v,e=.returned v∧qW (fun b=>w.heap.size≤b) w' v (zP ns l s)∧Below w.heap.size w w':=by
 have hb1:=Below.alloc1 w (.cells #[.string s.name,.int .i64 s.n] 134);have hx1:=heap_alloc_new w (.cells #[.string s.name,.int .i64 s.n] 134);have hz1:(w.alloc (.cells #[.string s.name,.int .i64 s.n] 134)).heap.size=w.heap.size+1:=by simp
 obtain ⟨na,nc,rfl,hnl,hnm⟩:=hN.shape;obtain ⟨sa,sc,rfl,hsl,hsm⟩:=hI.shape;unfold maxLen at hnm hsm
 obtain ⟨i0,hi,hz0,hzz1,hz2⟩:=info_parts intInfoR;have HN:Hid (qu S w (.slice na ns.length nc) ns):=hN;have HI:Hid (qW S w (.slice sa l.length sc) l):=hI;have HIN:Hid (∀ u∈l,0≤u∧u<ns.length):=hin;have HM:Hid (zP ns l s=if s.n=0 then ZZ ns l s.name else ((ZZ ns l s.name).drop (s.n.toNat-1)).take 1):=rfl
 have HLN:Hid (ns.length=ns.length):=rfl;clear hN hI hin
 go_enter Tryz.func59,Tryz.ntmps59
 go_wp2_with fail
 generalize w.alloc (.cells #[.string s.name,.int .i64 s.n] 134)=W1 at *
 have HZ1:Hid (W1.heap.size=w.heap.size+1):=hz1;have hle1:w.heap.size≤W1.heap.size:=by omega
 clear hz1
 go_loopg [12,7] l.length (fun g i o wr=>∃ (k:Nat),k+g=l.length∧i=.int .i64 (k:Int)∧qE W1.heap.size wr o (ZZ ns (l.take k) s.name)∧Below W1.heap.size W1 wr)
 case atStart => exact ⟨0,by omega,rfl,qE.nil _ _,Below.refl _ _⟩
 case round =>
  obtain ⟨k,hk,rfl,hR,hB⟩:=hrel;have hsz:=hB.size;have hBw:Below w.heap.size w wr:=hb1.trans (hB.mono hle1);have hxr:=(hB.block _ (qe hx1)).trans hx1
  by_cases hil:k<l.length
  · obtain ⟨u, hu⟩ : ∃ u, l[k]? = some u := ⟨l[k], by simp[hil]⟩
    have hur:=HIN.out u (List.mem_of_getElem? hu);obtain ⟨m,rfl⟩:∃ m:Nat,u=(m:Int):=⟨u.toNat,by omega⟩
    obtain ⟨x,hx⟩:∃ x,ns[m]?=some x:=⟨ns[m]'(by omega),by simp⟩
    obtain ⟨ib,io,ic,hiv,_,hib,e1⟩:=(HI.out.later hBw).at hu
    injection hiv with hia _ hic
    subst hia hic;obtain ⟨b,o,cap,va,vk,hv,_,_,hSb,hbw,c0,c1,c2,c3,c4,hAt,hKi⟩:=(HN.out.later hBw).at hx
    injection hv with hv1 _ hv2
    subst hv1 hv2;obtain ⟨aa,ac,rfl⟩:=hAt.shape;obtain ⟨ka,kc,rfl,_,_⟩:=hKi.shape;have HSN:Hid _:=qaY hu hx s.name;have HF:Hid (∀ W,Calls Tryz.prog 104 #[.agg #[.bool x.text,.string x.s,.slice aa x.attrs.length ac,.int .i64 x.parent,.slice ka x.kids.length kc],.string s.name] W fun e w'=>e=.returned (.bool (Q3 x s.name))∧Below W.heap.size W w'):=fun W=>qce x _ _ _ _ _ _ s.name W
    have hili:(k:Int)<(l.length:Int):=by omega
    have hmi:(m:Int)<(ns.length:Int):=by omega
    have d0:wr.cell? ⟨w.heap.size,0,none⟩=some (.string s.name):=by rw[cH9 hxr];rfl
    have hlen:=Km ns (l.take k) s.name;rw[List.length_take]at hlen
    have hlen2:(ZZ ns (l.take k) s.name).length≤1048576:=by omega
    obtain ⟨us,hus⟩:∃ us,ZZ ns (l.take k) s.name=us:=⟨_,rfl⟩;rw[hus]at hR HSN hlen2
    obtain ⟨ra,rc,rfl,_,_⟩:=hR.shape;have HR:Hid (qE W1.heap.size wr (.slice ra us.length rc) us):=hR
    have HC:Hid (∀ W,Below wr.heap.size wr W→Below wr.heap.size wr W∧W.cell? ⟨b,o+m*5,none⟩=some (.bool x.text)∧W.cell? ⟨b,o+m*5+1,none⟩=some (.string x.s)∧W.cell? ⟨b,o+m*5+2,none⟩=some (.slice aa x.attrs.length ac)∧W.cell? ⟨b,o+m*5+3,none⟩=some (.int .i64 x.parent)∧W.cell? ⟨b,o+m*5+4,none⟩=some (.slice ka x.kids.length kc)∧W.cell? ⟨w.heap.size,0,none⟩=some (.string s.name)):=by
     intro W h;refine ⟨h,?_,?_,?_,?_,?_,?_⟩
     · rw[h.cell (p:=⟨b,o+m*5,none⟩) hbw];exact c0
     · rw[h.cell (p:=⟨b,o+m*5+1,none⟩) hbw];exact c1
     · rw[h.cell (p:=⟨b,o+m*5+2,none⟩) hbw];exact c2
     · rw[h.cell (p:=⟨b,o+m*5+3,none⟩) hbw];exact c3
     · rw[h.cell (p:=⟨b,o+m*5+4,none⟩) hbw];exact c4
     · rw[h.cell (p:=⟨w.heap.size,0,none⟩) (qe hxr)];exact d0
    have hbn:Below wr.heap.size wr wr.drew:=(Below.refl _ _).drew;clear hu hx hAt hKi hus hR hlen hxr hur;cases hq:Q3 x s.name with
    | true =>
      rw[hq]at HF HSN
      clear hq;go_wp2_with fail
      go_region_held3 (fun W:World=>Below wr.heap.size wr W∧W.cell? ⟨b,o+m*5,none⟩=some (.bool x.text)∧W.cell? ⟨b,o+m*5+1,none⟩=some (.string x.s)∧W.cell? ⟨b,o+m*5+2,none⟩=some (.slice aa x.attrs.length ac)∧W.cell? ⟨b,o+m*5+3,none⟩=some (.int .i64 x.parent)∧W.cell? ⟨b,o+m*5+4,none⟩=some (.slice ka x.kids.length kc)∧W.cell? ⟨w.heap.size,0,none⟩=some (.string s.name))
       (with_reducible exact HC.out _ hbn)
       (first|(go_at_call 104;refine (Calls.mono (HF.out _) ?_);rintro e w3 ⟨rfl,hb3⟩;have hbn:=hbn.trans (hb3.mono hbn.size)))
      have hR3:qE W1.heap.size w3 (.slice ra us.length rc) us:=HR.out.later hbn;have hs3:=hbn.size;have hB3:Below W1.heap.size W1 w3:=hB.trans (hbn.mono hsz);have hown3:w3.ownsRow W1.heap.size 3 1 (.slice ra us.length rc) us.length (qo us):=hR3;clear c0 c1 c2 c3 c4;go_wp2_with (at_builtin;refine wpList_append_own_at _ rfl _ _ 40 rfl W1.heap.size 3 i0 _ 1 8 Tryz.underlying40 hi hz0 hzz1 hz2 rfl (by decide) _ _ _ rfl (hown3.alloc _) ⟨w3.heap.size,0,none⟩ 1 1 [.int .i64 (m:Int)] rfl ?qc1 ?qc2 ?qc3 ?qc4 ?qc5 ?qc6 ?_)
      case qc1 => rfl
      case qc2 => exact Z7 _ _ _
      case qc3 => intro z hz;simp at hz;subst hz;rfl
      case qc4 => unfold maxLen;omega
      case qc5 => omega
      case qc6 => simp;omega
      intro v' w4 hown4 hgr4 _ _;obtain ⟨ja,jl,jc,rfl⟩:=qJ hown4
      have hR4:qE W1.heap.size w4 (.slice ja jl jc) (us++[(m:Int)]):=by
       unfold qE;rw[q8,List.length_append];exact hown4
      have hB4:Below W1.heap.size W1 w4:=(hB3.alloc (by omega) _).grown hgr4 (by simp;omega) (fun z hz=>(hR3.lt z hz).1)
      clear hown4 hown3 hR3;go_wp2_with fail
      go_roundg (l.length-(k+1))
      case measure => omega
      case rel => exact ⟨k+1,by omega,by go_num,by rw[HSN.out];exact hR4,hB4⟩
    | false =>
      rw[hq]at HF HSN
      clear hq;go_wp2_with fail
      go_region_held3 (fun W:World=>Below wr.heap.size wr W∧W.cell? ⟨b,o+m*5,none⟩=some (.bool x.text)∧W.cell? ⟨b,o+m*5+1,none⟩=some (.string x.s)∧W.cell? ⟨b,o+m*5+2,none⟩=some (.slice aa x.attrs.length ac)∧W.cell? ⟨b,o+m*5+3,none⟩=some (.int .i64 x.parent)∧W.cell? ⟨b,o+m*5+4,none⟩=some (.slice ka x.kids.length kc)∧W.cell? ⟨w.heap.size,0,none⟩=some (.string s.name))
       (with_reducible exact HC.out _ hbn)
       (first|(go_at_call 104;refine (Calls.mono (HF.out _) ?_);rintro e w3 ⟨rfl,hb3⟩;have hbn:=hbn.trans (hb3.mono hbn.size)))
      have hR3:qE W1.heap.size w3 (.slice ra us.length rc) us:=HR.out.later hbn;have hB3:Below W1.heap.size W1 w3:=hB.trans (hbn.mono hsz);clear c0 c1 c2 c3 c4;go_wp2_with fail
      go_roundg (l.length-(k+1))
      case measure => omega
      case rel => exact ⟨k+1,by omega,by go_num,by rw[HSN.out];simpa using hR3,hB3⟩
  · have hkk : k = l.length := by omega
    subst hkk;rw[List.take_length]at hR
    have hili:¬ ((l.length:Int)<(l.length:Int)):=by omega
    have d1:wr.cell? ⟨w.heap.size,1,none⟩=some (.int .i64 s.n):=by rw[cH9 hxr];rfl
    have hlen:=Km ns l s.name;obtain ⟨us,hus⟩:∃ us,ZZ ns l s.name=us:=⟨_,rfl⟩;rw[hus]at hR HM hlen
    obtain ⟨ra,rc,rfl,hrc,hrm⟩:=hR.shape;have HRI:Hid (qW (fun b=>W1.heap.size≤b) wr (.slice ra us.length rc) us):=hR.ints
    clear hus hR
    by_cases hn0:s.n=0
    · have HE : Hid (zP ns l s = us) := by show _ = _;rw[HM.out, if_pos hn0]
      have hne:(s.n==0)=true:=by simp[hn0]
      clear HM hn0;go_wp2_with fail;go_ret;exact ⟨_,rfl,by rw[HE.out];exact HRI.out.carry fun b hb=>⟨by omega,rfl⟩,hBw⟩
    · have hne : (s.n == 0) = false := by simp[hn0]
      obtain ⟨m,hm⟩:∃ m:Nat,s.n=((m+1:Nat):Int):=⟨s.n.toNat-1,by omega⟩
      have HE:Hid (zP ns l s=(us.drop m).take 1):=by show _=_;rw[HM.out,if_neg hn0,hm];simp
      rw[hm]at d1 hne
      clear HM hn0 hm
      by_cases hgt:us.length<m+1
      · have hgi : (us.length : Int) < ((m + 1 : Nat) : Int) := by omega
        have HE2:Hid (zP ns l s=[]):=by show _=_;rw[HE.out,List.drop_of_length_le (by omega)];rfl
        clear HE;go_wp2_with fail;go_ret;exact ⟨_,rfl,by rw[HE2.out];exact qW.nil,hBw⟩
      · have hgi : ¬ (us.length : Int) < ((m + 1 : Nat) : Int) := by omega
        obtain ⟨y,hy⟩:∃ y,us[m]?=some y:=⟨us[m]'(by omega),by simp⟩
        have HE2:Hid (zP ns l s=[y]):=by
         show _=_
         rw[HE.out,List.drop_eq_getElem_cons (by omega)]
         have:us[m]'(by omega)=y:=by
          have:=hy;rw[List.getElem?_eq_getElem (by omega)]at this
          exact Option.some.inj this
         rw[this];rfl
        obtain ⟨rb,ro,rc2,hrv,hrS,hrb,e1⟩:=HRI.out.at hy
        injection hrv with hra _ hrc2
        subst hra hrc2;have HY:Hid (wr.cell? ⟨rb,ro+m,none⟩=some (.int .i64 y)):=e1;clear HE hy e1;unfold maxLen at hrm
        have hmc:m+1≤rc:=by omega
        go_wp2_with fail;go_ret;refine ⟨_,rfl,?_,hBw⟩;rw[HE2.out];refine ⟨some ⟨rb,ro+m,none⟩,rc-m,rfl,by simp;omega,by unfold maxLen;omega,fun _=>⟨rb,ro+m,rfl,by omega,fun i x hx=>?_⟩⟩
        match i,hx with
        | 0,hx=>simp at hx;subst hx;exact HY.out
end
section
attribute [local go_sem] qd
theorem ZG {P:Program}{w:World}(base:Nat)(t ty e:TypeId)(i:TypeInfo)(size c:Nat)(ht:P.underlying t=some (.slice e))(hi:P.info? e=some i)
 (v:Value) (n:Nat) (xs:List Value) (hown:w.ownsRow base e size v n xs) :
 (Builtin.append_ #[t,t] ty #[v,.slice none 0 c]).run P w=.ok v w:=by
 rcases hown.2 with ⟨rfl,rfl⟩|⟨g,cap,cur,rfl,_,_,hnc,_⟩
 · simp[Builtin.append_,run_underlying ht,sizeOf,typeInfo,hi,Builtin.lenOf,Builtin.firstCells]
 · simp[Builtin.append_,run_underlying ht,sizeOf,typeInfo,hi,Builtin.lenOf,Builtin.firstCells,hnc,storeCells]
theorem qby {ops:Array Oper}{o:Oper}{a:Act}{w:World}{K:Act→World→Prop}{Q:Exit→Act→World→Prop}{E:Prop}
 (hg:o.guard=none) (s x:Operand) (hop:o.op=Op.call { callee:=Callee.builtin Builtin.append,args:=#[s,x],argTypes:=#[40,40] })
 (B:Nat) (v:Value) (l:List Int) (hs:a.eval s=v) (hown:qE B w v l) (S:Nat→Prop) (u:Value) (m:List Int) (hx:a.eval x=u) (hm:qW S w u m) (hn:l.length+m.length≤1048576) (hB:B≤w.heap.size)
 (hK:∀ v' w',qE B w' v' (l++m)→w.grownBy w' v.ownBlock→K (a.put o.dst v') w') :
 if Region.wanted o (yielded ops a.tmps)=true then Oper.wp Tryz.prog o a w K Q else E:=by
 have hw:Region.wanted o (yielded ops a.tmps)=true:=by simp[Region.wanted,hg]
 rw[if_pos hw];obtain ⟨i0,hi,hz0,hz1,hz2⟩:=info_parts intInfoR;obtain ⟨ua,uc,rfl,_,_⟩:=hm.shape;cases ua with
 | none =>
   have hm0:m=[]:=by
    obtain ⟨a',cap,h1,_,_,h4⟩:=hm
    apply Classical.byContradiction
    intro hne;obtain ⟨b,o,ha,_⟩:=h4 hne;rw[ha]at h1
    cases h1
   subst hm0;have hr:=ZG (P:=Tryz.prog) (w:=w) B 40 o.type 3 i0 1 uc Tryz.underlying40 hi v l.length (qo l) hown;unfold Oper.wp;simp[execOp,hop,resolve,invoke,builtin,hs,hx,hr,Result.andThen];exact hK v w (by rw[List.append_nil];exact hown) (World.grownBy.refl _ _)
 | some ad =>
   obtain ⟨v',w',hr,h2,h3,_,h5⟩:=run_append_own_at (P:=Tryz.prog) w B 40 o.type 3 i0 _ 1 8 Tryz.underlying40 hi hz0 hz1 hz2 rfl (by decide) v l.length (qo l) hown ad m.length uc (qo m) (by rw[zp];omega) hm.cells (zt m) (by unfold maxLen;omega) (by omega) hB
   unfold Oper.wp;simp[execOp,hop,resolve,invoke,builtin,hs,hx,hr,Result.andThen];refine hK v' w' ?_ h3;unfold qE;rw[q8,List.length_append];exact h2
theorem VF {ns:List Nd}{here:List Int}{k:Nat}{u:Int}(hk:here[k]?=some u)(s:St):Zj ns (here.take (k+1)) s=Zj ns (here.take k) s++zP ns (YI ns u) s:=by
 have hl:=qh hk;have e:here[k]=u:=by simpa[hl] using hk
 unfold Zj;rw[List.take_succ_eq_append_getElem hl,List.flatMap_append,e];simp
theorem Z6 {ns:List Nd}(hg:qr ns=true){d:Nat}{l:List Int}(h:Lev ns d l):l.length≤ns.length:=by
 have hr:=h.rises hg
 have hm:∀ u∈l,0≤u∧u<ns.length:=fun u hu=>by
  obtain ⟨k,x,rfl,hx,_⟩:=h.mem u hu;have:=qh hx;omega
 clear h
 have key:∀ (l:List Int) (a:Int),l.Pairwise (fun u v=>u<v)→(∀ u∈l,a≤u∧u<ns.length)→a≤ns.length→(l.length:Int)≤ns.length-a:=by
  intro l
  induction l with
  | nil=>intro a _ _ h;simp;omega
  | cons x l ih =>
    intro a hp hm ha;rw[List.pairwise_cons]at hp
    have hx:=hm x List.mem_cons_self;have:=ih (x+1) hp.2 (fun u hu=>⟨by have:=hp.1 u hu;omega,(hm u (List.mem_cons_of_mem _ hu)).2⟩) (by omega)
    simp;omega
 have:=key l 0 hr hm (by omega)
 omega
theorem qam {ns:List Nd}(hg:qr ns=true){m:Nat}{x:Nd}(hx:ns[m]?=some x):∀ u∈x.kids,0≤u∧u<ns.length:=by
 intro u hu;obtain ⟨k,_,rfl,_,h,_⟩:=(qZ hg hx).kids u hu;omega
set_option maxHeartbeats 2000000 in
theorem VT (S:Nat→Prop)(vd vl:Value)(ns:List Nd)(l:List St)(w:World)(hD:QG S w vd ns)(hL:zJ S w vl l)(hn:Qm l) :
 Calls Tryz.prog 37 #[.agg #[vd],vl] w fun e w'=>∃ v,e=.returned (.tuple #[v,.int .i64 (Zn ns l)])∧qW (fun b=>w.heap.size≤b) w' v (Qh ns l)∧Below w.heap.size w w':=by
 have hb1:=Below.alloc1 w (.cells #[vd] 29);have hx1:=heap_alloc_new w (.cells #[vd] 29);have hz1:(w.alloc (.cells #[vd] 29)).heap.size=w.heap.size+1:=by simp
 have HG:Hid _:=(hD.later hb1).good;have HD:Hid (QG S w vd ns):=hD;have HL:Hid (zJ S w vl l):=hL;have HPG:Hid (∀ W,Below w.heap.size w W→Calls Tryz.prog 58 #[vl] W fun e w'=>e=.returned (.bool (yS l))∧Below W.heap.size W w'):=fun W h=>JN S vl l W (hL.later h) hn
 have HSD:Hid (Qh ns l=if qr ns&&yS l then KV ns l else []):=rfl
 have HSE:Hid (Zn ns l=if qr ns&&yS l then 0 else 1):=rfl
 obtain ⟨na,nc,rfl,hnl,hnm⟩:=hD.nodes.shape;obtain ⟨la,lc,rfl,hll,hlm⟩:=hL.shape;unfold maxLen at hnm hlm
 clear hD hL hn
 go_enter Tryz.func37,Tryz.ntmps37
 go_wp2_with fail;refine (Calls.mono HG.out ?_);rintro e w2 ⟨rfl,hb2⟩;have hx2:=(hb2.block _ (qe hx1)).trans hx1;have hB2:Below w.heap.size w w2:=hb1.trans (hb2.mono hb1.size);have hz2:w.heap.size<w2.heap.size:=qe hx2;have d2:w2.cell? ⟨w.heap.size,0,none⟩=some (.slice na ns.length nc):=by rw[cH9 hx2];rfl
 clear HG hb1 hx1 hz1 hb2;obtain ⟨q,hq⟩:∃ q,qr ns=q:=⟨_,rfl⟩;rw[hq];cases q with
 | false =>
   have HSD2:Hid (Qh ns l=[]):=by show _=_;rw[HSD.out,hq];rfl
   have HSE2:Hid (Zn ns l=1):=by show _=_;rw[HSE.out,hq];rfl
   clear HSD HSE hq;go_wp2_with fail
   go_ret2
   exact ⟨_,by rw[HSE2.out];rfl,by rw[HSD2.out];exact qW.nil,hB2⟩
 | true =>
   have HGD:Hid (qr ns=true):=hq;have HSD2:Hid (Qh ns l=if yS l then KV ns l else []):=by show _=_;rw[HSD.out,hq];rfl
   have HSE2:Hid (Zn ns l=if yS l then 0 else 1):=by show _=_;rw[HSE.out,hq];rfl
   have h80:ns.length≤80:=by
    simp only[qr,Bool.and_eq_true,decide_eq_true_eq]at hq
    exact hq.1.1
   clear HSD HSE hq;go_wp2_with fail;refine (Calls.mono (HPG.out _ hB2) ?_);rintro e w3 ⟨rfl,hb3⟩;have hx3:=(hb3.block _ (qe hx2)).trans hx2;have hB3:Below w.heap.size w w3:=hB2.trans (hb3.mono hB2.size);have hz3:w.heap.size<w3.heap.size:=qe hx3;have d3:w3.cell? ⟨w.heap.size,0,none⟩=some (.slice na ns.length nc):=by rw[cH9 hx3];rfl
   clear hx2 hB2 hz2 d2 hb3;obtain ⟨q2,hq2⟩:∃ q,yS l=q:=⟨_,rfl⟩;rw[hq2];cases q2 with
   | false =>
     have HSD3:Hid (Qh ns l=[]):=by show _=_;rw[HSD2.out,hq2];rfl
     have HSE3:Hid (Zn ns l=1):=by show _=_;rw[HSE2.out,hq2];rfl
     clear HSD2 HSE2 hq2;go_wp2_with fail
     go_ret2
     exact ⟨_,by rw[HSE3.out];rfl,by rw[HSD3.out];exact qW.nil,hB3⟩
   | true =>
     have HSD3:Hid (Qh ns l=KV ns l):=by show _=_;rw[HSD2.out,hq2];rfl
     have HSE3:Hid (Zn ns l=0):=by show _=_;rw[HSE2.out,hq2];rfl
     have hpl:=hq2;simp only[yS,Bool.and_eq_true,decide_eq_true_eq]at hpl
     have HST:Hid (∀ s∈l,0≤s.n):=by
      intro s hs;have:=List.all_eq_true.1 hpl.2 s hs;simp only[zT,Bool.and_eq_true,decide_eq_true_eq]at this
      exact this.1.1
     have hl1:1≤l.length:=hpl.1.1;have hl5:l.length≤5:=hpl.1.2;clear HSD2 HSE2 hq2 hpl;obtain ⟨s0,hs0⟩:∃ s,l[0]?=some s:=⟨l[0]'(by omega),by simp⟩
     obtain ⟨lb,lo,lc2,hlv,_,hlb,e0,e1⟩:=(HL.out.later hB3).at hs0
     injection hlv with hla _ hlc2
     subst hla hlc2
     have HL0:Hid (∃ r,l=s0::r):=by
      cases l with
      | nil=>simp at hs0
      | cons a r=>simp at hs0;subst hs0;exact ⟨r,rfl⟩
     have hbn:Below w3.heap.size w3 w3.drew:=(Below.refl _ _).drew
     have HC:Hid (∀ W,Below w3.heap.size w3 W→Below w3.heap.size w3 W∧W.cell? ⟨w.heap.size,0,none⟩=some (.slice na ns.length nc)∧W.cell? ⟨lb,lo,none⟩=some (.string s0.name)∧W.cell? ⟨lb,lo+1,none⟩=some (.int .i64 s0.n)):=by
      intro W h;refine ⟨h,?_,?_,?_⟩
      · rw[h.cell (p:=⟨w.heap.size,0,none⟩) hz3];exact d3
      · rw[h.cell (p:=⟨lb,lo,none⟩) hlb];simpa using e0
      · rw[h.cell (p:=⟨lb,lo+1,none⟩) hlb];simpa using e1
     have hba:Below w3.heap.size w3 (w3.alloc (.cells #[.int .i64 0] 3)).drew:=((Below.refl _ w3).alloc (nR9 _) _).drew
     have HM:Hid (Calls Tryz.prog 59 #[.slice na ns.length nc,.slice (some ⟨w3.heap.size,0,none⟩) 1 1,.agg #[.string s0.name,.int .i64 s0.n]] (w3.alloc (.cells #[.int .i64 0] 3)).drew fun e w'=>∃ v,e=.returned v∧qW (fun b=>w.heap.size<b) w' v (zP ns [0] s0)∧Below w3.heap.size w3 w'):=by
      have hW:Below w.heap.size w (w3.alloc (.cells #[.int .i64 0] 3)).drew:=hB3.trans (hba.mono hB3.size);have hN:=((HD.out.nodes.later hW).carry (S':=fun b=>S b∨b=w3.heap.size) fun b hb=>⟨Or.inl hb,rfl⟩)
      have hI:qW (fun b=>S b∨b=w3.heap.size) (w3.alloc (.cells #[.int .i64 0] 3)).drew (.slice (some ⟨w3.heap.size,0,none⟩) 1 1) [0]:=by
       refine ⟨_,1,rfl,nR9 _,by unfold maxLen;omega,fun _=>⟨w3.heap.size,0,rfl,Or.inr rfl,fun i x hx=>?_⟩⟩
       match i,hx with
       | 0,hx=>simp at hx;subst hx;exact (by simp:(w3.alloc (.cells #[.int .i64 0] 3)).cell? ⟨w3.heap.size,0+0,none⟩=some (.int .i64 0))
      refine (YL _ _ _ ns [0] s0 _ hN hI (fun u hu=>?_) (HST.out s0 (List.mem_of_getElem? hs0)) (by simp)).mono ?_
      · rw[List.mem_singleton]at hu
        obtain ⟨x,hx,_⟩:=YA HGD.out;have:=qh hx;omega
      · rintro e w' ⟨v, rfl, hI', hb'⟩;have hsz:(w3.alloc (.cells #[.int .i64 0] 3)).drew.heap.size=w3.heap.size+1:=by show (w3.alloc (.cells #[.int .i64 0] 3)).heap.size=_;simp
        rw[hsz]at hI' hb'
        refine ⟨v,rfl,hI'.carry fun b hb=>⟨by omega,rfl⟩,?_⟩
        exact hba.trans (hb'.mono (by omega))
     have hl1i:(0:Int)<(l.length:Int):=by omega
     have hl0:0<l.length:=by omega
     have hlne:¬ l=[]:=by intro e;rw[e]at hl0;simp at hl0
     clear e0 e1 hs0;go_wp2_with fail
     go_region_held3 (fun W:World=>Below w3.heap.size w3 W∧W.cell? ⟨w.heap.size,0,none⟩=some (.slice na ns.length nc)∧W.cell? ⟨lb,lo,none⟩=some (.string s0.name)∧W.cell? ⟨lb,lo+1,none⟩=some (.int .i64 s0.n))
      (first
       | with_reducible exact HC.out _ hbn
       | with_reducible exact HC.out _ hba)
      (first|(go_at_call 59;refine (Calls.mono HM.out ?_);rintro e w4 ⟨v4,rfl,hI4,hbm⟩;obtain ⟨va4,vc4,rfl,_,_⟩:=hI4.shape;have hbn:=hbm))
     have hBw4:Below w.heap.size w w4:=hB3.trans (hbn.mono hB3.size);obtain ⟨H0,hH0⟩:∃ H0,zP ns [0] s0=H0:=⟨_,rfl⟩;have HH0:Hid (Lev ns 1 H0):=by show Lev ns 1 H0;rw[←hH0];exact Kw HGD.out s0
     have HSP:Hid (KV ns l=Z1 ns (l.drop 1) H0):=by
      obtain ⟨r,rfl⟩:=HL0.out
      show Z1 ns r (zP ns [0] s0)=_
      rw[hH0];rfl
     rw[hH0]at hI4 ⊢
     have HI4:Hid (qW (fun b=>w.heap.size<b) w4 (.slice va4 H0.length vc4) H0):=hI4
     have hb4:=hbn;have HLR:Hid ((l.drop 1).length=l.length-1):=List.length_drop;have HC4:Hid (∀ W,Below w3.heap.size w3 W→W.cell? ⟨w.heap.size,0,none⟩=some (.slice na ns.length nc)):=fun W h=>(HC.out W h).2.1
     clear hH0 HM HC hbm hI4 hba;go_wp2_with fail
     all_goals
      go_loopg [30,6] (l.length-1) (fun g j h wr=>∃ (i:Nat) (X:List Int),i+g=l.length-1∧j=.int .i64 (i:Int)∧X=Z1 ns ((l.drop 1).take i) H0∧qW (fun b=>w.heap.size<b) wr h X∧Below w3.heap.size w3 wr)
      case atStart => exact ⟨0,H0,by omega,rfl,rfl,HI4.out,hb4⟩
      case round =>
       rename World=>wo
       obtain ⟨i,X,hi,rfl,hX,hIX,hBX⟩:=hrel;have hBwr:Below w.heap.size w wo:=hB3.trans (hBX.mono hB3.size)
       by_cases hil:i<l.length-1
       · first
         | (exfalso;omega)
         | (obtain ⟨s, hs⟩ : ∃ s, l[i + 1]? = some s := ⟨l[i + 1]'(by omega), by simp⟩
            have HLev:Hid (Lev ns (1+i) X):=by
             have:=qaq HGD.out ((l.drop 1).take i) 1 H0 HH0.out;rw[List.length_take,HLR.out,Nat.min_eq_left (by omega),←hX]at this
             exact this
            have HXN:Hid (Z1 ns ((l.drop 1).take (i+1)) H0=Zj ns X s):=by
             have e:(l.drop 1).take (i+1)=(l.drop 1).take i++[s]:=by
              rw[List.take_succ_eq_append_getElem (by rw[HLR.out];exact hil)]
              congr 2
              have:=hs;rw[List.getElem?_eq_getElem (by omega)]at this
              have:=Option.some.inj this;rw[List.getElem_drop];rw[←this]
              congr 1
              omega
             show _=_
             rw[e,qbt,←hX]
            obtain ⟨lb2,lo2,lc2,hlv,_,hlb2,e0,e1⟩:=(HL.out.later hBwr).at hs
            injection hlv with hla _ hlc2
            injection hla with hla
            injection hla with hla1 hla2
            subst hla1 hla2 hlc2;have e0':wo.cell? ⟨lb,lo+2+i*2,none⟩=some (.string s.name):=by rw[show lo+2+i*2=lo+(i+1)*2 by omega];exact e0
            have e1':wo.cell? ⟨lb,lo+2+i*2+1,none⟩=some (.int .i64 s.n):=by rw[show lo+2+i*2=lo+(i+1)*2 by omega];exact e1
            have hsn:=HST.out s (List.mem_of_getElem? hs);have hXl:X.length≤80:=Nat.le_trans (Z6 HGD.out HLev.out) h80;obtain ⟨xa,xc,rfl,hxl,hxm⟩:=hIX.shape;unfold maxLen at hxm
            have HIX:Hid (qW (fun b=>w.heap.size<b) wo (.slice xa X.length xc) X):=hIX
            have hili:(i:Int)<((l.length-1:Nat):Int):=by omega
            have hb5:=Below.alloc1 wo (.cells #[.string s.name,.int .i64 s.n] 134);have hx5:=heap_alloc_new wo (.cells #[.string s.name,.int .i64 s.n] 134);have hz5:(wo.alloc (.cells #[.string s.name,.int .i64 s.n] 134)).heap.size=wo.heap.size+1:=by simp
            clear e0 e1 hs hX hIX;go_wp2_with fail
            generalize wo.alloc (.cells #[.string s.name,.int .i64 s.n] 134)=W5 at *
            have HZ5:Hid (W5.heap.size=wo.heap.size+1):=hz5;have hle5:wo.heap.size≤W5.heap.size:=by omega
            clear hz5
            go_loopg [36,9] X.length (fun g k o wr=>∃ (kk:Nat) (Y:List Int),kk+g=X.length∧k=.int .i64 (kk:Int)∧Y=Zj ns (X.take kk) s∧qE W5.heap.size wr o Y∧Below W5.heap.size W5 wr)
            case atStart => exact ⟨0,[],by omega,rfl,rfl,qE.nil _ _,Below.refl _ _⟩
            case round =>
             obtain ⟨kk,Y,hkk,rfl,hY,hIY,hBY⟩:=hrel;have hB5:Below wo.heap.size wo wr:=hb5.trans (hBY.mono hle5);have hBwx:Below w.heap.size w wr:=hBwr.trans (hB5.mono hBwr.size);have hB3x:Below w3.heap.size w3 wr:=hBX.trans (hB5.mono hBX.size);have hszx:=hBY.size
             by_cases hkl:kk<X.length
             · obtain ⟨u, hu⟩ : ∃ u, X[kk]? = some u := ⟨X[kk], by simp[hkl]⟩
               obtain ⟨m,x,rfl,hx,_⟩:=HLev.out.mem u (List.mem_of_getElem? hu);have hmn:=qh hx;obtain ⟨xb,xo,xc2,hxv,_,hxbw,e2⟩:=(HIX.out.later hB5).at hu
               injection hxv with hxa _ hxc2
               subst hxa hxc2;obtain ⟨b,o,cap,va,vk,hv,_,_,hSb,hbw,c0,c1,c2,c3,c4,hAt,hKi⟩:=(HD.out.nodes.later hBwx).at hx
               injection hv with hv1 _ hv2
               subst hv1 hv2;obtain ⟨ka,kc,rfl,hkl2,hkm⟩:=hKi.shape
               have HYN:Hid (Zj ns (X.take (kk+1)) s=Y++zP ns x.kids s):=by
                show _=_
                rw[VF hu,←hY,jL hx]
               have HYL:Hid (Y.length+(zP ns x.kids s).length≤80):=by
                show _≤_
                rw[←List.length_append,←HYN.out];exact Nat.le_trans (Z6 HGD.out (Kv HGD.out (HLev.out.sub (List.take_sublist _ _)) s)) h80
               have hkidl:x.kids.length≤80:=by
                have:=(Yz HD.out HGD.out m x hx).2.1;have h1:=qam HGD.out hx
                have h2:x.kids.length≤ns.length:=Z6 HGD.out (d:=dp ns m+1) ⟨fun u hu=>by
                 obtain ⟨k,y,rfl,hjk,_,_,hy,hp⟩:=(qZ HGD.out hx).kids u hu;exact ⟨k,y,rfl,hy,qb7 HGD.out hy hp hjk⟩,(qZ HGD.out hx).row⟩
                omega
               have HMC:Hid (∀ W,Below wr.heap.size wr W→Calls Tryz.prog 59 #[.slice (some ⟨b,o,none⟩) ns.length nc,.slice ka x.kids.length kc,.agg #[.string s.name,.int .i64 s.n]] W fun e w'=>∃ v,e=.returned v∧qW (fun b=>W.heap.size≤b) w' v (zP ns x.kids s)∧Below W.heap.size W w'):=by
                intro W h;exact YL S _ _ ns x.kids s W ((HD.out.nodes.later hBwx).later h) (hKi.later h) (qam HGD.out hx) hsn (by omega)
               have hbW5:b<W5.heap.size:=by
                have h1:=HD.out.here b hSb;have h2:=hBwr.size;have h3:=hb5.size;omega
               have hB35:Below w3.heap.size w3 W5:=hBX.trans (hb5.mono hBX.size);have c4':W5.cell? ⟨b,o+m*5+4,none⟩=some (.slice ka x.kids.length kc):=by rw[←hBY.cell (p:=⟨b,o+m*5+4,none⟩) hbW5];exact c4
               have HC:Hid (∀ W,Below W5.heap.size W5 W→Below W5.heap.size W5 W∧W.cell? ⟨w.heap.size,0,none⟩=some (.slice (some ⟨b,o,none⟩) ns.length nc)∧W.cell? ⟨b,o+m*5+4,none⟩=some (.slice ka x.kids.length kc)∧W.cell? ⟨wo.heap.size,0,none⟩=some (.string s.name)∧W.cell? ⟨wo.heap.size,1,none⟩=some (.int .i64 s.n)):=by
                intro W h;have h5:=(h.block _ (qe hx5)).trans hx5;refine ⟨h,HC4.out W (hB35.trans (h.mono hB35.size)),?_,?_,?_⟩
                · rw[h.cell (p:=⟨b,o+m*5+4,none⟩) hbW5];exact c4'
                · rw[cH9 h5];rfl
                · rw[cH9 h5];rfl
               obtain ⟨ya,yc,rfl,_,_⟩:=hIY.shape;have HIY:Hid (qE W5.heap.size wr (.slice ya Y.length yc) Y):=hIY;have hkli:(kk:Int)<(X.length:Int):=by omega
               have hmi:(m:Int)<(ns.length:Int):=by omega
               have hbx:Below wr.heap.size wr wr.drew:=(Below.refl _ _).drew;have hbn:Below W5.heap.size W5 wr.drew:=hBY.drew;obtain ⟨Z,hZ⟩:∃ Z,zP ns x.kids s=Z:=⟨_,rfl⟩;rw[hZ]at HMC HYN HYL
               clear hu hx hY hIY hKi hAt c0 c1 c2 c3 hZ c4';go_wp2_with fail
               go_region_held3 (fun W:World=>Below W5.heap.size W5 W∧W.cell? ⟨w.heap.size,0,none⟩=some (.slice (some ⟨b,o,none⟩) ns.length nc)∧W.cell? ⟨b,o+m*5+4,none⟩=some (.slice ka x.kids.length kc)∧W.cell? ⟨wo.heap.size,0,none⟩=some (.string s.name)∧W.cell? ⟨wo.heap.size,1,none⟩=some (.int .i64 s.n))
                (with_reducible exact HC.out _ hbn)
                (first
                 | (go_at_call 59;refine (Calls.mono (HMC.out _ hbx) ?_);rintro e w7 ⟨v7,rfl,hI7,hb7⟩;obtain ⟨va7,vc7,rfl,_,_⟩:=hI7.shape;have hbx:=hbx.trans (hb7.mono hbx.size);have hbn:=hBY.trans (hbx.mono hszx))
                 | (refine qby (by rfl) (.tmp 40) (.tmp 50) (by rfl) W5.heap.size (.slice ya Y.length yc) Y (by simp[Act.eval]) (HIY.out.later hbx) _ (.slice va7 Z.length vc7) Z (by simp[Act.eval]) hI7 (by have:=HYL.out;omega) hbn.size ?_;intro v8 w8 hR8 hg8;obtain ⟨va8,vc8,rfl,_,_⟩:=hR8.shape;have hbn:=hbn.grown hg8 hbn.size (fun z hz=>(HIY.out.lt z hz).1)))
               clear c4;go_wp2_with fail
               go_roundg (X.length-(kk+1))
               case measure => omega
               case rel => exact ⟨kk+1,Y++Z,by omega,by go_num,HYN.out.symm,by rw[List.length_append]at hR8;exact hR8,hbn⟩
             · have hkk2 : kk = X.length := by omega
               subst hkk2;rw[List.take_length]at hY
               have hkli:¬ ((X.length:Int)<(X.length:Int)):=by omega
               obtain ⟨ya,yc,rfl,_,_⟩:=hIY.shape;have hR:=hIY.ints;have hY2:Z1 ns ((l.drop 1).take (i+1)) H0=Y:=by rw[HXN.out,hY]
               have HY2:Hid (Z1 ns ((l.drop 1).take (i+1)) H0=Y):=hY2
               have h5w:w.heap.size<W5.heap.size:=by
                have h1:=hBwr.size;have h2:=HZ5.out;omega
               clear hIY hY hY2;go_wp2_with fail
               go_roundg (l.length-1-(i+1))
               case measure => omega
               case rel => exact ⟨i+1,Y,by omega,by go_num,HY2.out.symm,hR.carry fun b hb=>⟨by omega,rfl⟩,hB3x⟩)
       · have hili : ¬ ((i : Int) < ((l.length - 1 : Nat) : Int)) := by omega
         obtain ⟨xa,xc,rfl,hxl,hxm⟩:=hIX.shape
         have hXe:KV ns l=X:=by
          rw[HSP.out,hX,List.take_of_length_le (by rw[HLR.out];omega)]
         have HX:Hid (KV ns l=X):=hXe;clear hX hXe;go_wp2_with fail
         go_ret2
         exact ⟨_,by rw[HSE3.out];rfl,by rw[HSD3.out,HX.out];exact hIX.carry fun b hb=>⟨by omega,rfl⟩,hBwr⟩
end
structure ZQ (S:Nat→Prop) (B cb:Nat) (w:World) (m k:Nat) (ts us:List Tr) (bx by_:Value) (wv:Value) (G:List (Value × Value)) (w':World) (P:List PE) (wv':Value):Prop where
 below:Below B w w'
 cst:Pst B cb w' wv' (G++P.map prs)
 row:wv'.ownBlock=wv.ownBlock∨∃ b,wv'.ownBlock=some b∧w.heap.size+1≤b
 frame:∀ b,b<w.heap.size→b≠cb→wv.ownBlock≠some b→w'.heap[b]?=w.heap[b]?
 box0:w'.cell? ⟨w.heap.size,0,none⟩=some bx
 box1:w'.cell? ⟨w.heap.size,1,none⟩=some by_
 size:w.heap.size+1≤w'.heap.size
 pend:∀ e∈P,V9 S w e
 like:ZE m ts us k=Qf P
 less:jo P≤cnt m (nx (ts.take k))
theorem Vz {S:Nat→Prop}{B cb:Nat}{w:World}{m k L:Nat}{ts us:List Tr}{bx by_:Value}{wv:Value}{G:List (Value × Value)}{wr w3:World}{P P1:List PE}{wv' wv3:Value}{t u:Tr}
 (hS:∀ b,S b→wr.heap[b]?=w.heap[b]?) (I:ZQ S B cb w m k ts us bx by_ wv G wr P wv') (hwv:∀ b,wv.ownBlock=some b→b<w.heap.size) (hcb:cb<w.heap.size) (hsn:ts.take (k+1)=ts.take k++[t])
 (hpre:ZE m ts us (k+1)=(ZE m ts us k&&(true&&likeB m t.kids u.kids)))
 (J:qcZ S B cb wr (likeB m t.kids u.kids) (cnt m t.kids) L t.kids wv' (G++P.map prs) w3 P1 wv3) :
 ZQ S B cb w m (k+1) ts us bx by_ wv G w3 (P++P1) wv3:=by
 have hsz3:=J.below.size;have hszr:=I.size
 have hrow:∀ b,b<w.heap.size+1→wv.ownBlock≠some b→wv'.ownBlock≠some b:=by
  intro b hb h1 h2
  rcases I.row with h|⟨b',h,h3⟩
  · exact h1 (h.symm.trans h2)
  · rw[h]at h2;cases h2;omega
 have hbox:w3.heap[w.heap.size]?=wr.heap[w.heap.size]?:=J.frame _ (by omega) (by omega) (hrow _ (by omega) (fun e=>by have:=hwv _ e;omega))
 refine ⟨I.below.trans J.below,?_,?_,?_,?_,?_,by omega,?_,?_,?_⟩
 · have:=J.cst;simpa using this
 · rcases J.row with h | ⟨b, h, h1⟩
   · rw[h];exact I.row
   · exact Or.inr ⟨b,h,by omega⟩
 · intro b hb h1 h2;rw[J.frame b (by omega) h1 (hrow b (by omega) h2),I.frame b hb h1 h2]
 · rw[World.cell?_of_block (a:=⟨w.heap.size,0,none⟩) hbox];exact I.box0
 · rw[World.cell?_of_block (a:=⟨w.heap.size,1,none⟩) hbox];exact I.box1
 · intro e he
   rcases List.mem_append.1 he with he|he
   · exact I.pend e he
   · obtain ⟨h1, h2, h3⟩ := J.pend e he;exact ⟨h1,qa.carry (fun b hb=>⟨hb,(hS b hb).symm⟩) e.n h2,qa.carry (fun b hb=>⟨hb,(hS b hb).symm⟩) e.n h3⟩
 · rw[hpre,I.like,J.like,xK,Bool.true_and]
 · rw[j5, hsn, jF, xI, nx_nil, List.append_nil, zj];have h1:=J.less.1;have h2:=I.less;omega
theorem j3 {S:Nat→Prop}{B cb:Nat}{w:World}{m k:Nat}{ts us:List Tr}{bx by_:Value}{wv:Value}{G:List (Value × Value)}{wr w3:World}{P:List PE}{wv':Value}(I:ZQ S B cb w m k ts us bx by_ wv G wr P wv')
 (hf:∀ b,b<wr.heap.size→b≠cb→wv'.ownBlock≠some b→w3.heap[b]?=wr.heap[b]?):∀ b,b<w.heap.size→b≠cb→wv.ownBlock≠some b→w3.heap[b]?=w.heap[b]?:=by
 intro b hb h1 h2;have hszr:=I.size;rw[hf b (by omega) h1 ?_,I.frame b hb h1 h2]
 intro h3
 rcases I.row with h|⟨b',h,h4⟩
 · exact h2 (h.symm.trans h3)
 · rw[h]at h3;cases h3;omega
theorem qbb {S:Nat→Prop}{B cb:Nat}{w:World}{m k:Nat}{ts us:List Tr}{bx by_:Value}{wv:Value}{G:List (Value × Value)}{wr w3:World}{P:List PE}{wv':Value}(I:ZQ S B cb w m k ts us bx by_ wv G wr P wv')(hwv:∀ b,wv.ownBlock=some b→b<w.heap.size)(hcb:cb<w.heap.size)
 (hf:∀ b,b<wr.heap.size→b≠cb→wv'.ownBlock≠some b→w3.heap[b]?=wr.heap[b]?):w3.heap[w.heap.size]?=wr.heap[w.heap.size]?:=by
 have hszr:=I.size;refine hf _ (by omega) (by omega) fun h3=>?_
 rcases I.row with h|⟨b',h,h4⟩
 · have:=hwv _ (h.symm.trans h3);omega
 · rw[h]at h3;cases h3;omega
theorem Kz {S:Nat→Prop}{B cb:Nat}{w W0:World}{m:Nat}{ts us:List Tr}{bx by_:Value}{wv:Value}{G:List (Value × Value)}(hBw:B≤w.heap.size)(hsz:W0.heap.size=w.heap.size+1)(hbx:Below w.heap.size w W0)(hX:Pst B cb W0 wv G)
 (b0:W0.cell? ⟨w.heap.size,0,none⟩=some bx) (b1:W0.cell? ⟨w.heap.size,1,none⟩=some by_) :
 ZQ S B cb w m 0 ts us bx by_ wv G W0 [] wv :=
 ⟨hbx.mono hBw,by simpa using hX,Or.inl rfl,fun b hb _ _=>hbx.block b hb,b0,b1,by omega,by simp,by rw[qbo];rfl,by simp[jo]⟩
theorem VA {S:Nat→Prop}{B cb:Nat}{w:World}{m L:Nat}{ts us:List Tr}{bx by_:Value}{wv:Value}{G:List (Value × Value)}{wr:World}{P:List PE}{wv':Value}
 (hlen:ts.length=us.length) (I:ZQ S B cb w m ts.length ts us bx by_ wv G wr P wv'):qcZ S B cb w (likeB (m+1) ts us) (cnt (m+1) ts) L ts wv G wr P wv':=by
 have h:=I.less;rw[List.take_length]at h
 have h2:=Zx m ts;refine ⟨I.below,I.cst,?_,I.frame,I.pend,by rw[JS hlen];exact I.like,by omega,fun _=>by omega⟩
 rcases I.row with h|⟨b,h,h1⟩
 · exact Or.inl h
 · exact Or.inr ⟨b,h,by omega⟩
theorem ZY.back {S:Nat→Prop}{B cb:Nat}{w w1:World}{lk:Bool}{cs L:Nat}{ts:List Tr}{wv:Value}{G:List (Value × Value)}{r:Bool}{w':World}(hB:B≤w.heap.size)(hS:∀ b,S b→b<w.heap.size)(hb:Below w.heap.size w w1)
 (h:ZY S B cb w1 lk cs L ts wv G r w'):ZY S B cb w lk cs L ts wv G r w':=by
 cases r with
 | false=>exact ⟨h.1,(hb.mono hB).trans h.2.1,fun b h1 h2 h3=>by rw[h.2.2 b (Nat.lt_of_lt_of_le h1 hb.size) h2 h3,hb.block b h1]⟩
 | true =>
   obtain ⟨P,wv',J⟩:=h;have hsz:=hb.size;refine ⟨P,wv',(hb.mono hB).trans J.below,J.cst,?_,?_,?_,J.like,J.less⟩
   · rcases J.row with h | ⟨b, h, h1⟩
     · exact Or.inl h
     · exact Or.inr ⟨b,h,by omega⟩
   · intro b h1 h2 h3;rw[J.frame b (by omega) h2 h3,hb.block b h1]
   · intro e he;obtain ⟨h1,h2,h3⟩:=J.pend e he;exact ⟨h1,qa.carry (fun b hs=>⟨hs,(hb.block b (hS b hs)).symm⟩) e.n h2,qa.carry (fun b hs=>⟨hs,(hb.block b (hS b hs)).symm⟩) e.n h3⟩
set_option maxHeartbeats 1000000 in
theorem qbP (S:Nat→Prop)(B cb:Nat)(L:Nat)(hL:L<1000)(ih:XT S B cb L):XT S B cb (L+1):=by
 intro n v v' ts us wv G w hS0 hT hU hC hBw hG;have HS0:Hid (∀ b,S b→b<w.heap.size∧b≠cb∧wv.ownBlock≠some b):=hS0;clear hS0
 by_cases hlen:ts.length=us.length
 · by_cases hne : ts = []
   · subst hne;obtain rfl:us=[]:=List.eq_nil_of_length_eq_zero hlen.symm;exact qac S B cb (L+1) n v v' wv G w hT hU hC hBw
   · have hTo : Hid (qa S w n v ts) := hT;have hUo:Hid (qa S w n v' us):=hU;have HLEN:Hid (ts.length=us.length):=hlen;obtain ⟨va,vc,rfl,_,hvm⟩:=qa.shape n hT;obtain ⟨ua,uc,rfl,_,hum⟩:=qa.shape n hU;have hl0:0<ts.length:=List.length_pos_iff.2 hne;have hcn:=(qa.deep n hT).len;have hlt:=hC.lt;have hap:=hC.apart
     have hne1:((ts.length:Int)==0)=false:=by
      have:(ts.length:Int)≠0:=by omega
      simpa using this
     have hne3:((ts.length:Int) != us.length)=false:=by simp[hlen]
     have hne2:((((L+1:Nat):Int))==0)=false:=by
      have:(((L+1:Nat):Int))≠0:=by omega
      simpa using this
     obtain ⟨M,hM⟩:∃ M,L+1=M:=⟨_,rfl⟩;rw[hM]at hne2 ⊢
     have hbx:=Below.alloc1 w (.cells #[.slice va ts.length vc,.slice ua us.length uc] 111);have hX:=hC.later hbx;have b0:(w.alloc (.cells #[.slice va ts.length vc,.slice ua us.length uc] 111)).cell? ⟨w.heap.size,0,none⟩=some (.slice va ts.length vc):=by simp
     have b1:(w.alloc (.cells #[.slice va ts.length vc,.slice ua us.length uc] 111)).cell? ⟨w.heap.size,1,none⟩=some (.slice ua us.length uc):=by simp
     have hsz:(w.alloc (.cells #[.slice va ts.length vc,.slice ua us.length uc] 111)).heap.size=w.heap.size+1:=by simp
     have HIH:Hid (XT S B cb L):=ih;have HM:Hid (L+1=M):=hM;have HGl:Hid (G.length+cnt n ts≤1048576):=hG;have hlb:ts.length≤1048576:=by omega
     have HWV:Hid (∀ b,wv.ownBlock=some b→b<w.heap.size):=fun b hb=>(hC.own.lt b hb).2
     clear hT hU ih hM hlen hC hG hcn;unfold maxLen at hvm
     go_enter Tryz.func46,Tryz.ntmps46
     go_wp2_with fail
     generalize w.alloc (.cells #[.slice va ts.length vc,.slice ua us.length uc] 111)=W0 at hbx hX b0 b1 hsz ⊢
     have HS:Hid (W0.heap.size=w.heap.size+1):=hsz;have HX:Hid (Pst B cb W0 wv G):=hX;clear hsz hX;cases n with
     | zero=>exact absurd hTo.out.1 hne
     | succ m =>
     go_loopg [34] ts.length (fun g i wr=>∃ (k:Nat) (P:List PE) (wv':Value),k+g=ts.length∧i=.int .i64 k∧ZQ S B cb w m k ts us (.slice va ts.length vc) (.slice ua us.length uc) wv G wr P wv')
     case atStart => exact ⟨0,[],_,by omega,rfl,Kz hBw HS.out hbx HX.out b0 b1⟩
     case round =>
      obtain ⟨k,P,wv',hk,rfl,I⟩:=hrel;have HI:Hid (ZQ S B cb w m k ts us (.slice va ts.length vc) (.slice ua us.length uc) wv G wr P wv'):=I;have x0:=I.box0;have x1:=I.box1;have hBr:=I.below;have hsr:=I.size;clear I b0 b1 HX hbx HS
      by_cases hlt':k<ts.length
      · have hltu : k < us.length := by have := HLEN.out;omega
        have hneu:us≠[]:=by intro e;subst e;simp at hltu
        obtain ⟨_,_,hve,_,_,h4⟩:=hTo.out;obtain ⟨b,o,hao,hs,hcc⟩:=h4 hne
        injection hve with e1 e2 e3
        subst e1;subst hao;obtain ⟨_,_,hue,_,_,h4'⟩:=hUo.out;obtain ⟨b',o',hao',hs',hcc'⟩:=h4' hneu
        injection hue with e1' e2' e3'
        subst e1';subst hao';obtain ⟨t,ht⟩:∃ t,ts[k]?=some t:=⟨ts[k],by simp[hlt']⟩
        obtain ⟨u,hu⟩:∃ u,us[k]?=some u:=⟨us[k],by simp[hltu]⟩
        obtain ⟨xa,xk,c0,c1,c2,c3,hat,hkt⟩:=hcc k t ht;obtain ⟨ya,yk,c0',c1',c2',c3',hat',hkt'⟩:=hcc' k u hu;obtain ⟨ka,kc,rfl,_,hkm⟩:=qa.shape m hkt;obtain ⟨ka',kc',rfl,_,hkm'⟩:=qa.shape m hkt';have hkeep:∀ b,S b→wr.heap[b]?=w.heap[b]?:=fun b hb=>HI.out.frame b (HS0.out b hb).1 (HS0.out b hb).2.1 (HS0.out b hb).2.2
        have HKEEP:Hid (∀ b,S b→wr.heap[b]?=w.heap[b]?):=hkeep;rw[←World.cell?_of_block (a:=⟨b,o+k*4,none⟩) (hkeep b hs)]at c0
        rw[←World.cell?_of_block (a:=⟨b,o+k*4+1,none⟩) (hkeep b hs)]at c1
        rw[←World.cell?_of_block (a:=⟨b,o+k*4+2,none⟩) (hkeep b hs)]at c2
        rw[←World.cell?_of_block (a:=⟨b,o+k*4+3,none⟩) (hkeep b hs)]at c3
        rw[←World.cell?_of_block (a:=⟨b',o'+k*4,none⟩) (hkeep b' hs')]at c0'
        rw[←World.cell?_of_block (a:=⟨b',o'+k*4+1,none⟩) (hkeep b' hs')]at c1'
        rw[←World.cell?_of_block (a:=⟨b',o'+k*4+2,none⟩) (hkeep b' hs')]at c2'
        rw[←World.cell?_of_block (a:=⟨b',o'+k*4+3,none⟩) (hkeep b' hs')]at c3'
        have hbl:b<wr.drew.heap.size:=World.block_lt_of_cell? wr _ c0;have hbl':b'<wr.drew.heap.size:=World.block_lt_of_cell? wr _ c0'
        have hsn:ts.take (k+1)=ts.take k++[t]:=by
         rw[List.take_succ_eq_append_getElem hlt'];congr 2;simpa[hlt'] using ht
        have HSN:Hid (ts.take (k+1)=ts.take k++[t]):=hsn;have HKT:Hid (qa S wr.drew m (.slice ka t.kids.length kc) t.kids):=qa.carry (w:=w) (w':=wr.drew) (fun b hb=>⟨hb,hkeep b hb⟩) m hkt
        have HKU:Hid (qa S wr.drew m (.slice ka' u.kids.length kc') u.kids):=qa.carry (w:=w) (w':=wr.drew) (fun b hb=>⟨hb,hkeep b hb⟩) m hkt'
        have HPRE:Hid (ZE m ts us (k+1)=(ZE m ts us k&&(j8 t u&&likeB m t.kids u.kids))):=qbn ht hu;have HNO:Hid ((j8 t u&&likeB m t.kids u.kids)=false→likeB (m+1) ts us=false):=qcr ht hu;have HAL:Hid _:=qaI S S xa ya (.slice ka t.kids.length kc) (.slice ka' u.kids.length kc') t u wr.drew (qj.carry hat fun b hb=>⟨hb,hkeep b hb⟩) (qj.carry hat' fun b hb=>⟨hb,hkeep b hb⟩) ⟨_,_,_,rfl⟩ ⟨_,_,_,rfl⟩
        obtain ⟨aa,ac,rfl⟩:=hat.shape;obtain ⟨aa',ac',rfl⟩:=hat'.shape
        have hcl:cnt m t.kids≤cnt m (nx ts)∧jo P+cnt m t.kids≤cnt m (nx ts):=by
         have e:nx ts=nx (ts.take (k+1))++nx (ts.drop (k+1)):=by rw[←jF,List.take_append_drop]
         have h2:=HI.out.less;rw[e,zj,hsn,jF,xI,nx_nil,List.append_nil,zj];omega
        have HCALL:Hid (∀ w1,Below wr.drew.heap.size wr.drew w1→Calls Tryz.prog 46 #[.pointer (some ⟨cb,0,none⟩),.agg #[.slice ka t.kids.length kc,.slice ka' u.kids.length kc'],.int .i64 ((M:Int)-1)] w1 fun e w'=>∃ r,e=.returned r∧∃ q,r=.bool q∧ZY S B cb wr (likeB m t.kids u.kids) (cnt m t.kids) L t.kids wv' (G++P.map prs) q w'):=by
         intro w1 hb1;have I:=HI.out;have h3:=KN I.pend;have h5:=Zx m ts;have h6:=HGl.out;have hs1:=hb1.size
         have hfree0:∀ b,S b→b<wr.drew.heap.size∧b≠cb∧wv'.ownBlock≠some b:=by
          intro b hb;obtain ⟨q1,q2,q3⟩:=HS0.out b hb;refine ⟨Nat.lt_of_lt_of_le q1 (Nat.le_trans (Nat.le_succ _) I.size),q2,fun h=>?_⟩
          rcases I.row with h'|⟨b',h',h''⟩
          · exact q3 (h'.symm.trans h)
          · rw[h']at h;cases h;omega
         have hcst:Pst B cb wr.drew wv' (G++P.map prs):=⟨I.cst.base,I.cst.held,I.cst.own,I.cst.slices⟩;have hBr':B≤wr.drew.heap.size:=by show B≤wr.heap.size;omega
         have:=HIH.out m (.slice ka t.kids.length kc) (.slice ka' u.kids.length kc') t.kids u.kids wv' (G++P.map prs) w1 (fun b hb=>⟨Nat.lt_of_lt_of_le (hfree0 b hb).1 hs1,(hfree0 b hb).2⟩) (qa.later hb1 m HKT.out) (qa.later hb1 m HKU.out) (hcst.later hb1) (by omega) (by rw[List.length_append,List.length_map];omega)
         have e2:(L:Int)=(M:Int)-1:=by have:=HM.out;omega
         rw[e2]at this
         refine this.mono ?_;rintro e w' ⟨q,rfl,J⟩;exact ⟨_,rfl,q,rfl,ZY.back (w:=wr) (w1:=w1) hBr' (fun b hb=>(hfree0 b hb).1) ((Below.refl _ wr).drew.trans hb1) J⟩
        have hlti:(k:Int)<(ts.length:Int):=by omega
        have hlti':(k:Int)<(us.length:Int):=by omega
        have hMb:1≤M∧M≤1000:=by have:=HM.out;omega
        have hbr1:w.heap.size<wr.drew.heap.size:=by show w.heap.size<wr.heap.size;omega
        obtain ⟨q,hq⟩:∃ q,j8 t u=q:=⟨_,rfl⟩;rw[hq]at HPRE HNO HAL
        have HAL2:Hid (Calls Tryz.prog 81 #[.agg #[.bool t.text,.string t.s,.slice aa t.attrs.length ac,.slice ka t.kids.length kc],.agg #[.bool u.text,.string u.s,.slice aa' u.attrs.length ac',.slice ka' u.kids.length kc']] wr.drew fun e w'=>e=.returned (.bool q)∧Below wr.drew.heap.size wr.drew w'):=HAL.out
        have HY:Hid (∀ w1:World,(w1.heap[w.heap.size]?=wr.heap[w.heap.size]?∧w1.heap[b]?=wr.heap[b]?∧w1.heap[b']?=wr.heap[b']?) →
         w1.cell? ⟨w.heap.size,0,none⟩=some (.slice (some ⟨b,o,none⟩) ts.length vc)∧w1.cell? ⟨w.heap.size,1,none⟩=some (.slice (some ⟨b',o',none⟩) us.length uc) ∧
         w1.cell? ⟨b,o+k*4,none⟩=some (.bool t.text)∧w1.cell? ⟨b,o+k*4+1,none⟩=some (.string t.s)∧w1.cell? ⟨b,o+k*4+2,none⟩=some (.slice aa t.attrs.length ac)∧w1.cell? ⟨b,o+k*4+3,none⟩=some (.slice ka t.kids.length kc) ∧
         w1.cell? ⟨b',o'+k*4,none⟩=some (.bool u.text)∧w1.cell? ⟨b',o'+k*4+1,none⟩=some (.string u.s)∧w1.cell? ⟨b',o'+k*4+2,none⟩=some (.slice aa' u.attrs.length ac')∧w1.cell? ⟨b',o'+k*4+3,none⟩=some (.slice ka' u.kids.length kc')):=by
         rintro w1 ⟨p0,p1,p2⟩;refine ⟨?_,?_,?_,?_,?_,?_,?_,?_,?_,?_⟩
         · rw[World.cell?_of_block (a:=⟨w.heap.size,0,none⟩) p0];exact x0
         · rw[World.cell?_of_block (a:=⟨w.heap.size,1,none⟩) p0];exact x1
         · rw[World.cell?_of_block (a:=⟨b,o+k*4,none⟩) p1];exact c0
         · rw[World.cell?_of_block (a:=⟨b,o+k*4+1,none⟩) p1];exact c1
         · rw[World.cell?_of_block (a:=⟨b,o+k*4+2,none⟩) p1];exact c2
         · rw[World.cell?_of_block (a:=⟨b,o+k*4+3,none⟩) p1];exact c3
         · rw[World.cell?_of_block (a:=⟨b',o'+k*4,none⟩) p2];exact c0'
         · rw[World.cell?_of_block (a:=⟨b',o'+k*4+1,none⟩) p2];exact c1'
         · rw[World.cell?_of_block (a:=⟨b',o'+k*4+2,none⟩) p2];exact c2'
         · rw[World.cell?_of_block (a:=⟨b',o'+k*4+3,none⟩) p2];exact c3'
        have HY1:Hid (∀ w1,Below wr.drew.heap.size wr.drew w1→w1.heap[w.heap.size]?=wr.heap[w.heap.size]?∧w1.heap[b]?=wr.heap[b]?∧w1.heap[b']?=wr.heap[b']?):=fun w1 hb1=>⟨hb1.block _ hbr1,hb1.block _ hbl,hb1.block _ hbl'⟩
        have HY2:Hid (∀ r w3,ZY S B cb wr (likeB m t.kids u.kids) (cnt m t.kids) L t.kids wv' (G++P.map prs) r w3→w3.heap[w.heap.size]?=wr.heap[w.heap.size]?∧w3.heap[b]?=wr.heap[b]?∧w3.heap[b']?=wr.heap[b']?):=by
         intro r w3 J;refine ⟨qbb HI.out HWV.out hlt J.frame,?_,?_⟩
         · rw[j3 HI.out J.frame b (HS0.out b hs).1 (HS0.out b hs).2.1 (HS0.out b hs).2.2,HKEEP.out b hs]
         · rw[j3 HI.out J.frame b' (HS0.out b' hs').1 (HS0.out b' hs').2.1 (HS0.out b' hs').2.2,HKEEP.out b' hs']
        have hy0:=HY.out wr.drew ⟨rfl,rfl,rfl⟩
        have HCALL2:Hid (∀ w1,Below wr.drew.heap.size wr.drew w1→Calls Tryz.prog 46 #[.pointer (some ⟨cb,0,none⟩),.agg #[.slice ka t.kids.length kc,.slice ka' u.kids.length kc'],.int .i64 (IntKind.i64.wrap ((M:Int)-1))] w1 fun e w'=>∃ r,e=.returned r∧∃ q,r=.bool q∧ZY S B cb wr (likeB m t.kids u.kids) (cnt m t.kids) L t.kids wv' (G++P.map prs) q w'):=by
         rw[IntWalk.i64_in _ (by omega)];exact HCALL.out
        clear HAL hq hat hat' hkt hkt' hcc hcc' h4 h4' e2 e3 e2' e3' ht hu hsn hcl hkeep HIH c0 c1 c2 c3 c0' c1' c2' c3' x0 x1 hs hs';cases q with
        | false =>
          have HF:Hid (likeB (m+1) ts us=false):=HNO.out rfl;clear HNO HPRE HCALL HCALL2 HY2;go_wp2_with fail
          refine wp_region_held_drew (S:=(fun w1:World=>w1.cell? ⟨w.heap.size,0,none⟩=some (.slice (some ⟨b,o,none⟩) ts.length vc)∧w1.cell? ⟨w.heap.size,1,none⟩=some (.slice (some ⟨b',o',none⟩) us.length uc) ∧
           w1.cell? ⟨b,o+k*4,none⟩=some (.bool t.text)∧w1.cell? ⟨b,o+k*4+1,none⟩=some (.string t.s)∧w1.cell? ⟨b,o+k*4+2,none⟩=some (.slice aa t.attrs.length ac)∧w1.cell? ⟨b,o+k*4+3,none⟩=some (.slice ka t.kids.length kc) ∧
           w1.cell? ⟨b',o'+k*4,none⟩=some (.bool u.text)∧w1.cell? ⟨b',o'+k*4+1,none⟩=some (.string u.s)∧w1.cell? ⟨b',o'+k*4+2,none⟩=some (.slice aa' u.attrs.length ac')∧w1.cell? ⟨b',o'+k*4+3,none⟩=some (.slice ka' u.kids.length kc'))) (by kernel_rfl) hy0 (fun hHeld=>?_)
          refine wpAnyH_take (i:=0) (v:=?_) rfl (by kernel_rfl) (by kernel_rfl) (by kernel_rfl) (fun _ _ _ h=>h) (Or.inl ⟨by rfl,?_⟩) (by assumption) ?_
          rotate_left
          · (intro w hSw;(try dsimp only at hSw);go_simp;try with_reducible rfl)
          try simp only[Act.put,List.getElem_toArray,List.getElem_cons_zero,List.setIfInBounds_toArray,List.set_cons_zero,List.set_cons_succ]
          refine wqi [1,2,3,4,5,6,7,8,9] ?_
          repeat (refine wqt (v:=?_) rfl (by kernel_rfl) (fun _ _ _ h=>h) (by rfl) (by assumption) ?_ ?_;rotate_left;(· (intro w hSw;(try dsimp only at hSw);go_simp;try with_reducible rfl));try simp only[Act.put,List.getElem_toArray,List.getElem_cons_succ,List.getElem_cons_zero,List.setIfInBounds_toArray,List.set_cons_zero,List.set_cons_succ])
          refine wqn ?_;refine wpAnyH_ready (rs:=[10]) (by kernel_rfl) (by simp) ?_
          refine AllReadyH.cons rfl (fun K hK=>?_) AllReadyH.nil
          refine qK (by rfl) 81 #[.agg #[.bool t.text,.string t.s,.slice aa t.attrs.length ac,.slice ka t.kids.length kc],.agg #[.bool u.text,.string u.s,.slice aa' u.attrs.length ac',.slice ka' u.kids.length kc']] (by go_simp) (fun r w'=>r=.bool false∧Below wr.drew.heap.size wr.drew w') (Calls.mono HAL2.out (by rintro e w' ⟨rfl,h⟩;exact ⟨_,rfl,rfl,h⟩)) ?_
          rintro r w1 ⟨rfl,hb1⟩;refine hK.out _ _ (HY.out _ (HY1.out _ hb1)) (fun hHeld=>?_)
          clear hK K
          try simp only[Act.put,List.getElem_toArray,List.getElem_cons_succ,List.getElem_cons_zero,List.setIfInBounds_toArray,List.set_cons_zero,List.set_cons_succ]
          refine wqi [11,12] ?_
          repeat (refine wqt (v:=?_) rfl (by kernel_rfl) (fun _ _ _ h=>h) (by rfl) (by assumption) ?_ ?_;rotate_left;(· (intro w hSw;(try dsimp only at hSw);go_simp;try with_reducible rfl));try simp only[Act.put,List.getElem_toArray,List.getElem_cons_succ,List.getElem_cons_zero,List.setIfInBounds_toArray,List.set_cons_zero,List.set_cons_succ])
          refine wqn ?_;refine wqi [13,14,15,16,17,18,19,20,21,22,23,24,25,26,27,28,29,30] ?_
          repeat (refine wqu rfl (by kernel_rfl) (fun _ _ _ h=>h) (by rfl) (by assumption) ?_;try simp only[Act.put,List.getElem_toArray,List.getElem_cons_succ,List.getElem_cons_zero,List.setIfInBounds_toArray,List.set_cons_zero,List.set_cons_succ])
          refine wqn ?_;refine wpAnyH_take (i:=31) (v:=?_) rfl (by kernel_rfl) (by kernel_rfl) (by kernel_rfl) (fun _ _ _ h=>h) (Or.inl ⟨by rfl,?_⟩) (by assumption) ?_
          rotate_left
          · (intro w hSw;(try dsimp only at hSw);go_simp;try with_reducible rfl)
          try simp only[Act.put,List.getElem_toArray,List.getElem_cons_succ,List.getElem_cons_zero,List.setIfInBounds_toArray,List.set_cons_zero,List.set_cons_succ]
          refine wpAnyH_done (by kernel_rfl) ?_ _
          all_goals
           go_wp2_with fail;go_ret;exact ⟨false,rfl,HF.out,hBr.drew.trans (hb1.mono (by omega)),j3 HI.out fun b hb _ _=>hb1.block b hb⟩
        | true =>
          go_wp2_with fail
          go_region_held3 (fun w1:World=>w1.cell? ⟨w.heap.size,0,none⟩=some (.slice (some ⟨b,o,none⟩) ts.length vc)∧w1.cell? ⟨w.heap.size,1,none⟩=some (.slice (some ⟨b',o',none⟩) us.length uc) ∧
           w1.cell? ⟨b,o+k*4,none⟩=some (.bool t.text)∧w1.cell? ⟨b,o+k*4+1,none⟩=some (.string t.s)∧w1.cell? ⟨b,o+k*4+2,none⟩=some (.slice aa t.attrs.length ac)∧w1.cell? ⟨b,o+k*4+3,none⟩=some (.slice ka t.kids.length kc) ∧
           w1.cell? ⟨b',o'+k*4,none⟩=some (.bool u.text)∧w1.cell? ⟨b',o'+k*4+1,none⟩=some (.string u.s)∧w1.cell? ⟨b',o'+k*4+2,none⟩=some (.slice aa' u.attrs.length ac')∧w1.cell? ⟨b',o'+k*4+3,none⟩=some (.slice ka' u.kids.length kc'))
           (first|exact hy0|exact HY.out _ (HY2.out _ _ J)|exact HY.out _ (HY1.out _ hb1)|go_keep)
           (first
            | (go_at_call 81;refine (Calls.mono HAL2.out ?_);rintro e w1 ⟨rfl,hb1⟩)
            | (go_at_call 46;refine (Calls.mono (HCALL2.out _ hb1) ?_);rintro e w3 ⟨r,rfl,q,rfl,J⟩)
            | (go_at_call 46;refine (Calls.mono (HCALL.out _ hb1) ?_);rintro e w3 ⟨r,rfl,q,rfl,J⟩))
          all_goals
           cases q with
           | false =>
             have HF:Hid (likeB (m+1) ts us=false):=HNO.out (by rw[J.1];rfl)
             go_wp2_with fail;go_ret;exact ⟨false,rfl,HF.out,hBr.trans J.2.1,j3 HI.out J.2.2⟩
           | true =>
             obtain ⟨P1,wv3,J⟩:=J;go_wp2_with fail
             go_roundg (ts.length-(k+1))
             case measure => omega
             case rel => exact ⟨k+1,_,_,by omega,by go_num,Vz HKEEP.out HI.out HWV.out hlt HSN.out HPRE.out J⟩
      · have hkk : k = ts.length := by omega
        subst hkk;go_wp2_with fail;go_ret;exact ⟨true,rfl,_,_,VA HLEN.out HI.out⟩
 · exact qab S B cb (L+1) n v v' ts us wv G w hT hU hBw hlen
section
attribute [local go_sem] qd
theorem qdd (S:Nat→Prop)(B cb:Nat):∀ L,L≤1000→XT S B cb L:=by
 intro L
 induction L with
 | zero=>intro _;exact qbQ S B cb
 | succ L ih=>intro h;exact qbP S B cb L (by omega) (ih (by omega))
structure qec (S:Nat→Prop) (B cb:Nat) (w:World) (lk:Bool) (w':World) (P:List PE) (wv:Value):Prop where
 below:Below B w w'
 cst:Pst B cb w' wv (P.map prs)
 keep:∀ b,S b→w'.heap[b]?=w.heap[b]?
 free:∀ b,S b→wv.ownBlock≠some b
 pend:∀ e∈P,V9 S w e
 like:lk=Qf P
theorem qaQ {S:Nat→Prop}{B cb n:Nat}{va ua:Option Addr}{vc uc:Nat}{ts us:List Tr}{w:World}(hS:∀ b,S b→b<w.heap.size∧b≠cb)(hne:ts≠[])(hT:qa S w n (.slice va ts.length vc) ts)(hU:qa S w n (.slice ua us.length uc) us)(hC:Pst B cb w (.slice none 0 0) [])(hBw:B≤w.heap.size) :
 qec S B cb w (likeB n ts us) ((w.setCell ⟨cb,0,none⟩ (.slice (some ⟨w.heap.size,0,none⟩) 1 1)).alloc (.cells #[.slice va ts.length vc,.slice ua us.length uc] 111)) [⟨.slice va ts.length vc,.slice ua us.length uc,n,ts,us⟩] (.slice (some ⟨w.heap.size,0,none⟩) 1 1):=by
 have hlt:=hC.lt;refine ⟨((Below.refl B w).setCell hC.base _).alloc (by simp;omega) _,⟨hC.base,?_,?_,?_⟩,?_,?_,?_,?_⟩
 · rw[Lib.alloc_old _ _ _ (by simp;omega)]
   simp[World.setCell,Array.getElem?_modify,hC.held]
 · have := World.ownsRow_lit (base := B) (e := 111) (size := 2) (w.setCell ⟨cb, 0, none⟩ (.slice (some ⟨w.heap.size, 0, none⟩) 1 1)) #[.slice va ts.length vc, .slice ua us.length uc] 1 (by simp;omega) (by unfold maxLen;omega) rfl
   simpa[prs,pairCells] using this
 · intro x hx;simp[prs]at hx
   subst hx;exact ⟨⟨_,_,_,rfl⟩,_,_,_,rfl⟩
 · intro b hb;rw[Lib.alloc_old _ _ _ (by simp;exact (hS b hb).1),Below.heap_setCell _ _ _ _ (hS b hb).2]
 · intro b hb h;cases h;exact Nat.lt_irrefl _ (hS _ hb).1
 · intro e he;simp at he
   subst he;exact ⟨hne,hT,hU⟩
 · simp[Qf]
theorem Xk (S:Nat→Prop)(B cb n:Nat)(v v':Value)(ts us:List Tr)(w:World)(hS:∀ b,S b→b<w.heap.size∧b≠cb)(hne:ts≠[])(hT:qa S w n v ts)(hU:qa S w n v' us)(hC:Pst B cb w (.slice none 0 0) [])(hBw:B≤w.heap.size)(hcnt:cnt n ts≤1048576) :
 Calls Tryz.prog 31 #[.pointer (some ⟨cb,0,none⟩),v,v'] w fun e w'=>e=.returned (.bool (likeB n ts us))∧Below B w w':=by
 obtain ⟨va,vc,rfl,_,hvm⟩:=qa.shape n hT;obtain ⟨ua,uc,rfl,_,hum⟩:=qa.shape n hU;have hlt:=hC.lt;have c2:w.cell? ⟨cb,0,none⟩=some (.slice none 0 0):=by rw[cH9 hC.held];rfl
 have f2:w.frozen? ⟨cb,0,none⟩=false:=fH9 hC.held 0;have HC:Hid (Pst B cb w (.slice none 0 0) []):=hC;have HT:Hid (qa S w n (.slice va ts.length vc) ts):=hT;have HU:Hid (qa S w n (.slice ua us.length uc) us):=hU;clear hC hT hU
 go_enter Tryz.func31,Tryz.ntmps31
 go_wp2_with fail
 go_loopg [] (cnt n ts) (fun g wr=>∃ P wv,jo P=g∧jo P≤cnt n ts∧qec S B cb w (likeB n ts us) wr P wv)
 case atStart => exact ⟨_,_,by simp[jo],by simp[jo],qaQ hS hne HT.out HU.out HC.out hBw⟩
 case round =>
  obtain ⟨P,wv,hm,hpc,I⟩:=hrel;subst hm;obtain ⟨wa,wc,rfl⟩:=I.cst.shape;rw[List.length_map]at I
  have d2:wr.cell? ⟨cb,0,none⟩=some (.slice wa P.length wc):=by rw[cH9 I.cst.held];rfl
  have HI:Hid (qec S B cb w (likeB n ts us) wr P (.slice wa P.length wc)):=I;clear I
  rcases List.eq_nil_or_concat P with rfl|⟨P0,e,hPe⟩
  · simp only[List.length_nil]at d2
    go_wp2_with fail;go_ret;exact ⟨by rw[HI.out.like];rfl,HI.out.below⟩
  · rw[List.concat_eq_append]at hPe
    subst hPe;have hl:(P0++[e]).length=P0.length+1:=by simp
    rw[hl]at d2
    have hcs:Pst B cb wr (.slice wa (P0++[e]).length wc) (P0.map prs++[(e.v,e.v')]):=by
     have:=HI.out.cst;rw[List.map_append,List.map_cons,List.map_nil]at this
     exact this
    have hszr:B≤wr.heap.size:=Nat.le_trans hBw HI.out.below.size;have HCS:Hid _:=hcs;clear hcs;go_wp2_with fail;refine (qbD B cb wr _ (P0.map prs) e.v e.v' HCS.out hszr).mono ?_;rintro e' w1 ⟨rfl,v1,hc1,hv1,hk1,hb1⟩;have hB1:Below B w w1:=HI.out.below.trans hb1;obtain ⟨hp1,hp2,hp3⟩:=HI.out.pend e (by simp)
    have hwr:=HI.out.below.size;have hw1:=hb1.size;have hkp:∀ b,S b→w1.heap[b]?=w.heap[b]?:=fun b hb=>(hk1 b (by have:=(hS b hb).1;omega) (hS b hb).2).trans (HI.out.keep b hb)
    have HKP:Hid (∀ b,S b→w1.heap[b]?=w.heap[b]?):=hkp;have hfr:∀ b,S b→b<w1.heap.size∧b≠cb∧v1.ownBlock≠some b:=fun b hb=>⟨by have:=(hS b hb).1;omega,(hS b hb).2,by rw[hv1];exact HI.out.free b hb⟩
    have HFR:Hid (∀ b,S b→b<w1.heap.size∧b≠cb∧v1.ownBlock≠some b):=hfr;have hTe:qa S w1 e.n e.v e.ts:=qa.carry (fun b hb=>⟨hb,hkp b hb⟩) e.n hp2
    have hUe:qa S w1 e.n e.v' e.us:=qa.carry (fun b hb=>⟨hb,hkp b hb⟩) e.n hp3
    have h3:jo (P0++[e])=jo P0+cnt e.n e.ts:=by rw[j5];simp[jo]
    have h5:=KN (P:=P0) (fun x hx=>HI.out.pend x (by simp[hx]))
    rw[h3]at hpc
    have hcall:=qdd S B cb 1000 (nR9 _) e.n e.v e.v' e.ts e.us v1 (P0.map prs) w1 hfr hTe hUe hc1 (by have:=hb1.size;omega) (by rw[List.length_map];omega)
    rw[show ((1000:Nat):Int)=1000 from rfl]at hcall
    have HCALL:Hid _:=hcall;have H3:Hid (jo (P0++[e])=jo P0+cnt e.n e.ts):=h3;have HPC:Hid (jo P0+cnt e.n e.ts≤cnt n ts):=hpc
    have HLK:Hid (likeB n ts us=(Qf P0&&likeB e.n e.ts e.us)):=by
     show _=_;rw[HI.out.like,xK];simp[Qf]
    clear hcall hkp hfr hk1 d2 h3 h5 hp3 hTe hUe hc1 hv1 hl hszr hpc;go_wp2_with fail;refine (Calls.mono HCALL.out ?_);rintro e' w2 ⟨r,rfl,J⟩;cases r with
    | false =>
      have HF:Hid (likeB n ts us=false):=by show _=_;rw[HLK.out,J.1,Bool.and_false]
      go_wp2_with fail;go_ret;exact ⟨by rw[HF.out];rfl,hB1.trans J.2.1⟩
    | true =>
    obtain ⟨P1,wv3,J⟩:=J;go_wp2_with fail
    go_roundg (jo (P0++P1))
    case measure =>
     have h7:=J.less.2 (by omega)
     have h8:=List.length_pos_iff.2 hp1;rw[H3.out,j5];omega
    case rel =>
     refine ⟨P0++P1,wv3,rfl,?_,hB1.trans J.below,by rw[List.map_append];exact J.cst,fun b hb=>(J.frame b (HFR.out b hb).1 (HFR.out b hb).2.1 (HFR.out b hb).2.2).trans (HKP.out b hb),?_,?_,?_⟩
     · have h7 := J.less.1;have:=HPC.out;rw[j5];omega
     · intro b hb h
       rcases J.row with h'|⟨b',h',h''⟩
       · exact (HFR.out b hb).2.2 (h'.symm.trans h)
       · rw[h']at h;cases h;have:=(HFR.out _ hb).1;omega
     · intro x hx
       rcases List.mem_append.1 hx with hx|hx
       · exact HI.out.pend x (by simp[hx])
       · obtain ⟨q1, q2, q3⟩ := J.pend x hx;exact ⟨q1,qa.carry (fun b hb=>⟨hb,(HKP.out b hb).symm⟩) x.n q2,qa.carry (fun b hb=>⟨hb,(HKP.out b hb).symm⟩) x.n q3⟩
     · rw[HLK.out,xK,J.like]
theorem J2 {S:Nat→Prop}{w W:World}{n g:Nat}{aa ka:Option Addr}{ac kc:Nat}{t:Tr}(hg:W.heap[g]?=some (.cells #[.bool t.text,.string t.s,.slice aa t.attrs.length ac,.slice ka t.kids.length kc] 51 (0,0)))
 (hb:Below w.heap.size w W) (hA:qj (fun b=>S b∧b<w.heap.size) w (.slice aa t.attrs.length ac) t.attrs) (hK:qa (fun b=>S b∧b<w.heap.size) w n (.slice ka t.kids.length kc) t.kids) :
 qa (fun b=>(S b∧b<w.heap.size)∨b=g) W (n+1) (.slice (some ⟨g,0,none⟩) 1 1) [t] :=
 qa.of_block (S:=fun b=>S b∧b<w.heap.size) (n:=n) (len:=1) (cap:=1) (ts:=[t]) (e:=51) (fz:=(0,0)) (qs:=[(t.text,t.s,.slice aa t.attrs.length ac,.slice ka t.kids.length kc)]) hg rfl rfl rfl (nR9 _) (by unfold maxLen;simp) (by
  intro i q t' hq ht';cases i with
  | zero =>
    simp at hq ht'
    subst hq ht';exact ⟨rfl,rfl,hA.later hb,qa.later hb n hK⟩
  | succ i=>simp at ht')
theorem qcN (S S':Nat→Prop)(n:Nat)(va vk va' vk':Value)(t u:Tr)(w:World)(h:qj S w va t.attrs)(hk:qa S w n vk t.kids)(h':qj S' w va' u.attrs)(hk':qa S' w n vk' u.kids)(hc:cnt (n+1) [t]≤1048576) :
 Calls Tryz.prog 17 #[.agg #[.bool t.text,.string t.s,va,vk],.agg #[.bool u.text,.string u.s,va',vk']] w fun e w'=>e=.returned (.bool (likeB (n+1) [t] [u]))∧Below w.heap.size w w':=by
 obtain ⟨aa,ac,rfl⟩:=h.shape;obtain ⟨ka,kc,rfl,_,_⟩:=qa.shape n hk;obtain ⟨aa',ac',rfl⟩:=h'.shape;obtain ⟨ka',kc',rfl,_,_⟩:=qa.shape n hk';have HA:Hid (qj (fun b=>S b∧b<w.heap.size) w (.slice aa t.attrs.length ac) t.attrs):=h.bounded
 have HK:Hid (qa (fun b=>S b∧b<w.heap.size) w n (.slice ka t.kids.length kc) t.kids):=qa.bounded n hk
 have HA':Hid (qj (fun b=>S' b∧b<w.heap.size) w (.slice aa' u.attrs.length ac') u.attrs):=h'.bounded
 have HK':Hid (qa (fun b=>S' b∧b<w.heap.size) w n (.slice ka' u.kids.length kc') u.kids):=qa.bounded n hk'
 clear h hk h' hk'
 have hmain:∀ X Y,X=Obj.cells #[.bool t.text,.string t.s,.slice aa t.attrs.length ac,.slice ka t.kids.length kc] 51→Y=Obj.cells #[.bool u.text,.string u.s,.slice aa' u.attrs.length ac',.slice ka' u.kids.length kc'] 51 →
  Calls Tryz.prog 31 #[.pointer (some ⟨w.heap.size+1+1,0,none⟩),.slice (some ⟨w.heap.size+1+1+1,0,none⟩) 1 1,.slice (some ⟨w.heap.size+1+1+1+1,0,none⟩) 1 1] (((((w.alloc X).alloc Y).alloc (.cells #[.slice none 0 0] 81)).alloc X).alloc Y) fun e w'=>e=.returned (.bool (likeB (n+1) [t] [u]))∧Below w.heap.size w w':=by
  intro X Y hX hY;have s1:(w.alloc X).heap.size=w.heap.size+1:=by simp
  have s2:((w.alloc X).alloc Y).heap.size=w.heap.size+1+1:=by simp
  have s3:(((w.alloc X).alloc Y).alloc (.cells #[.slice none 0 0] 81)).heap.size=w.heap.size+1+1+1:=by simp
  have s4:((((w.alloc X).alloc Y).alloc (.cells #[.slice none 0 0] 81)).alloc X).heap.size=w.heap.size+1+1+1+1:=by simp
  have hB5:Below w.heap.size w (((((w.alloc X).alloc Y).alloc (.cells #[.slice none 0 0] 81)).alloc X).alloc Y):=((((Below.alloc1 w X).alloc (by omega) Y).alloc (by omega) _).alloc (by omega) X).alloc (by omega) Y
  have g3:(((((w.alloc X).alloc Y).alloc (.cells #[.slice none 0 0] 81)).alloc X).alloc Y).heap[w.heap.size+1+1]?=some (.cells #[.slice none 0 0] 81 (0,0)):=by
   rw[Lib.alloc_old _ _ _ (by omega),Lib.alloc_old _ _ _ (by omega)]
   have e:=heap_alloc_new ((w.alloc X).alloc Y) (.cells #[.slice none 0 0] 81);rw[s2]at e
   exact e
  have g4:(((((w.alloc X).alloc Y).alloc (.cells #[.slice none 0 0] 81)).alloc X).alloc Y).heap[w.heap.size+1+1+1]?=some X:=by
   rw[Lib.alloc_old _ _ _ (by omega)]
   have e:=heap_alloc_new (((w.alloc X).alloc Y).alloc (.cells #[.slice none 0 0] 81)) X;rw[s3]at e
   exact e
  have g5:(((((w.alloc X).alloc Y).alloc (.cells #[.slice none 0 0] 81)).alloc X).alloc Y).heap[w.heap.size+1+1+1+1]?=some Y:=by
   have e:=heap_alloc_new ((((w.alloc X).alloc Y).alloc (.cells #[.slice none 0 0] 81)).alloc X) Y;rw[s4]at e
   exact e
  generalize (((((w.alloc X).alloc Y).alloc (.cells #[.slice none 0 0] 81)).alloc X).alloc Y)=W at hB5 g3 g4 g5 ⊢
  rw[hX]at g4
  rw[hY]at g5
  have hT:=J2 g4 hB5 HA.out HK.out;have hU:=J2 g5 hB5 HA'.out HK'.out;have hCst:Pst w.heap.size (w.heap.size+1+1) W (.slice none 0 0) []:=⟨by omega,g3,World.ownsRow_nil _ _ _ _,by simp⟩
  have hl5:w.heap.size+1+1+1+1<W.heap.size:=by
   rcases Nat.lt_or_ge (w.heap.size+1+1+1+1) W.heap.size with h'|h'
   · exact h'
   · simp[Array.getElem?_eq_none h']at g5
  have hcall:=Xk (fun b=>(b<w.heap.size)∨b=w.heap.size+1+1+1∨b=w.heap.size+1+1+1+1) w.heap.size (w.heap.size+1+1) (n+1) _ _ [t] [u] W (by intro b hb;rcases hb with hb|rfl|rfl<;>omega) (by simp)
   (qa.carry (fun b hb=>⟨by rcases hb with hb|hb;exact Or.inl hb.2;exact Or.inr (Or.inl hb),rfl⟩) _ hT) (qa.carry (fun b hb=>⟨by rcases hb with hb|hb;exact Or.inl hb.2;exact Or.inr (Or.inr hb),rfl⟩) _ hU) hCst hB5.size hc
  refine hcall.mono ?_;rintro e w2 ⟨rfl,hb2⟩;exact ⟨rfl,hB5.trans hb2⟩
 have HM:Hid _:=hmain _ _ rfl rfl;clear hmain HA HK HA' HK';obtain ⟨q,hq⟩:∃ q,likeB (n+1) [t] [u]=q:=⟨_,rfl⟩;rw[hq]at HM ⊢
 clear hq hc
 go_enter Tryz.func17,Tryz.ntmps17
 go_wp2_with fail;refine (Calls.mono HM.out ?_);rintro e w2 ⟨rfl,hb2⟩;go_wp2_with fail;go_ret;exact ⟨rfl,hb2⟩
end
end Go.Proofs.YtchkbffgancidaaGreatDoor
