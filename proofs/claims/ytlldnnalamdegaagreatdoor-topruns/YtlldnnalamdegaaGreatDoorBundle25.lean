/- Bundled: ParseW ParseX KeepM BenchW WrongW AgainW MeantP SelectP. What each says stands ahead of it. -/
import Derived.Test.YtlldnnalamdegaaGreatDoorBundle22
import Derived.Test.YtlldnnalamdegaaGreatDoorBundle23
import Derived.Test.YtlldnnalamdegaaGreatDoorBundle24
import Derived.Lib.AppendIntMem
namespace Go.Proofs.YtlldnnalamdegaaGreatDoor
open Go.ChangeShapes Go.WideShapes Go.ChangeAt Go.RowKit
set_option maxRecDepth 100000
section
attribute [local go_sem] qd
structure JS (w:World):Prop where
 max:∃ m,w.cell? ⟨2,0,none⟩=some (.int .i64 m)
 syn:∃ ev,w.cell? ⟨5,0,none⟩=some ev∧(ev=.nilIface∨∃ te pe,ev=.iface te pe)
 rng:∃ ev,w.cell? ⟨6,0,none⟩=some ev∧(ev=.nilIface∨∃ te pe,ev=.iface te pe)
 tab : Lib.TabIs Tryz.prog w "internal/strconv.uint64pow10" .u64 Lib.pow10Tab
theorem ZH {P:Program}{w w':World}{name:String}{k:IntKind}{zs:List Int}(h:Lib.TabIs P w name k zs)(hb:Below w.heap.size w w'):Lib.TabIs P w' name k zs:=by
 unfold Lib.TabIs World.var? at h ⊢
 cases hg:P.globalNamed name with
 | none=>simp[hg]at h
 | some g =>
   simp only[hg,Option.bind_some]at h ⊢
   have hlt:g<w.heap.size:=by
    rcases Nat.lt_or_ge g w.heap.size with h'|h'
    · exact h'
    · simp[Array.getElem?_eq_none h']at h
   rw[hb.block g hlt];exact h
theorem JS.later {w w':World}(h:JS w)(hb:Below w.heap.size w w'):JS w':=by
 obtain ⟨⟨m,hm⟩,⟨e1,h1,k1⟩,⟨e2,h2,k2⟩,ht⟩:=h;refine ⟨⟨m,?_⟩,⟨e1,?_,k1⟩,⟨e2,?_,k2⟩,ZH ht hb⟩
 · rw[hb.cell (World.block_lt_of_cell? w _ hm)];exact hm
 · rw[hb.cell (World.block_lt_of_cell? w _ h1)];exact h1
 · rw[hb.cell (World.block_lt_of_cell? w _ h2)];exact h2
set_option maxHeartbeats 2000000 in
theorem Y5 (s:ByteArray)(w:World)(hE:JS w)(hs:s.size≤2500) :
 Calls Tryz.prog 134 #[.string s] w fun e w'=>e=.returned (.tuple #[.int .i64 ((zX s.data.toList).getD 0),.bool (zX s.data.toList).isSome])∧Below w.heap.size w w':=by
 obtain ⟨hm,⟨e1,h1,k1⟩,⟨e2,h2,k2⟩,ht⟩:=hE;obtain ⟨D,hD⟩:∃ D:List UInt8,Lib.trimSuffix s.data.toList [93]=D:=⟨_,rfl⟩;obtain ⟨C,hC⟩:∃ C,Lib.hasSuffix s.data.toList [93]=C:=⟨_,rfl⟩
 have HIR:Hid (zX s.data.toList=match Lib.atoiAll D with|.ok n=>if C=true∧n≠0∧Lib.itoa n=D then some n else none|_=>none):=by
  show _=_
  unfold zX;rw[hD,hC];cases Lib.atoiAll D<;>rfl
 have hDl:D.length≤2500:=by
  rw[←hD];unfold Lib.trimSuffix;have:s.data.toList.length=s.size:=by rw[Array.length_toList];rfl
  split
  · rw[List.length_take];omega
  · omega
 have hDs:(⟨D.toArray⟩:ByteArray).size≤2500:=by show D.toArray.size≤2500;simpa using hDl
 have HCS:Hid _:=Tryz.strings_CutSuffix s ⟨#[93]⟩ w (by omega)
 rw[show (⟨#[93]⟩:ByteArray).data.toList=[93] from rfl,hD,hC]at HCS
 have hDd:(⟨D.toArray⟩:ByteArray).data.toList=D:=by simp
 have HIT:Hid (∀ n:Int,-9223372036854775808≤n→n≤9223372036854775807→∀ W,Below w.heap.size w W→Calls Tryz.prog 170 #[.int .i64 n] W fun e w'=>e=.returned (.string ⟨(Lib.itoa n).toArray⟩)∧Below w.heap.size w w'):=by
  intro n g0 g1 W hW;refine (Tryz.strconv_Itoa n g0 g1 W (ZH ht hW)).mono ?_;rintro e w' ⟨rfl,k,os,rfl⟩;exact ⟨rfl,hW.trans ((Lib.below_grow _ W (nR9 _) k os).mono hW.size)⟩
 cases hat:Lib.atoiAll D with
 | ok n =>
   obtain ⟨n0,n1⟩:=Lib.atoiAll_bounds hat
   have HA:Hid (Calls Tryz.prog 169 #[.string ⟨D.toArray⟩] w fun e w'=>e=.returned (.tuple #[.int .i64 n,.nilIface])∧Below w.heap.size w w'):=by
    refine (Tryz.strconv_Atoi_ok ⟨D.toArray⟩ (by omega) n (by rw[hDd];exact hat) w).mono ?_
    rintro e w' ⟨rfl,hw⟩
    rcases hw with rfl|⟨t,rfl⟩
    · exact ⟨rfl,Below.refl _ _⟩
    · exact ⟨rfl,Lib.bytesWorld_below _ _ _⟩
   have HI2:Hid (∀ W,Below w.heap.size w W→Calls Tryz.prog 170 #[.int .i64 n] W fun e w'=>e=.returned (.string ⟨(Lib.itoa n).toArray⟩)∧Below w.heap.size w w'):=HIT.out n n0 n1
   rw[hat]at HIR
   have HIR2:Hid (zX s.data.toList=if C=true∧n≠0∧Lib.itoa n=D then some n else none):=HIR.out
   clear HIR hat hD hC hm h1 k1 h2 k2 ht hDl hDs hDd HIT hs;cases C with
   | false =>
     have HE:Hid (zX s.data.toList=none):=by show _=_;rw[HIR2.out];simp
     clear HIR2
     go_enter Tryz.func134,Tryz.ntmps134
     go_wp2_with fail;refine (Calls.mono HCS.out ?_);rintro e w1 ⟨rfl,rfl⟩;go_wp2_with fail;refine (Calls.mono HA.out ?_);rintro e w2 ⟨rfl,hb2⟩;go_wp2_with fail
     go_ret2
     exact ⟨by rw[HE.out];rfl,hb2⟩
   | true =>
     by_cases hn:n=0
     · have HE : Hid (zX s.data.toList = none) := by show _ = _;rw[HIR2.out];simp[hn]
       clear HIR2
       go_enter Tryz.func134,Tryz.ntmps134
       go_wp2_with fail;refine (Calls.mono HCS.out ?_);rintro e w1 ⟨rfl,rfl⟩;go_wp2_with fail;refine (Calls.mono HA.out ?_);rintro e w2 ⟨rfl,hb2⟩;go_wp2_with fail
       go_ret2
       exact ⟨by rw[HE.out];rfl,hb2⟩
     · by_cases hi : Lib.itoa n = D
       · have HE : Hid (zX s.data.toList = some n) := by show _ = _;rw[HIR2.out];simp[hn, hi]
         rw[hi]at HI2
         clear HIR2 hi
         go_enter Tryz.func134,Tryz.ntmps134
         go_wp2_with fail;refine (Calls.mono HCS.out ?_);rintro e w1 ⟨rfl,rfl⟩;go_wp2_with fail;refine (Calls.mono HA.out ?_);rintro e w2 ⟨rfl,hb2⟩;go_wp2_with fail;refine (Calls.mono (HI2.out _ hb2) ?_);rintro e w3 ⟨rfl,hb3⟩;go_wp2_with fail
         go_ret2
         exact ⟨by rw[HE.out];rfl,hb3⟩
       · have HE : Hid (zX s.data.toList = none) := by show _ = _;rw[HIR2.out];simp[hi]
         obtain ⟨I,hI⟩:∃ I,Lib.itoa n=I:=⟨_,rfl⟩;rw[hI]at HI2 hi
         have hid:(I==D)=false:=by simpa using hi
         clear HIR2 hI
         go_enter Tryz.func134,Tryz.ntmps134
         go_wp2_with fail;refine (Calls.mono HCS.out ?_);rintro e w1 ⟨rfl,rfl⟩;go_wp2_with fail;refine (Calls.mono HA.out ?_);rintro e w2 ⟨rfl,hb2⟩;go_wp2_with fail;refine (Calls.mono (HI2.out _ hb2) ?_);rintro e w3 ⟨rfl,hb3⟩;go_wp2_with fail
         go_ret2
         exact ⟨by rw[HE.out];rfl,hb3⟩
 | «syntax» =>
   have HA:Hid (Calls Tryz.prog 169 #[.string ⟨D.toArray⟩] w fun e w'=>∃ N,e=.returned (.tuple #[.int .i64 0,.iface 250 (.pointer (some ⟨N,0,none⟩))])∧Below w.heap.size w w'):=by
    refine (Tryz.strconv_Atoi_syntax ⟨D.toArray⟩ (by omega) (by rw[hDd];exact hat) e1 w h1 k1).mono ?_
    rintro e w' ⟨N,rfl,_,_,hb⟩;exact ⟨N,rfl,hb⟩
   have HE:Hid (zX s.data.toList=none):=by show _=_;rw[HIR.out,hat]
   clear HIR hat hD hC hm h1 k1 h2 k2 ht hDl hDs hDd HIT hs;cases C <;>
   · go_enter Tryz.func134, Tryz.ntmps134
     go_wp2_with fail;refine (Calls.mono HCS.out ?_);rintro e w1 ⟨rfl,rfl⟩;go_wp2_with fail;refine (Calls.mono HA.out ?_);rintro e w2 ⟨N,rfl,hb2⟩;go_wp2_with fail
     go_ret2
     exact ⟨by rw[HE.out];rfl,hb2⟩
 | range =>
   have HA:Hid (Calls Tryz.prog 169 #[.string ⟨D.toArray⟩] w fun e w'=>∃ N,e=.returned (.tuple #[.int .i64 (Lib.atoiSat D),.iface 250 (.pointer (some ⟨N,0,none⟩))])∧Below w.heap.size w w'):=by
    refine (Tryz.strconv_Atoi_range ⟨D.toArray⟩ (by omega) (by rw[hDd];exact hat) e2 w h2 k2).mono ?_
    rintro e w' ⟨N,rfl,_,_,hb⟩;rw[hDd];exact ⟨N,rfl,hb⟩
   have HE:Hid (zX s.data.toList=none):=by show _=_;rw[HIR.out,hat]
   clear HIR hat hD hC hm h1 k1 h2 k2 ht hDl hDs hDd HIT hs;cases C <;>
   · go_enter Tryz.func134, Tryz.ntmps134
     go_wp2_with fail;refine (Calls.mono HCS.out ?_);rintro e w1 ⟨rfl,rfl⟩;go_wp2_with fail;refine (Calls.mono HA.out ?_);rintro e w2 ⟨N,rfl,hb2⟩;go_wp2_with fail
     go_ret2
     exact ⟨by rw[HE.out];rfl,hb2⟩
theorem XK {p:List UInt8}{A B:List UInt8}{F:Bool}(h:Lib.cut p [91]=(A,B,F)):A.length≤p.length∧B.length≤p.length:=by
 rcases Jq 91 p with ⟨_,hc⟩|⟨a,b,rfl,_,hc⟩
 · rw[h]at hc
   simp only[Prod.mk.injEq]at hc
   rw[hc.1,hc.2.1];simp
 · rw[h]at hc
   simp only[Prod.mk.injEq]at hc
   rw[hc.1,hc.2.1];simp;omega
theorem zo (w:World)(n:Nat):Below w.heap.size w (w.drewN n):=by
 induction n with
 | zero=>exact Below.refl _ _
 | succ n ih=>exact ih.drew
set_option maxHeartbeats 2000000 in
theorem Xf (s:ByteArray)(w:World)(hE:JS w)(hs:s.size≤2500) :
 Calls Tryz.prog 92 #[.string s] w fun e w'=>∃ nm n,e=.returned (.tuple #[.agg #[.string nm,.int .i64 n],.bool (jL s.data.toList).isSome])∧(∀ st,jL s.data.toList=some st→nm=⟨st.1.toArray⟩∧n=st.2)∧Below w.heap.size w w':=by
 have hb1:=Below.alloc1 w (.cells #[.string ⟨#[]⟩,.int .i64 0] 121);have hx1:=heap_alloc_new w (.cells #[.string ⟨#[]⟩,.int .i64 0] 121);obtain ⟨m,hm⟩:=(hE.later hb1).max;obtain ⟨A,B,F,hcut⟩:∃ A B F,Lib.cut s.data.toList [91]=(A,B,F):=⟨_,_,_,rfl⟩;have hlen:s.data.toList.length=s.size:=by rw[Array.length_toList];rfl
 have hAB:=XK hcut;have HC:Hid _:=Tryz.strings_Cut s ⟨#[91]⟩ m _ (by omega) hm
 rw[show (⟨#[91]⟩:ByteArray).data.toList=[91] from rfl,hcut]at HC
 have HS:Hid (jL s.data.toList=if A=[] then none else if F=false then some (if A=[35] then [] else A,0) else (zX B).map fun n=>(if A=[35] then [] else A,n)):=by
  show _=_
  unfold jL;rw[hcut]
 have hBs:(⟨B.toArray⟩:ByteArray).size≤2500:=by show B.toArray.size≤2500;simp;omega
 have hBd:(⟨B.toArray⟩:ByteArray).data.toList=B:=by simp
 have HRI:Hid (∀ W,Below w.heap.size w W→Calls Tryz.prog 134 #[.string ⟨B.toArray⟩] W fun e w'=>e=.returned (.tuple #[.int .i64 ((zX B).getD 0),.bool (zX B).isSome])∧Below W.heap.size W w'):=by
  intro W hW;have:=Y5 ⟨B.toArray⟩ W (hE.later hW) hBs;rw[hBd]at this
  exact this
 have hAl:∀ c:List UInt8,(⟨A.toArray⟩:ByteArray).toList=c↔A=c:=by
  intro c;rw[ByteArray.toList_eq]
 clear hE hm hs hlen hAB hBs hBd hcut
 by_cases hA:A=[]
 · have HE : Hid (jL s.data.toList = none) := by show _ = _;rw[HS.out, if_pos hA]
   clear HS HRI hAl;subst hA
   go_enter Tryz.func92,Tryz.ntmps92
   go_wp2_with fail;refine (Calls.mono HC.out ?_);rintro e w2 ⟨rfl,k,rfl⟩;have hb2:=zo (w.alloc (.cells #[.string ⟨#[]⟩,.int .i64 0] 121)) k
   generalize (w.alloc (.cells #[.string ⟨#[]⟩,.int .i64 0] 121)).drewN k=w2 at *
   have hx2:=(hb2.block _ (qh hx1)).trans hx1;have hB2:Below w.heap.size w w2:=hb1.trans (hb2.mono hb1.size);have p0:w2.cell? ⟨w.heap.size,0,none⟩=some (.string ⟨#[]⟩):=by rw[cH9 hx2];rfl
   have p1:w2.cell? ⟨w.heap.size,1,none⟩=some (.int .i64 0):=by rw[cH9 hx2];rfl
   have f0:w2.frozen? ⟨w.heap.size,0,none⟩=false:=fH9 hx2 0;have f1:w2.frozen? ⟨w.heap.size,1,none⟩=false:=fH9 hx2 1;clear hb1 hx1 hb2 HC;clear hx2;go_wp2_with fail;refine bodyPost_ret (v:=.tuple #[.agg #[.string ⟨#[]⟩,.int .i64 0],.bool false]) (by simp[results,Tryz.results92,go_sem,qd,p0,p1,World.cell?_setCell_other]) rfl ?_
   refine ⟨⟨#[]⟩,0,by rw[HE.out];rfl,(by intro st h;rw[HE.out]at h;cases h),?_⟩
   exact (hB2.setCell (p:=⟨w.heap.size,0,none⟩) (nR9 _) _).setCell (p:=⟨w.heap.size,1,none⟩) (nR9 _) _
 · obtain ⟨nm, hnm⟩ : ∃ nm, (if A = [35] then [] else A) = nm := ⟨_, rfl⟩
   cases F with
   | false =>
     have HE:Hid (jL s.data.toList=some (nm,0)):=by show _=_;rw[HS.out,if_neg hA,if_pos rfl,hnm]
     clear HS HRI
     by_cases h35:A=[35]
     · have hN : nm = [] := by rw[←hnm, if_pos h35]
       clear hnm hA hAl;subst h35 hN
       go_enter Tryz.func92,Tryz.ntmps92
       go_wp2_with fail;refine (Calls.mono HC.out ?_);rintro e w2 ⟨rfl,k,rfl⟩;have hb2:=zo (w.alloc (.cells #[.string ⟨#[]⟩,.int .i64 0] 121)) k
       generalize (w.alloc (.cells #[.string ⟨#[]⟩,.int .i64 0] 121)).drewN k=w2 at *
       have hx2:=(hb2.block _ (qh hx1)).trans hx1;have hB2:Below w.heap.size w w2:=hb1.trans (hb2.mono hb1.size);have p0:w2.cell? ⟨w.heap.size,0,none⟩=some (.string ⟨#[]⟩):=by rw[cH9 hx2];rfl
       have p1:w2.cell? ⟨w.heap.size,1,none⟩=some (.int .i64 0):=by rw[cH9 hx2];rfl
       have f0:w2.frozen? ⟨w.heap.size,0,none⟩=false:=fH9 hx2 0;have f1:w2.frozen? ⟨w.heap.size,1,none⟩=false:=fH9 hx2 1;clear hb1 hx1 hb2 HC;clear hx2;go_wp2_with fail;refine bodyPost_ret (v:=.tuple #[.agg #[.string ⟨#[]⟩,.int .i64 0],.bool true]) (by simp[results,Tryz.results92,go_sem,qd,p0,p1,World.cell?_setCell_other]) rfl ?_
       refine ⟨⟨#[]⟩,0,by rw[HE.out];rfl,(by intro st h;rw[HE.out]at h;cases h;exact ⟨rfl,rfl⟩),?_⟩
       exact (hB2.setCell (p:=⟨w.heap.size,0,none⟩) (nR9 _) _).setCell (p:=⟨w.heap.size,1,none⟩) (nR9 _) _
     · have h351 : (A == [35]) = false := by simpa using h35
       have hAe:A.isEmpty=false:=by simpa using hA
       have hN:nm=A:=by rw[←hnm,if_neg h35]
       clear hnm hAl;subst hN
       go_enter Tryz.func92,Tryz.ntmps92
       go_wp2_with fail;refine (Calls.mono HC.out ?_);rintro e w2 ⟨rfl,k,rfl⟩;have hb2:=zo (w.alloc (.cells #[.string ⟨#[]⟩,.int .i64 0] 121)) k
       generalize (w.alloc (.cells #[.string ⟨#[]⟩,.int .i64 0] 121)).drewN k=w2 at *
       have hx2:=(hb2.block _ (qh hx1)).trans hx1;have hB2:Below w.heap.size w w2:=hb1.trans (hb2.mono hb1.size);have p0:w2.cell? ⟨w.heap.size,0,none⟩=some (.string ⟨#[]⟩):=by rw[cH9 hx2];rfl
       have p1:w2.cell? ⟨w.heap.size,1,none⟩=some (.int .i64 0):=by rw[cH9 hx2];rfl
       have f0:w2.frozen? ⟨w.heap.size,0,none⟩=false:=fH9 hx2 0;have f1:w2.frozen? ⟨w.heap.size,1,none⟩=false:=fH9 hx2 1;clear hb1 hx1 hb2 HC;clear hx2;go_wp2_with fail;refine bodyPost_ret (v:=.tuple #[.agg #[.string ⟨nm.toArray⟩,.int .i64 0],.bool true]) (by simp[results,Tryz.results92,go_sem,qd,p0,p1,World.cell?_setCell_other]) rfl ?_
       refine ⟨⟨nm.toArray⟩,0,by rw[HE.out];rfl,(by intro st h;rw[HE.out]at h;cases h;exact ⟨rfl,rfl⟩),?_⟩
       exact (hB2.setCell (p:=⟨w.heap.size,0,none⟩) (nR9 _) _).setCell (p:=⟨w.heap.size,1,none⟩) (nR9 _) _
   | true =>
     have HE:Hid (jL s.data.toList=(zX B).map fun n=>(nm,n)):=by show _=_;rw[HS.out,if_neg hA,if_neg (by simp),hnm]
     obtain ⟨q,hq⟩:∃ q,zX B=q:=⟨_,rfl⟩;rw[hq]at HE HRI
     have HE2:Hid ((jL s.data.toList).isSome=q.isSome∧∀ st,jL s.data.toList=some st→nm=st.1∧q.getD 0=st.2):=by
      refine ⟨by rw[HE.out];cases q<;>rfl,fun st h=>?_⟩
      rw[HE.out]at h
      cases q with
      | none=>cases h
      | some n=>cases h;exact ⟨rfl,rfl⟩
     obtain ⟨n,hn⟩:∃ n,q.getD 0=n:=⟨_,rfl⟩;obtain ⟨t,ht⟩:∃ t,q.isSome=t:=⟨_,rfl⟩;rw[hn,ht]at HRI HE2
     clear HS HE hq hn ht
     by_cases h35:A=[35]
     · have hN : nm = [] := by rw[←hnm, if_pos h35]
       clear hnm hA hAl;subst h35 hN
       go_enter Tryz.func92,Tryz.ntmps92
       go_wp2_with fail;refine (Calls.mono HC.out ?_);rintro e w2 ⟨rfl,k,rfl⟩;have hb2:=zo (w.alloc (.cells #[.string ⟨#[]⟩,.int .i64 0] 121)) k
       generalize (w.alloc (.cells #[.string ⟨#[]⟩,.int .i64 0] 121)).drewN k=w2 at *
       have hx2:=(hb2.block _ (qh hx1)).trans hx1;have hB2:Below w.heap.size w w2:=hb1.trans (hb2.mono hb1.size);have p0:w2.cell? ⟨w.heap.size,0,none⟩=some (.string ⟨#[]⟩):=by rw[cH9 hx2];rfl
       have p1:w2.cell? ⟨w.heap.size,1,none⟩=some (.int .i64 0):=by rw[cH9 hx2];rfl
       have f0:w2.frozen? ⟨w.heap.size,0,none⟩=false:=fH9 hx2 0;have f1:w2.frozen? ⟨w.heap.size,1,none⟩=false:=fH9 hx2 1;clear hb1 hx1 hb2 HC;go_wp2_with fail;refine (Calls.mono (HRI.out _ hB2) ?_);rintro e w3 ⟨rfl,hb3⟩;have hx3:=(hb3.block _ (qh hx2)).trans hx2;have hB3:Below w.heap.size w w3:=hB2.trans (hb3.mono hB2.size);clear p0 p1 f0 f1;have p0:w3.cell? ⟨w.heap.size,0,none⟩=some (.string ⟨#[]⟩):=by rw[cH9 hx3];rfl
       have p1:w3.cell? ⟨w.heap.size,1,none⟩=some (.int .i64 0):=by rw[cH9 hx3];rfl
       have f0:w3.frozen? ⟨w.heap.size,0,none⟩=false:=fH9 hx3 0;have f1:w3.frozen? ⟨w.heap.size,1,none⟩=false:=fH9 hx3 1;clear hx2 hx3 HRI;go_wp2_with fail;refine bodyPost_ret (v:=.tuple #[.agg #[.string ⟨#[]⟩,.int .i64 n],.bool t]) (by simp[results,Tryz.results92,go_sem,qd,p0,p1,World.cell?_setCell_other]) rfl ?_
       refine ⟨⟨#[]⟩,n,by rw[HE2.out.1],(by intro st h;obtain ⟨g1,g2⟩:=HE2.out.2 st h;exact ⟨by rw[←g1],g2⟩),?_⟩
       exact (hB3.setCell (p:=⟨w.heap.size,0,none⟩) (nR9 _) _).setCell (p:=⟨w.heap.size,1,none⟩) (nR9 _) _
     · have h351 : (A == [35]) = false := by simpa using h35
       have hAe:A.isEmpty=false:=by simpa using hA
       have hN:nm=A:=by rw[←hnm,if_neg h35]
       clear hnm hAl;subst hN
       go_enter Tryz.func92,Tryz.ntmps92
       go_wp2_with fail;refine (Calls.mono HC.out ?_);rintro e w2 ⟨rfl,k,rfl⟩;have hb2:=zo (w.alloc (.cells #[.string ⟨#[]⟩,.int .i64 0] 121)) k
       generalize (w.alloc (.cells #[.string ⟨#[]⟩,.int .i64 0] 121)).drewN k=w2 at *
       have hx2:=(hb2.block _ (qh hx1)).trans hx1;have hB2:Below w.heap.size w w2:=hb1.trans (hb2.mono hb1.size);have p0:w2.cell? ⟨w.heap.size,0,none⟩=some (.string ⟨#[]⟩):=by rw[cH9 hx2];rfl
       have p1:w2.cell? ⟨w.heap.size,1,none⟩=some (.int .i64 0):=by rw[cH9 hx2];rfl
       have f0:w2.frozen? ⟨w.heap.size,0,none⟩=false:=fH9 hx2 0;have f1:w2.frozen? ⟨w.heap.size,1,none⟩=false:=fH9 hx2 1;clear hb1 hx1 hb2 HC;go_wp2_with fail;refine (Calls.mono (HRI.out _ hB2) ?_);rintro e w3 ⟨rfl,hb3⟩;have hx3:=(hb3.block _ (qh hx2)).trans hx2;have hB3:Below w.heap.size w w3:=hB2.trans (hb3.mono hB2.size);clear p0 p1 f0 f1;have p0:w3.cell? ⟨w.heap.size,0,none⟩=some (.string ⟨#[]⟩):=by rw[cH9 hx3];rfl
       have p1:w3.cell? ⟨w.heap.size,1,none⟩=some (.int .i64 0):=by rw[cH9 hx3];rfl
       have f0:w3.frozen? ⟨w.heap.size,0,none⟩=false:=fH9 hx3 0;have f1:w3.frozen? ⟨w.heap.size,1,none⟩=false:=fH9 hx3 1;clear hx2 hx3 HRI;go_wp2_with fail;refine bodyPost_ret (v:=.tuple #[.agg #[.string ⟨nm.toArray⟩,.int .i64 n],.bool t]) (by simp[results,Tryz.results92,go_sem,qd,p0,p1,World.cell?_setCell_other]) rfl ?_
       refine ⟨⟨nm.toArray⟩,n,by rw[HE2.out.1],(by intro st h;obtain ⟨g1,g2⟩:=HE2.out.2 st h;exact ⟨by rw[←g1],g2⟩),?_⟩
       exact (hB3.setCell (p:=⟨w.heap.size,0,none⟩) (nR9 _) _).setCell (p:=⟨w.heap.size,1,none⟩) (nR9 _) _
end
section
attribute [local go_sem] qd
def asS (l:List PStep):List St:=l.map fun p=>⟨⟨p.1.toArray⟩,p.2⟩
theorem xn (l:List PStep):(asS l).length=l.length:=List.length_map _
theorem qcX (l:List UInt8):q9 ⟨l.toArray⟩=qbT l:=by
 unfold q9 qbT;have:(⟨l.toArray⟩:ByteArray).size=l.length:=by show l.toArray.size=_;simp
 rw[this]
theorem Jp (a b:List UInt8):(⟨a.toArray⟩:ByteArray)=⟨b.toArray⟩↔a=b:=by
 constructor
 · intro h;have:=congrArg (fun x:ByteArray=>x.data.toList) h
   simpa using this
 · intro h;rw[h]
theorem qdi (p:PStep):zT ⟨⟨p.1.toArray⟩,p.2⟩=qch p:=by
 unfold zT qch;simp only;rw[qcX]
 have e1:decide ((⟨p.1.toArray⟩:ByteArray)=⟨#[]⟩)=decide (p.1=[]):=by
  rw[decide_eq_decide];exact Jp p.1 []
 have e2:decide ((⟨p.1.toArray⟩:ByteArray)=⟨#[42]⟩)=decide (p.1=[42]):=by
  rw[decide_eq_decide];exact Jp p.1 [42]
 rw[e1,e2]
theorem VY (l:List PStep):yS (asS l)=Yy l:=by
 unfold yS Yy;rw[xn]
 congr 1
 unfold asS;rw[List.all_map]
 congr 1
 funext p
 exact qdi p
def stepCells:List St→List Value
 | []=>[]
 | s::l=>.string s.name::.int .i64 s.n::stepCells l
theorem Zz (l m:List St):stepCells (l++m)=stepCells l++stepCells m:=by
 induction l with
 | nil=>rfl
 | cons s l ih=>simp[stepCells,ih]
theorem Y8 (l:List St):∀ i s,l[i]?=some s→(stepCells l)[i*2]?=some (.string s.name)∧(stepCells l)[i*2+1]?=some (.int .i64 s.n):=by
 induction l with
 | nil=>intro i s h;simp at h
 | cons y l ih =>
   intro i s h;cases i with
   | zero=>simp at h;subst h;simp[stepCells]
   | succ i =>
     have:=ih i s (by simpa using h)
     rw[show (i+1)*2=i*2+2 by omega]
     simpa[stepCells] using this
def Qw (B:Nat)(w:World)(v:Value)(l:List St):Prop:=w.ownsRow B 121 2 v l.length (stepCells l)
theorem Qw.shape {B:Nat}{w:World}{v:Value}{l:List St}(h:Qw B w v l):∃ a c,v=.slice a l.length c∧l.length≤c∧c≤maxLen:=by
 rcases h.2 with ⟨rfl,h0⟩|⟨g,cap,cur,rfl,hg,hh,hc,hm,hs,ht⟩
 · exact ⟨none,0,by rw[h0],by omega,nZ9 _⟩
 · exact ⟨_,cap,rfl,hc,hm⟩
theorem Qw.steps {B:Nat}{w:World}{v:Value}{l:List St}(h:Qw B w v l):zH (fun b=>B≤b) w v l:=by
 rcases h.2 with ⟨rfl,h0⟩|⟨g,cap,cur,rfl,hg,hh,hc,hm,hs,ht⟩
 · have : l = [] := List.eq_nil_of_length_eq_zero h0;subst this;exact ⟨none,0,rfl,nR9 _,nZ9 _,fun h=>absurd rfl h⟩
 · refine ⟨_, cap, rfl, hc, hm, fun _ => ⟨g, 0, rfl, hg, fun i x hx => ?_⟩⟩
   have hi:=qe hx;obtain ⟨g0,g1⟩:=Y8 l i x hx;rw[Nat.zero_add];exact ⟨by rw[World.ownsRow.cellAt h (i*2) (by omega)];exact g0,by rw[World.ownsRow.cellAt h (i*2+1) (by omega)];exact g1⟩
theorem Qw.lt {B:Nat}{w:World}{v:Value}{l:List St}(h:Qw B w v l):∀ k,v.ownBlock=some k→B≤k∧k<w.heap.size:=fun k hk=>World.ownsRow.lt h k hk
theorem Qw.later {B:Nat}{w w':World}{v:Value}{l:List St}(h:Qw B w v l)(hb:Below w.heap.size w w'):Qw B w' v l:=qn h hb
theorem stepInfo:(Tryz.prog.info? 121).map (fun i=>(i.zero,i.size,i.bytes))=some (some (.agg #[.string ⟨#[]⟩,.int .i64 0]),2,24):=by kernel_rfl
theorem qcY (w:World)(a b:Value)(e:TypeId):∀ (j:Nat)(u:Value),([a,b]:List Value)[j]?=some u→(w.alloc (.cells #[a,b] e)).cell? ((⟨w.heap.size,0,none⟩:Addr).add j)=some u:=by
 intro j u hj
 match j,hj with
 | 0,hj|1,hj=>simp at hj;subst hj;simp[Addr.add]
theorem qaU {p:List UInt8}{st:PStep}(h:jL p=some st):st.1.length≤p.length:=by
 unfold jL at h
 obtain ⟨A,B,F,hcut⟩:∃ A B F,Lib.cut p [91]=(A,B,F):=⟨_,_,_,rfl⟩;have:=(XK hcut).1;rw[hcut]at h
 simp only at h
 have key:∀ n,((if A=[35] then ([]:List UInt8) else A,(n:Int)):PStep).1.length≤p.length:=by
  intro n;simp only
  split
  · simp
  · exact this
 split at h
 · cases h
 · split at h
   · cases h;exact key 0
   · cases hi : zX B with
     | none=>rw[hi]at h;cases h
     | some n=>rw[hi]at h;cases h;exact key n
theorem Ks {ps:List (List UInt8)}{k:Nat}{p:List UInt8}(hk:ps[k]?=some p)(h:jL p=none):stepsR (ps.drop k)=none:=by
 have hl:=qe hk
 have e:ps.drop k=p::ps.drop (k+1):=by
  rw[List.drop_eq_getElem_cons hl];congr 1;simpa[hl] using hk
 rw[e,stepsR,h]
theorem Kt {ps:List (List UInt8)}{k:Nat}{p:List UInt8}{s:PStep}(hk:ps[k]?=some p)(h:jL p=some s):stepsR (ps.drop k)=(stepsR (ps.drop (k+1))).map (fun l=>s::l):=by
 have hl:=qe hk
 have e:ps.drop k=p::ps.drop (k+1):=by
  rw[List.drop_eq_getElem_cons hl];congr 1;simpa[hl] using hk
 rw[e,stepsR,h];cases stepsR (ps.drop (k+1))<;>rfl
theorem YD (s:ByteArray):s.data.toList.length=s.size:=by rw[Array.length_toList];rfl
def yC (s:ByteArray):Int:=if (xA s.data.toList).isSome then 0 else 1
def yd (s:ByteArray):List St:=asS ((xA s.data.toList).getD [])
theorem le_sum_mem:∀ {l:List Nat}{x:Nat},x∈l→x≤l.sum:=by
 intro l
 induction l with
 | nil=>intro x h;simp at h
 | cons y l ih =>
   intro x h;rw[List.mem_cons]at h
   rw[List.sum_cons]
   rcases h with rfl|h
   · omega
   · have:=ih h;omega
theorem qaJ {R p:List UInt8}(h:p∈Lib.split R [47]):p.length≤R.length:=by
 have:=(Vt 47 _ R (nR9 _)).1;have h2:=congrArg List.length this;rw[List.length_flatten,List.map_map]at h2
 have h3:(47::p).length∈(Lib.split R [47]).map (List.length ∘ fun p=>47::p):=List.mem_map.2 ⟨p,h,rfl⟩
 have h4:=le_sum_mem h3;rw[h2]at h4
 simp at h4
 exact h4
set_option maxHeartbeats 2000000 in
theorem Vc (s:ByteArray)(w:World)(hE:JS w)(hs:s.size≤maxLen) :
 Calls Tryz.prog 49 #[.string s] w fun e w'=>∃ v,e=.returned (.tuple #[v,.int .i64 (yC s)])∧zH (fun b=>w.heap.size≤b) w' v (yd s)∧Below w.heap.size w w':=by
 unfold maxLen at hs
 have HPL:Hid (xA s.data.toList=if s.data.toList.length≤2500∧Lib.hasPrefix s.data.toList [47]=true then (match stepsR (Lib.split (Lib.trimPrefix s.data.toList [47]) [47]) with|none=>none|some l=>if Yy l=true then some l else none) else none):=by
  show _=_
  unfold xA
  split<;>rename_i h
  · cases stepsR (Lib.split (Lib.trimPrefix s.data.toList [47]) [47])<;>rfl
  · rfl
 have HNO:Hid (xA s.data.toList=none→yC s=1∧yd s=[]):=by
  intro h;unfold yC yd;rw[h];exact ⟨rfl,rfl⟩
 have hlen:=YD s
 by_cases h25:2500<s.size
 · have HE2 : Hid (yC s = 1 ∧ yd s = []) := HNO.out (by rw[HPL.out, if_neg (by rw[hlen];omega)])
   have h25i:(2500:Int)<(s.size:Int):=by omega
   clear HPL HNO
   go_enter Tryz.func49,Tryz.ntmps49
   go_wp2_with fail
   go_ret2
   exact ⟨_,by rw[HE2.out.1];rfl,by rw[HE2.out.2];exact ⟨none,0,rfl,nR9 _,nZ9 _,fun h=>absurd rfl h⟩,Below.refl _ _⟩
 · have h25i : ¬ (2500 : Int) < (s.size : Int) := by omega
   obtain ⟨R,hR⟩:∃ R,Lib.trimPrefix s.data.toList [47]=R:=⟨_,rfl⟩;obtain ⟨C,hC⟩:∃ C,Lib.hasPrefix s.data.toList [47]=C:=⟨_,rfl⟩;have HCP:Hid _:=Tryz.strings_CutPrefix s ⟨#[47]⟩ w;rw[show (⟨#[47]⟩:ByteArray).data.toList=[47] from rfl,hR,hC]at HCP
   rw[hR,hC,hlen]at HPL
   have hRl:R.length≤2500:=by
    rw[←hR];unfold Lib.trimPrefix
    split
    · rw[List.length_drop];omega
    · omega
   clear hR hC;cases C with
   | false =>
     have HE2:Hid (yC s=1∧yd s=[]):=HNO.out (by rw[HPL.out,if_neg (by simp)])
     clear HPL HNO
     go_enter Tryz.func49,Tryz.ntmps49
     go_wp2_with fail;refine (Calls.mono HCP.out ?_);rintro e w1 ⟨rfl,rfl⟩;go_wp2_with fail
     go_ret2
     exact ⟨_,by rw[HE2.out.1];rfl,by rw[HE2.out.2];exact ⟨none,0,rfl,nR9 _,nZ9 _,fun h=>absurd rfl h⟩,Below.refl _ _⟩
   | true =>
     have HP2:Hid (xA s.data.toList=match stepsR (Lib.split R [47]) with|none=>none|some l=>if Yy l=true then some l else none):=by show _=_;rw[HPL.out,if_pos ⟨by omega,rfl⟩]
     obtain ⟨m,hm⟩:=hE.max;have hRs:(⟨R.toArray⟩:ByteArray).size=R.length:=by show R.toArray.size=_;simp
     have HSP:Hid _:=Tryz.strings_Split ⟨R.toArray⟩ ⟨#[47]⟩ m w (by omega) hm (by decide)
     obtain ⟨P,hP⟩:∃ P,Lib.splitB ⟨#[47]⟩ 0 (Lib.countB ⟨R.toArray⟩ ⟨#[47]⟩) ⟨R.toArray⟩=P:=⟨_,rfl⟩;have hPl:P.length=Lib.countB ⟨R.toArray⟩ ⟨#[47]⟩+1:=by rw[←hP];exact Lib.splitB_all ⟨#[47]⟩ (by decide) 0 _ _ rfl
     have hPd:P.map (·.data.toList)=Lib.split R [47]:=by
      rw[←hP,Lib.splitB_data];unfold Lib.split;have e1:(⟨R.toArray⟩:ByteArray).data.toList=R:=by simp
      have e2:(⟨#[47]⟩:ByteArray).data.toList=[47]:=rfl;rw[e1,e2]
     have hcl:=Lib.countB_le ⟨#[47]⟩ (by decide) _ ⟨R.toArray⟩ (nR9 _)
     rw[hP,←hPl]at HSP
     have HEE:Hid (JS w):=hE;have HPD:Hid (P.map (·.data.toList)=Lib.split R [47]):=hPd
     have HPS:Hid (∀ p∈P,p.size≤2500):=by
      intro p hp;have h1:p.data.toList∈Lib.split R [47]:=by rw[←hPd];exact List.mem_map.2 ⟨p,hp,rfl⟩
      have:=qaJ h1;rw[YD]at this
      omega
     have hPn:P.length≤2501:=by omega
     obtain ⟨i0,hi,hz0,hzz1,hz2⟩:=info_parts stepInfo;have hb2:=Below.alloc1 w (.cells (P.map Value.string).toArray 9);have hx2:=heap_alloc_new w (.cells (P.map Value.string).toArray 9);have hz2w:(w.alloc (.cells (P.map Value.string).toArray 9)).heap.size=w.heap.size+1:=by simp
     clear hE hm hP hPl hPd hcl HPL hRs
     go_enter Tryz.func49,Tryz.ntmps49
     go_wp2_with fail;refine (Calls.mono HCP.out ?_);rintro e w1 ⟨rfl,rfl⟩;go_wp2_with fail;refine (Calls.mono HSP.out ?_);rintro e w2 ⟨rfl,rfl⟩;go_wp2_with fail
     generalize w1.alloc (.cells (P.map Value.string).toArray 9)=W2 at *
     have HZ2:Hid (W2.heap.size=w1.heap.size+1):=hz2w;have hle2:w1.heap.size≤W2.heap.size:=by omega
     clear hz2w HCP HSP
     go_loopg [24,6] P.length (fun g j o wr=>∃ (k:Nat) (acc:List PStep),k+g=P.length∧j=.int .i64 (k:Int)∧acc.length=k∧Qw W2.heap.size wr o (asS acc)∧Below W2.heap.size W2 wr∧stepsR (Lib.split R [47])=(stepsR ((Lib.split R [47]).drop k)).map (fun l=>acc++l)∧∀ x∈acc,x.1.length≤2500)
     case atStart => exact ⟨0,[],by omega,rfl,rfl,World.ownsRow_nil _ _ _ _,Below.refl _ _,by rw[List.drop_zero];cases stepsR (Lib.split R [47])<;>rfl,by simp⟩
     case round =>
      obtain ⟨k,acc,hk,rfl,hal,hSR,hB,hGot,hshort⟩:=hrel;have hBw:Below w1.heap.size w1 wr:=hb2.trans (hB.mono hle2);have hxr:=(hB.block _ (qh hx2)).trans hx2;have hszr:=hB.size;obtain ⟨ra,rc,rfl,hrl,hrm⟩:=hSR.shape;rw[xn,hal]at hSR hrl ⊢
      have HSR:Hid (Qw W2.heap.size wr (.slice ra k rc) (asS acc)):=hSR;have HGot:Hid _:=hGot;have HSH:Hid (∀ x∈acc,x.1.length≤2500):=hshort;have HAL:Hid (acc.length=k):=hal;clear hSR hGot hshort hal
      by_cases hkl:k<P.length
      · obtain ⟨p, hp⟩ : ∃ p, P[k]? = some p := ⟨P[k], by simp[hkl]⟩
        have hpL:(Lib.split R [47])[k]?=some p.data.toList:=by rw[←HPD.out,List.getElem?_map,hp];rfl
        have hps:=HPS.out p (List.mem_of_getElem? hp)
        have e1:wr.cell? ⟨w1.heap.size,k,none⟩=some (.string p):=by
         rw[cH9 hxr];simp[hp]
        have HRS:Hid _:=Xf p wr (HEE.out.later hBw) hps;have hkli:(k:Int)<(P.length:Int):=by omega
        cases hst:jL p.data.toList with
        | none =>
          rw[hst]at HRS
          have HE2:Hid (yC s=1∧yd s=[]):=HNO.out (by rw[HP2.out,HGot.out,Ks hpL hst];rfl)
          clear hst hpL hp hxr;go_wp2_with fail;refine (Calls.mono HRS.out ?_);rintro e w3 ⟨nm,n,rfl,_,hb3⟩;go_wp2_with fail
          go_ret2
          refine ⟨_,by rw[HE2.out.1];rfl,by rw[HE2.out.2];exact ⟨none,0,rfl,nR9 _,nZ9 _,fun h=>absurd rfl h⟩,?_⟩
          exact (hBw.trans (hb3.mono hBw.size)).alloc (Nat.le_trans hBw.size hb3.size) _
        | some st =>
          have hsn:=qaU hst;rw[YD]at hsn
          have HG2:Hid (stepsR (Lib.split R [47])=(stepsR ((Lib.split R [47]).drop (k+1))).map (fun l=>(acc++[st])++l)):=by
           show _=_
           rw[HGot.out,Kt hpL hst];cases stepsR ((Lib.split R [47]).drop (k+1)) with
           | none=>rfl
           | some l=>simp
          have HRS2:Hid (Calls Tryz.prog 92 #[.string p] wr fun e w'=>e=.returned (.tuple #[.agg #[.string ⟨st.1.toArray⟩,.int .i64 st.2],.bool true])∧Below wr.heap.size wr w'):=by
           refine (Calls.mono HRS.out ?_);rintro e w' ⟨nm,n,rfl,h1,hb⟩;obtain ⟨rfl,rfl⟩:=h1 st hst;rw[hst];exact ⟨rfl,hb⟩
          clear hst hpL hp hxr HRS;go_wp2_with fail;refine (Calls.mono HRS2.out ?_);rintro e w3 ⟨rfl,hb3⟩;have hB3:Below W2.heap.size W2 w3:=hB.trans (hb3.mono hszr);have hB4:Below W2.heap.size W2 (w3.alloc (.cells #[.string ⟨st.1.toArray⟩,.int .i64 st.2] 121)):=hB3.alloc hB3.size _;have hS4:Qw W2.heap.size (w3.alloc (.cells #[.string ⟨st.1.toArray⟩,.int .i64 st.2] 121)) (.slice ra k rc) (asS acc):=(HSR.out.later hb3).later (Below.alloc1 _ _)
          have hown4:(w3.alloc (.cells #[.string ⟨st.1.toArray⟩,.int .i64 st.2] 121)).ownsRow W2.heap.size 121 2 (.slice ra k rc) k (stepCells (asS acc)):=by
           have:=hS4;unfold Qw at this
           rw[xn,HAL.out]at this
           exact this
          have hs4:=hB3.size;go_wp2_with (at_builtin;refine wpList_append_own_at _ rfl _ _ 86 rfl W2.heap.size 121 i0 _ 2 24 Tryz.underlying86 hi hz0 hzz1 hz2 rfl (by decide) _ _ _ rfl (hown4.alloc _) ⟨w3.heap.size+1,0,none⟩ 1 1 [.string ⟨st.1.toArray⟩,.int .i64 st.2] ?qc0 ?qc1 ?qc2 ?qc3 ?qc4 ?qc5 ?qc6 ?_)
          case qc0 => first|rfl|simp[go_sem]
          case qc1 => rfl
          case qc2 => have:=qcY (w3.alloc (.cells #[.string ⟨st.1.toArray⟩,.int .i64 st.2] 121)) (.string ⟨st.1.toArray⟩) (.int .i64 st.2) 121;rw[World.size_alloc]at this;exact this
          case qc3 => intro z hz;simp at hz;rcases hz with rfl|rfl<;>rfl
          case qc4 => unfold maxLen;omega
          case qc5 => omega
          case qc6 => simp;omega
          intro v' w6 hown6 hgr6 _ _;obtain ⟨ja,jl,jc,rfl⟩:=qJ hown6
          have hS6:Qw W2.heap.size w6 (.slice ja jl jc) (asS (acc++[st])):=by
           unfold Qw;rw[show asS (acc++[st])=asS acc++[⟨⟨st.1.toArray⟩,st.2⟩] by simp[asS],Zz,List.length_append,xn,HAL.out]
           exact hown6
          have hB6:Below W2.heap.size W2 w6:=(hB4.alloc hB4.size _).grown hgr6 (by simp;omega) (fun z hz=>(hS4.lt z hz).1)
          clear hown6 hown4 hS4;go_wp2_with fail
          go_roundg (P.length-(k+1))
          case measure => omega
          case rel =>
           refine ⟨k+1,acc++[st],by omega,by go_num,by rw[List.length_append,HAL.out];rfl,hS6,hB6,HG2.out,fun x hx=>?_⟩
           rw[List.mem_append,List.mem_singleton]at hx
           rcases hx with hx|rfl
           · exact HSH.out x hx
           · omega
      · have hkk : k = P.length := by omega
        have hkli:¬ ((k:Int)<(P.length:Int)):=by omega
        have HG2:Hid (stepsR (Lib.split R [47])=some acc):=by
         show _=_
         have hdl:(Lib.split R [47]).length≤k:=by rw[←HPD.out,List.length_map];omega
         rw[HGot.out,List.drop_of_length_le hdl];simp[stepsR]
        have hSt:=HSR.out.steps;clear hkk
        have HPG:Hid _:=Jt _ (.slice ra k rc) (asS acc) wr hSt (by
         intro x hx;obtain ⟨q,hq,rfl⟩:=List.mem_map.1 hx;have:=HSH.out q hq
         show q.1.toArray.size≤maxLen
         unfold maxLen;simp;omega)
        rw[VY]at HPG
        cases hpl:Yy acc with
        | false =>
          rw[hpl]at HPG
          have HE2:Hid (yC s=1∧yd s=[]):=HNO.out (by rw[HP2.out,HG2.out];simp[hpl])
          clear hpl;go_wp2_with fail;refine (Calls.mono HPG.out ?_);rintro e w3 ⟨rfl,hb3⟩;go_wp2_with fail
          go_ret2
          exact ⟨_,by rw[HE2.out.1];rfl,by rw[HE2.out.2];exact ⟨none,0,rfl,nR9 _,nZ9 _,fun h=>absurd rfl h⟩,hBw.trans (hb3.mono hBw.size)⟩
        | true =>
          rw[hpl]at HPG
          have HE2:Hid (yC s=0∧yd s=asS acc):=by
           have:xA s.data.toList=some acc:=by rw[HP2.out,HG2.out];simp[hpl]
           unfold yC yd;rw[this];exact ⟨rfl,rfl⟩
          clear hpl;go_wp2_with fail;refine (Calls.mono HPG.out ?_);rintro e w3 ⟨rfl,hb3⟩;go_wp2_with fail
          go_ret2
          exact ⟨_,by rw[HE2.out.1];rfl,by rw[HE2.out.2];exact (hSt.later hb3).carry fun b hb=>⟨by omega,rfl⟩,hBw.trans (hb3.mono hBw.size)⟩
end
end Go.Proofs.YtlldnnalamdegaaGreatDoor
namespace Go.Proofs.YtlldnnalamdegaaGreatDoor
open Go.RowKit
set_option maxRecDepth 100000
section
structure Zip (ns:List Nd) (n d:Nat) (T u:Tr) (tl:List Tr) (fs:List Fr):Prop where
 deep:Deep d T.kids
 wide:d≤100
 laid:layF d T (-1) 0=ns
 plug:plug fs (u::tl)=[T]
 num:stZ 1000 fs 0=n
 good:qR T=true
theorem xV {ns:List Nd}(h:qt ns=true):ns.length≤80:=by
 simp only[qt,Bool.and_eq_true,decide_eq_true_eq]at h
 exact h.1.1
theorem ZT {ns:List Nd}(hg:qt ns=true){n:Nat}(hn:n<ns.length):∃ d T u fs,Zip ns n d T u [] fs:=by
 obtain ⟨d,t,hd,hl,hG,_,_,_,hdl⟩:=Qe hg;have h80:=xV hg;have hlen:=layF_length d t (-1) 0 hd;rw[hl]at hlen
 obtain ⟨fs,u,e1,e2⟩:=qdP (D:=1000) d t 0 n hd (by omega) (nZ9 _) (by omega)
 exact ⟨d,t,u,fs,hd,by omega,hl,e1,e2,hG⟩
section
variable {ns : List Nd} {n d : Nat} {T u : Tr} {tl : List Tr} {fs : List Fr}
theorem Zip.segL (h:Zip ns n d T u tl fs):KF ns d 0 (Go.Proofs.YtlldnnalamdegaaGreatDoor.plug fs (u::tl))∧∀ k∈Go.Proofs.YtlldnnalamdegaaGreatDoor.plug fs (u::tl),Deep d k.kids:=by
 rw[h.plug];refine ⟨⟨⟨-1,by rw[←h.laid];exact Kn _⟩,trivial⟩,fun k hk=>?_⟩
 simp at hk
 subst hk;exact h.deep
theorem Zip.node (h:Zip ns n d T u tl fs):∃ e par,Deep e u.kids∧Seg ns n (layF e u par n):=by
 obtain ⟨h1,h2⟩:=h.segL;obtain ⟨e,par,h3,h4,_⟩:=qaK (D:=1000) fs d 0 h2 h1 (by have:=h.wide;omega)
 rw[h.num]at h4
 exact ⟨e,par,h3,h4⟩
theorem Zip.get (h:Zip ns n d T u tl fs):∃ x,ns[n]?=some x∧x.text=u.text∧x.s=u.s∧x.attrs=u.attrs:=by
 obtain ⟨e,par,h1,h2⟩:=h.node;exact ⟨_,h2 0 _ (by rw[jB h1];rfl),rfl,rfl,rfl⟩
end
theorem jg {u:Tr}(h:qw u=true)(ht:u.text=false):q9 u.s=true∧yp u.attrs=true:=by
 unfold qw at h
 rw[ht]at h
 simpa using h
theorem Vd {u:Tr}{tl:List Tr}:∀ (fs:List Fr)(d:Nat),rgt (d+1) (plug fs (u::tl))=true→(∀ k∈plug fs (u::tl),Deep d k.kids)→qw u=true:=by
 intro fs
 induction fs with
 | nil=>intro d h _;exact (y8 _ _ h u List.mem_cons_self).1
 | cons f fs ih =>
   intro d h hd;have hk:=hd _ (List.mem_singleton.2 rfl);cases d with
   | zero =>
     have e:f.ahead++(plug fs (u::tl)++f.behind)=[]:=hk;simp at e
     exact absurd e.2.1 (plug_ne fs u tl)
   | succ d =>
     have h1:=y8 _ _ h _ (List.mem_singleton.2 rfl);have hk':∀ k∈f.ahead++(plug fs (u::tl)++f.behind),Deep d k.kids:=hk;cases ht:f.t.text with
     | true =>
       have:=xf h1.1 ht;simp at this
       exact absurd this.2.1 (plug_ne fs u tl)
     | false =>
       have h2:=h1.2;simp only[ht,Bool.false_or]at h2
       have h3:rgL (rgt d) false (f.ahead++(plug fs (u::tl)++f.behind))=true:=h2;have h4:∀ k∈plug fs (u::tl),qw k=true∧(k.text||rgt d k.kids)=true:=fun k hk=>y8 _ _ h3 k (List.mem_append_right _ (List.mem_append_left _ hk))
       cases fs with
       | nil=>exact (h4 u List.mem_cons_self).1
       | cons g fs =>
         refine ih d ?_ (fun k hk=>hk' k (List.mem_append_right _ (List.mem_append_left _ hk)))
         have h5:=h4 _ (List.mem_singleton.2 rfl)
         show rgL (rgt d) false [_]=true
         simp only[rgL,Bool.and_eq_true,Bool.false_and,Bool.not_false,and_true];exact ⟨h5.1,h5.2⟩
theorem Zip.right {ns:List Nd}{n d:Nat}{T u:Tr}{tl:List Tr}{fs:List Fr}(h:Zip ns n d T u tl fs):qw u=true:=by
 have hG:=h.good;rw[j8 h.deep]at hG
 simp only[Bool.and_eq_true]at hG
 obtain ⟨_,h2⟩:=h.segL;exact Vd fs d (by rw[h.plug];exact hG.2) h2
theorem rgt_all:∀ {n:Nat}{ts:List Tr},Deep n ts→rgt n ts=true→∀ N,rgt N ts=true:=by
 intro n
 induction n with
 | zero=>intro ts h _ N;have e:ts=[]:=h;subst e;exact xC N
 | succ n ih =>
   intro ts hd h N;cases N with
   | zero=>rfl
   | succ N =>
     have key:∀ (l:List Tr) (p:Bool),(∀ t∈l,Deep n t.kids)→rgL (rgt n) p l=true→rgL (rgt N) p l=true:=by
      intro l
      induction l with
      | nil=>intro p _ _;rfl
      | cons t l ihl =>
        intro p hd h;simp only[rgL,Bool.and_eq_true]at h ⊢
        refine ⟨⟨h.1.1,?_⟩,ihl _ (fun u hu=>hd u (List.mem_cons_of_mem _ hu)) h.2⟩
        have h3:=h.1.2;cases htx:t.text with
        | true=>rfl
        | false =>
          rw[htx,Bool.false_or]at h3
          rw[Bool.false_or];exact ih (hd t List.mem_cons_self) h3 N
     exact key ts false hd h
end
end Go.Proofs.YtlldnnalamdegaaGreatDoor
namespace Go.Proofs.YtlldnnalamdegaaGreatDoor
open Go.ChangeShapes Go.WideShapes Go.ChangeAt Go.RowKit
set_option maxRecDepth 100000
def yt (B:Nat)(w:World)(v:Value)(l:List (ByteArray × ByteArray)):Prop:=w.ownsRow B 58 2 v l.length (attrCells l)
structure YM (B:Nat) (T:Nat→Prop) (N i:Nat) (w:World) (r:Rw) (x:Nd):Prop where
 text:r.text=x.text
 s:r.s=x.s
 par:r.par=x.parent
 kids:qE B w r.vk x.kids
 own:i<N→yt B w r.va x.attrs
 far:N≤i→qk T w r.va x.attrs
structure qQ (B:Nat) (T:Nat→Prop) (N:Nat) (w:World) (v:Value) (ns:List Nd) (ms:List Rw):Prop where
 len:ms.length=ns.length
 row:w.ownsRow B 55 5 v ns.length (rawCells ms)
 each:∀ (i:Nat) (r:Rw) (x:Nd),ms[i]?=some r→ns[i]?=some x→YM B T N i w r x
 kids:∀ (i j:Nat) (r q:Rw) (b:Nat),i≠j→ms[i]?=some r→ms[j]?=some q→r.vk.ownBlock=some b→q.vk.ownBlock≠some b
 attrs:∀ (i j:Nat) (r q:Rw) (b:Nat),i≠j→i<N→j<N→ms[i]?=some r→ms[j]?=some q→r.va.ownBlock=some b→q.va.ownBlock≠some b
 low:∀ b,T b→b<B
 le:B≤w.heap.size
theorem YM.keep {B:Nat}{T:Nat→Prop}{N i:Nat}{w w':World}{r:Rw}{x:Nd}(h:YM B T N i w r x)(hlow:∀ b,T b→w'.heap[b]?=w.heap[b]?)(hA:i<N→∀ b,r.va.ownBlock=some b→w'.heap[b]?=w.heap[b]?)(hI:∀ b,r.vk.ownBlock=some b→w'.heap[b]?=w.heap[b]?):YM B T N i w' r x :=
 ⟨h.text,h.s,h.par,qj h.kids hI,fun hi=>qj (h.own hi) (hA hi),fun hi=>(h.far hi).carry fun b hb=>⟨hb,hlow b hb⟩⟩
theorem qQ.get {B:Nat}{T:Nat→Prop}{N:Nat}{w:World}{v:Value}{ns:List Nd}{ms:List Rw}(h:qQ B T N w v ns ms){i:Nat}{x:Nd}(hx:ns[i]?=some x):∃ r,ms[i]?=some r∧YM B T N i w r x:=by
 have hi:i<ns.length:=(List.getElem?_eq_some_iff.1 hx).1;have hr:ms[i]?=some (ms[i]'(by rw[h.len];exact hi)):=by simp[h.len,hi]
 exact ⟨_,hr,h.each i _ x hr hx⟩
theorem qQ.get' {B:Nat}{T:Nat→Prop}{N:Nat}{w:World}{v:Value}{ns:List Nd}{ms:List Rw}(h:qQ B T N w v ns ms){i:Nat}{r:Rw}(hr:ms[i]?=some r):∃ x,ns[i]?=some x∧YM B T N i w r x:=by
 have hi:i<ms.length:=(List.getElem?_eq_some_iff.1 hr).1;have hx:ns[i]?=some (ns[i]'(by rw[←h.len];exact hi)):=by simp[←h.len,hi]
 exact ⟨_,hx,h.each i r _ hr hx⟩
theorem qQ.keep {B:Nat}{T:Nat→Prop}{N:Nat}{w w':World}{v:Value}{ns:List Nd}{ms:List Rw}(h:qQ B T N w v ns ms)(hsz:w.heap.size≤w'.heap.size)(hlow:∀ b,b<B→w'.heap[b]?=w.heap[b]?)(hA:∀ b,qT B 58 w b→w'.heap[b]?=w.heap[b]?)
 (hI:∀ b,qT B 3 w b→w'.heap[b]?=w.heap[b]?) (hN:∀ b,qT B 55 w b→w'.heap[b]?=w.heap[b]?):qQ B T N w' v ns ms :=
 ⟨h.len,qj h.row fun b hb=>hN b (qg h.row hb),fun i r x hr hx=>(h.each i r x hr hx).keep (fun b hb=>hlow b (h.low b hb)) (fun hi b hb=>hA b (qg ((h.each i r x hr hx).own hi) hb)) (fun b hb=>hI b (qg (h.each i r x hr hx).kids hb)),
  h.kids,h.attrs,h.low,Nat.le_trans h.le hsz⟩
theorem qQ.later {B:Nat}{T:Nat→Prop}{N:Nat}{w w':World}{v:Value}{ns:List Nd}{ms:List Rw}(h:qQ B T N w v ns ms)(hb:Below w.heap.size w w'):qQ B T N w' v ns ms :=
 h.keep hb.size (fun b hb'=>hb.block b (Nat.lt_of_lt_of_le hb' h.le)) (fun b hs=>hb.block b hs.lt) (fun b hs=>hb.block b hs.lt) (fun b hs=>hb.block b hs.lt)
theorem qz {w:World}{B B':Nat}{e e':TypeId}{b b':Nat}(h:qT B e w b)(h':qT B' e' w b')(hne:e≠e'):b≠b':=by
 intro hb;subst hb;obtain ⟨_,c,fz,hc⟩:=h;obtain ⟨_,c',fz',hc'⟩:=h';rw[hc]at hc'
 injection hc' with hc'
 injection hc' with _ h4 _
 exact hne h4
theorem qQ.snoc {B:Nat}{T:Nat→Prop}{N:Nat}{w w':World}{v v':Value}{ns:List Nd}{ms:List Rw}{r:Rw}{x:Nd}(h:qQ B T N w v ns ms)
 (hown:w'.ownsRow B 55 5 v' (ns.length+1) (rawCells ms++[.bool r.text,.string r.s,r.va,.int .i64 r.par,r.vk])) (hg:w.grownBy w' v.ownBlock) (hR:YM B T N ns.length w r x) (hN:N≤ns.length) (hk:r.vk.ownBlock=none):qQ B T N w' v' (ns++[x]) (ms++[r]):=by
 have hvB:∀ b,v.ownBlock=some b→B≤b:=fun b hb=>(h.row.lt b hb).1
 have keep:∀ {i:Nat} {r:Rw} {x:Nd},YM B T N i w r x→YM B T N i w' r x:=by
  intro i r x hR;refine hR.keep (fun b hb=>hg.block b (Nat.lt_of_lt_of_le (h.low b hb) h.le) (fun e=>by have:=hvB b e.symm;have:=h.low b hb;omega)) (fun hi b hb=>?_) (fun b hb=>?_)
  · have hs := qg (hR.own hi) hb;exact hg.block b hs.lt (qr h.row hs (by decide))
  · have hs := qg hR.kids hb;exact hg.block b hs.lt (qr h.row hs (by decide))
 have last:∀ {i:Nat} {q:Rw},(ms++[r])[i]?=some q→(i<ms.length∧ms[i]?=some q)∨(i=ms.length∧q=r):=by
  intro i q hq
  rcases Nat.lt_or_ge i ms.length with hi|hi
  · rw[List.getElem?_append_left hi]at hq;exact Or.inl ⟨hi,hq⟩
  · rw[List.getElem?_append_right hi]at hq
    have hz:i-ms.length=0:=by
     rcases Nat.eq_zero_or_pos (i-ms.length) with h'|h'
     · exact h'
     · rw[List.getElem?_eq_none (by simp;omega)]at hq;cases hq
    rw[hz]at hq
    simp at hq
    exact Or.inr ⟨by omega,hq.symm⟩
 refine ⟨by simp[h.len],?_,?_,?_,?_,h.low,Nat.le_trans h.le hg.size⟩
 · rw[ZK,List.length_append];exact hown
 · intro i q y hq hy
   rcases last hq with ⟨hi,hq'⟩|⟨hi,hqr⟩
   · rw[List.getElem?_append_left (by rw[←h.len];exact hi)]at hy
     exact keep (h.each i q y hq' hy)
   · subst hi hqr;rw[h.len,List.getElem?_append_right (nR9 _)]at hy
     simp at hy
     subst hy;rw[h.len];exact keep hR
 · intro i j p q b hne hp hq hb
   rcases last hp with ⟨hi,hp'⟩|⟨hi,hpr⟩
   · rcases last hq with ⟨hj, hq'⟩ | ⟨hj, hqr⟩
     · exact h.kids i j p q b hne hp' hq' hb
     · rw[hqr,hk];exact fun e=>by cases e
   · rw[hpr,hk]at hb;cases hb
 · intro i j p q b hne hiN hjN hp hq hb
   rcases last hp with ⟨hi,hp'⟩|⟨hi,hpr⟩
   · rcases last hq with ⟨hj, hq'⟩ | ⟨hj, hqr⟩
     · exact h.attrs i j p q b hne hiN hjN hp' hq' hb
     · rw[h.len]at hj;omega
   · rw[h.len]at hi;omega
theorem qQ.put {B:Nat}{T:Nat→Prop}{N:Nat}{w w1 w2:World}{v:Value}{ns:List Nd}{ms:List Rw}{i:Nat}{r r':Rw}{x x':Nd}(h:qQ B T N w v ns ms)(hr:ms[i]?=some r)(hx:ns[i]?=some x)(hsz:w.heap.size≤w1.heap.size)(hsz2:w2.heap.size=w1.heap.size)
 (hkeep:∀ b,b<w.heap.size→r.vk.ownBlock≠some b→(i<N→r.va.ownBlock≠some b)→w1.heap[b]?=w.heap[b]?)
 (hrow:w2.ownsRow B 55 5 v ns.length (rawCells (ms.set i r'))) (hk2:∀ b,v.ownBlock≠some b→w2.heap[b]?=w1.heap[b]?) (hR:YM B T N i w1 r' x')
 (hk:∀ b,r'.vk.ownBlock=some b→r.vk.ownBlock=some b∨w.heap.size≤b) (ha:i<N→∀ b,r'.va.ownBlock=some b→r.va.ownBlock=some b∨w.heap.size≤b):qQ B T N w2 v (ns.set i x') (ms.set i r'):=by
 have hRi:=h.each i r x hr hx;have hil:i<ns.length:=(List.getElem?_eq_some_iff.1 hx).1;have him:i<ms.length:=by rw[h.len];exact hil
 have vnode:∀ b,v.ownBlock=some b→qT B 55 w b:=fun b hb=>qg h.row hb
 have keepLow:∀ b,b<B→w2.heap[b]?=w.heap[b]?:=fun b hb=>by
  rw[hk2 b (fun e=>by have:=(h.row.lt b e).1;omega)]
  refine hkeep b (Nat.lt_of_lt_of_le hb h.le) (fun e=>?_) (fun hi e=>?_)
  · have:=(qE.lt hRi.kids b e).1;omega
  · have:=((hRi.own hi).lt b e).1;omega
 have new_ne:∀ b,v.ownBlock=some b→b<w.heap.size:=fun b hb=>(vnode b hb).lt
 refine ⟨by simp[h.len],by rw[List.length_set];exact hrow,?_,?_,?_,h.low,?_⟩
 · intro j q y hq hy
   by_cases hj:j=i
   · subst hj;rw[List.getElem?_set_self him]at hq
     rw[List.getElem?_set_self hil]at hy
     injection hq with hq
     injection hy with hy
     subst hq hy;refine hR.keep (fun b hb=>hk2 b (fun e=>by have:=(h.row.lt b e).1;have:=h.low b hb;omega)) (fun hi b hb=>hk2 b (fun e=>?_)) (fun b hb=>hk2 b (fun e=>?_))
     · rcases ha hi b hb with e1 | e1
       · exact qz (qg (hRi.own hi) e1) (vnode b e) (by decide) rfl
       · have:=new_ne b e;omega
     · rcases hk b hb with e1 | e1
       · exact qz (qg hRi.kids e1) (vnode b e) (by decide) rfl
       · have:=new_ne b e;omega
   · rw[List.getElem?_set_ne (fun e => hj e.symm)]at hq hy
     have hq':=h.each j q y hq hy;refine hq'.keep (fun b hb=>keepLow b (h.low b hb)) (fun hjN b hb=>?_) (fun b hb=>?_)
     · have hs := qg (hq'.own hjN) hb;rw[hk2 b (fun e=>qz hs (vnode b e) (by decide) rfl)]
       exact hkeep b hs.lt (fun e=>qz hs (qg hRi.kids e) (by decide) rfl) (fun hi e=>h.attrs i j r q b (fun e=>hj e.symm) hi hjN hr hq e hb)
     · have hs := qg hq'.kids hb;rw[hk2 b (fun e=>qz hs (vnode b e) (by decide) rfl)]
       exact hkeep b hs.lt (fun e=>h.kids i j r q b (fun e=>hj e.symm) hr hq e hb) (fun hi e=>qz hs (qg (hRi.own hi) e) (by decide) rfl)
 · intro j k p q b hne hp hq hb e
   have lt:∀ {m:Nat} {q:Rw},ms[m]?=some q→∀ b,q.vk.ownBlock=some b→b<w.heap.size:=fun hm b hb=>by
    obtain ⟨y,_,hy⟩:=h.get' hm;exact (qE.lt hy.kids b hb).2
   by_cases hj:j=i
   · subst hj;rw[List.getElem?_set_self him]at hp
     injection hp with hp
     subst hp;rw[List.getElem?_set_ne hne]at hq
     rcases hk b hb with e1|e1
     · exact h.kids j k r q b hne hr hq e1 e
     · have:=lt hq b e;omega
   · rw[List.getElem?_set_ne (fun e => hj e.symm)]at hp
     by_cases hki:k=i
     · subst hki;rw[List.getElem?_set_self him]at hq
       injection hq with hq
       subst hq
       rcases hk b e with e1|e1
       · exact h.kids j k p r b hne hp hr hb e1
       · have:=lt hp b hb;omega
     · rw[List.getElem?_set_ne (fun e => hki e.symm)]at hq
       exact h.kids j k p q b hne hp hq hb e
 · intro j k p q b hne hjN hkN hp hq hb e
   have lt:∀ {m:Nat} {q:Rw},m<N→ms[m]?=some q→∀ b,q.va.ownBlock=some b→b<w.heap.size:=fun hmN hm b hb=>by
    obtain ⟨y,_,hy⟩:=h.get' hm;exact ((hy.own hmN).lt b hb).2
   by_cases hj:j=i
   · subst hj;rw[List.getElem?_set_self him]at hp
     injection hp with hp
     subst hp;rw[List.getElem?_set_ne hne]at hq
     rcases ha hjN b hb with e1|e1
     · exact h.attrs j k r q b hne hjN hkN hr hq e1 e
     · have:=lt hkN hq b e;omega
   · rw[List.getElem?_set_ne (fun e => hj e.symm)]at hp
     by_cases hki:k=i
     · subst hki;rw[List.getElem?_set_self him]at hq
       injection hq with hq
       subst hq
       rcases ha hkN b e with e1|e1
       · exact h.attrs j k p r b hne hjN hkN hp hr hb e1
       · have:=lt hjN hp b hb;omega
     · rw[List.getElem?_set_ne (fun e => hki e.symm)]at hq
       exact h.attrs j k p q b hne hjN hkN hp hq hb e
 · rw[hsz2];exact Nat.le_trans h.le hsz
section
attribute [local go_sem] qd
theorem X8 (k:Int)(w:World):Calls Tryz.prog 101 #[.int .i64 k] w fun e w'=>e=.returned (.bool (zd k))∧w'=w:=by
 have HP:Hid (zd k=(decide (k=3)||decide (k=4)||decide (k=5)||decide (k=6))):=rfl
 by_cases h3:k=3
 · have HE : Hid (zd k = true) := by show _ = _;rw[HP.out];simp[h3]
   subst h3
   go_enter Tryz.func101,Tryz.ntmps101
   go_wp2;go_ret;exact ⟨by rw[HE.out];rfl,rfl⟩
 by_cases h4:k=4
 · have HE : Hid (zd k = true) := by show _ = _;rw[HP.out];simp[h4]
   subst h4
   go_enter Tryz.func101,Tryz.ntmps101
   go_wp2;go_ret;exact ⟨by rw[HE.out];rfl,rfl⟩
 by_cases h5:k=5
 · have HE : Hid (zd k = true) := by show _ = _;rw[HP.out];simp[h5]
   subst h5
   go_enter Tryz.func101,Tryz.ntmps101
   go_wp2;go_ret;exact ⟨by rw[HE.out];rfl,rfl⟩
 by_cases h6:k=6
 · have HE : Hid (zd k = true) := by show _ = _;rw[HP.out];simp[h6]
   subst h6
   go_enter Tryz.func101,Tryz.ntmps101
   go_wp2;go_ret;exact ⟨by rw[HE.out];rfl,rfl⟩
 have HE:Hid (zd k=false):=by show _=_;rw[HP.out];simp[h3,h4,h5,h6]
 have b3:(k==3)=false:=by simpa using h3
 have b4:(k==4)=false:=by simpa using h4
 have b5:(k==5)=false:=by simpa using h5
 have b6:(k==6)=false:=by simpa using h6
 clear h3 h4 h5 h6 HP
 go_enter Tryz.func101,Tryz.ntmps101
 go_wp2;go_ret;exact ⟨by rw[HE.out];rfl,rfl⟩
theorem qcV (n:Nat):((n:Int)==0)=decide (n=0):=by
 by_cases h:n=0<;>simp[h]
theorem VV (a:ByteArray):a.toList.isEmpty=decide (a=⟨#[]⟩):=by
 rw[ByteArray.toList_eq];obtain ⟨d⟩:=a
 by_cases h:d=#[]
 · subst h;simp
 · have h2 : ¬ (⟨d⟩ : ByteArray) = ⟨#[]⟩ := by intro e;injection e with e;exact h e
   simp[h,h2]
theorem Zt (S:Nat→Prop)(n:Nat)(ca:Option Addr)(cc:Nat)(o:Opn)(w:World)(hC:qb S w n (.slice ca o.content.length cc) o.content)(hx:TextsN n o.content) :
 Calls Tryz.prog 98 #[.agg #[.int .i64 o.kind,.int .i64 o.target,.slice ca o.content.length cc,.string o.name,.string o.s]] w fun e w'=>e=.returned (.bool (yq o))∧Below w.heap.size w w':=by
 have HP:Hid (qdz o.kind=(decide (o.kind=1)||decide (o.kind=2)||decide (o.kind=3)||decide (o.kind=4)||decide (o.kind=6))):=rfl
 have HC:Hid (∀ W,qb S W n (.slice ca o.content.length cc) o.content→Calls Tryz.prog 25 #[.slice ca o.content.length cc] W fun e w'=>e=.returned (.bool (qG o.content))∧Below W.heap.size W w'):=fun W hW=>xP S n _ _ W hW hx
 have HO:Hid (yq o=if qdz o.kind then qG o.content else decide (o.content.length=0)):=rfl
 obtain ⟨k,tg,ct,nm,s⟩:=o;dsimp only at *
 by_cases h1:k=1
 · have HE : Hid (yq ⟨k, tg, ct, nm, s⟩ = qG ct) := by show _ = _;rw[HO.out, HP.out];simp[h1]
   clear HP HO;subst h1;have hb:=Below.alloc1 w (.cells #[.int .i64 1,.int .i64 tg,.slice ca ct.length cc,.string nm,.string s] 85)
   go_enter Tryz.func98,Tryz.ntmps98
   go_wp2_with fail;refine (HC.out _ (hC.later hb)).mono ?_;rintro e w1 ⟨rfl,hb1⟩;go_wp2_with fail;go_ret;exact ⟨by rw[HE.out];rfl,hb.trans (hb1.mono hb.size)⟩
 by_cases h2:k=2
 · have HE : Hid (yq ⟨k, tg, ct, nm, s⟩ = qG ct) := by show _ = _;rw[HO.out, HP.out];simp[h2]
   clear HP HO;subst h2;have hb:=Below.alloc1 w (.cells #[.int .i64 2,.int .i64 tg,.slice ca ct.length cc,.string nm,.string s] 85)
   go_enter Tryz.func98,Tryz.ntmps98
   go_wp2_with fail;refine (HC.out _ (hC.later hb)).mono ?_;rintro e w1 ⟨rfl,hb1⟩;go_wp2_with fail;go_ret;exact ⟨by rw[HE.out];rfl,hb.trans (hb1.mono hb.size)⟩
 by_cases h3:k=3
 · have HE : Hid (yq ⟨k, tg, ct, nm, s⟩ = qG ct) := by show _ = _;rw[HO.out, HP.out];simp[h3]
   clear HP HO;subst h3;have hb:=Below.alloc1 w (.cells #[.int .i64 3,.int .i64 tg,.slice ca ct.length cc,.string nm,.string s] 85)
   go_enter Tryz.func98,Tryz.ntmps98
   go_wp2_with fail;refine (HC.out _ (hC.later hb)).mono ?_;rintro e w1 ⟨rfl,hb1⟩;go_wp2_with fail;go_ret;exact ⟨by rw[HE.out];rfl,hb.trans (hb1.mono hb.size)⟩
 by_cases h4:k=4
 · have HE : Hid (yq ⟨k, tg, ct, nm, s⟩ = qG ct) := by show _ = _;rw[HO.out, HP.out];simp[h4]
   clear HP HO;subst h4;have hb:=Below.alloc1 w (.cells #[.int .i64 4,.int .i64 tg,.slice ca ct.length cc,.string nm,.string s] 85)
   go_enter Tryz.func98,Tryz.ntmps98
   go_wp2_with fail;refine (HC.out _ (hC.later hb)).mono ?_;rintro e w1 ⟨rfl,hb1⟩;go_wp2_with fail;go_ret;exact ⟨by rw[HE.out];rfl,hb.trans (hb1.mono hb.size)⟩
 by_cases h6:k=6
 · have HE : Hid (yq ⟨k, tg, ct, nm, s⟩ = qG ct) := by show _ = _;rw[HO.out, HP.out];simp[h6]
   clear HP HO;subst h6;have hb:=Below.alloc1 w (.cells #[.int .i64 6,.int .i64 tg,.slice ca ct.length cc,.string nm,.string s] 85)
   go_enter Tryz.func98,Tryz.ntmps98
   go_wp2_with fail;refine (HC.out _ (hC.later hb)).mono ?_;rintro e w1 ⟨rfl,hb1⟩;go_wp2_with fail;go_ret;exact ⟨by rw[HE.out];rfl,hb.trans (hb1.mono hb.size)⟩
 have HE:Hid (yq ⟨k,tg,ct,nm,s⟩=decide (ct.length=0)):=by show _=_;rw[HO.out,HP.out];simp[h1,h2,h3,h4,h6]
 have b1:(k==1)=false:=by simpa using h1
 have b2:(k==2)=false:=by simpa using h2
 have b3:(k==3)=false:=by simpa using h3
 have b4:(k==4)=false:=by simpa using h4
 have b6:(k==6)=false:=by simpa using h6
 clear HP HO h1 h2 h3 h4 h6;have hb:=Below.alloc1 w (.cells #[.int .i64 k,.int .i64 tg,.slice ca ct.length cc,.string nm,.string s] 85)
 go_enter Tryz.func98,Tryz.ntmps98
 go_wp2_with fail;go_ret;exact ⟨by rw[HE.out,←qcV];rfl,hb⟩
theorem Y6 (vc:Value)(o:Opn)(w:World)(hx:o.name.size≤maxLen) :
 Calls Tryz.prog 99 #[.agg #[.int .i64 o.kind,.int .i64 o.target,vc,.string o.name,.string o.s]] w fun e w'=>e=.returned (.bool (jm o))∧Below w.heap.size w w':=by
 have HP:Hid (qdA o.kind=(decide (o.kind=8)||decide (o.kind=9)||decide (o.kind=10))):=rfl
 have HC:Hid (∀ W,Calls Tryz.prog 118 #[.string o.name] W fun e w'=>e=.returned (.bool (q9 o.name))∧w'=W):=fun W=>yh _ W hx
 have HO:Hid (jm o=if qdA o.kind then q9 o.name else decide (o.name=⟨#[]⟩)):=rfl
 obtain ⟨k,tg,ct,nm,s⟩:=o;dsimp only at *
 by_cases h8:k=8
 · have HE : Hid (jm ⟨k, tg, ct, nm, s⟩ = q9 nm) := by show _ = _;rw[HO.out, HP.out];simp[h8]
   clear HP HO;subst h8;have hb:=Below.alloc1 w (.cells #[.int .i64 8,.int .i64 tg,vc,.string nm,.string s] 85)
   go_enter Tryz.func99,Tryz.ntmps99
   go_wp2_with fail;refine (HC.out _).mono ?_;rintro e w1 ⟨rfl,rfl⟩;go_wp2_with fail;go_ret;exact ⟨by rw[HE.out];rfl,hb⟩
 by_cases h9:k=9
 · have HE : Hid (jm ⟨k, tg, ct, nm, s⟩ = q9 nm) := by show _ = _;rw[HO.out, HP.out];simp[h9]
   clear HP HO;subst h9;have hb:=Below.alloc1 w (.cells #[.int .i64 9,.int .i64 tg,vc,.string nm,.string s] 85)
   go_enter Tryz.func99,Tryz.ntmps99
   go_wp2_with fail;refine (HC.out _).mono ?_;rintro e w1 ⟨rfl,rfl⟩;go_wp2_with fail;go_ret;exact ⟨by rw[HE.out];rfl,hb⟩
 by_cases h10:k=10
 · have HE : Hid (jm ⟨k, tg, ct, nm, s⟩ = q9 nm) := by show _ = _;rw[HO.out, HP.out];simp[h10]
   clear HP HO;subst h10;have hb:=Below.alloc1 w (.cells #[.int .i64 10,.int .i64 tg,vc,.string nm,.string s] 85)
   go_enter Tryz.func99,Tryz.ntmps99
   go_wp2_with fail;refine (HC.out _).mono ?_;rintro e w1 ⟨rfl,rfl⟩;go_wp2_with fail;go_ret;exact ⟨by rw[HE.out];rfl,hb⟩
 have HE:Hid (jm ⟨k,tg,ct,nm,s⟩=decide (nm=⟨#[]⟩)):=by show _=_;rw[HO.out,HP.out];simp[h8,h9,h10]
 have b8:(k==8)=false:=by simpa using h8
 have b9:(k==9)=false:=by simpa using h9
 have b10:(k==10)=false:=by simpa using h10
 clear HP HO h8 h9 h10;have hb:=Below.alloc1 w (.cells #[.int .i64 k,.int .i64 tg,vc,.string nm,.string s] 85)
 go_enter Tryz.func99,Tryz.ntmps99
 go_wp2_with fail;go_ret;exact ⟨by rw[HE.out,←VV];rfl,hb⟩
theorem Vk (vc:Value)(o:Opn)(w:World)(hx:o.s.size≤maxLen) :
 Calls Tryz.prog 100 #[.agg #[.int .i64 o.kind,.int .i64 o.target,vc,.string o.name,.string o.s]] w fun e w'=>e=.returned (.bool (jM o))∧Below w.heap.size w w':=by
 have HP:Hid (qdB o.kind=(decide (o.kind=7)||decide (o.kind=9))):=rfl
 have HC:Hid (∀ W,Calls Tryz.prog 117 #[.string o.s] W fun e w'=>e=.returned (.bool (zl o.s))∧w'=W):=fun W=>zV _ W hx
 have HO:Hid (jM o=if qdB o.kind then zl o.s else decide (o.s=⟨#[]⟩)):=rfl
 obtain ⟨k,tg,ct,nm,s⟩:=o;dsimp only at *
 by_cases h7:k=7
 · have HE : Hid (jM ⟨k, tg, ct, nm, s⟩ = zl s) := by show _ = _;rw[HO.out, HP.out];simp[h7]
   clear HP HO;subst h7;have hb:=Below.alloc1 w (.cells #[.int .i64 7,.int .i64 tg,vc,.string nm,.string s] 85)
   go_enter Tryz.func100,Tryz.ntmps100
   go_wp2_with fail;refine (HC.out _).mono ?_;rintro e w1 ⟨rfl,rfl⟩;go_wp2_with fail;go_ret;exact ⟨by rw[HE.out];rfl,hb⟩
 by_cases h9:k=9
 · have HE : Hid (jM ⟨k, tg, ct, nm, s⟩ = zl s) := by show _ = _;rw[HO.out, HP.out];simp[h9]
   clear HP HO;subst h9;have hb:=Below.alloc1 w (.cells #[.int .i64 9,.int .i64 tg,vc,.string nm,.string s] 85)
   go_enter Tryz.func100,Tryz.ntmps100
   go_wp2_with fail;refine (HC.out _).mono ?_;rintro e w1 ⟨rfl,rfl⟩;go_wp2_with fail;go_ret;exact ⟨by rw[HE.out];rfl,hb⟩
 have HE:Hid (jM ⟨k,tg,ct,nm,s⟩=decide (s=⟨#[]⟩)):=by show _=_;rw[HO.out,HP.out];simp[h7,h9]
 have b7:(k==7)=false:=by simpa using h7
 have b9:(k==9)=false:=by simpa using h9
 clear HP HO h7 h9;have hb:=Below.alloc1 w (.cells #[.int .i64 k,.int .i64 tg,vc,.string nm,.string s] 85)
 go_enter Tryz.func100,Tryz.ntmps100
 go_wp2_with fail;go_ret;exact ⟨by rw[HE.out,←VV];rfl,hb⟩
theorem zQ {w w1:World}{cs:Array Value}{T:TypeId}(h:Below (w.alloc (.cells cs T)).heap.size (w.alloc (.cells cs T)) w1):w1.heap[w.heap.size]?=some (.cells cs T (0,0)):=by
 rw[h.block _ (by simp)];show (w.heap.push _)[w.heap.size]?=_;simp
theorem yH {W:World}{b:Nat}{T:TypeId}{c0 c1 c2 c3 c4:Value}(h:W.heap[b]?=some (.cells #[c0,c1,c2,c3,c4] T (0,0))) :
 W.cell? ⟨b,0,none⟩=some c0∧W.cell? ⟨b,1,none⟩=some c1∧W.cell? ⟨b,2,none⟩=some c2∧W.cell? ⟨b,3,none⟩=some c3∧W.cell? ⟨b,4,none⟩=some c4:=by
 simp[World.cell?,h]
set_option maxHeartbeats 4000000 in
theorem Je (S:Nat→Prop)(n:Nat)(v:Value)(ca:Option Addr)(cc:Nat)(ns:List Nd)(o:Opn)(w:World)(hN:qv S w v ns)(hC:qb S w n (.slice ca o.content.length cc) o.content)(hx:TextsN n o.content)(hn:o.name.size≤maxLen)(hs:o.s.size≤maxLen) :
 Calls Tryz.prog 53 #[v,.agg #[.int .i64 o.kind,.int .i64 o.target,.slice ca o.content.length cc,.string o.name,.string o.s]] w fun e w'=>e=.returned (.int .i64 (qO ns o))∧Below w.heap.size w w':=by
 have HC:Hid (∀ W,Below w.heap.size w W→Calls Tryz.prog 98 #[.agg #[.int .i64 o.kind,.int .i64 o.target,.slice ca o.content.length cc,.string o.name,.string o.s]] W fun e w'=>e=.returned (.bool (yq o))∧Below W.heap.size W w'):=fun W hW=>Zt S n ca cc o W (hC.later hW) hx
 have HM:Hid (∀ W,Calls Tryz.prog 99 #[.agg #[.int .i64 o.kind,.int .i64 o.target,.slice ca o.content.length cc,.string o.name,.string o.s]] W fun e w'=>e=.returned (.bool (jm o))∧Below W.heap.size W w'):=fun W=>Y6 _ o W hn
 have HT:Hid (∀ W,Calls Tryz.prog 100 #[.agg #[.int .i64 o.kind,.int .i64 o.target,.slice ca o.content.length cc,.string o.name,.string o.s]] W fun e w'=>e=.returned (.bool (jM o))∧Below W.heap.size W w'):=fun W=>Vk _ o W hs
 have HW:Hid (qO ns o=if decide (o.kind<1)||decide (10<o.kind) then 4
  else if decide (o.target<0)||decide ((ns.length:Int)≤o.target) then 3
  else if !(yq o)||!(jm o)||!(jM o) then 1
  else if decide (o.target=0)&&zd o.kind then 6
  else if x5 ns o.target&&!(zd o.kind)&&!(decide (o.kind=7)) then 4
  else 0):=rfl
 have HX:Hid (∀ i:Nat,x5 ns (i:Int)=match ns[i]? with
  | some x=>x.text
  | none=>false):=fun i=>rfl
 have hb:=Below.alloc1 w (.cells #[.int .i64 o.kind,.int .i64 o.target,.slice ca o.content.length cc,.string o.name,.string o.s] 85);have HN:Hid (qv S w v ns):=hN;obtain ⟨na,nc,rfl,hnl,hnc,hnodes⟩:=hN;clear hC hx hn hs hnodes
 generalize yq o=bc at *
 generalize jm o=bn at *
 generalize jM o=bt at *
 generalize qO ns o=R at *
 obtain ⟨k,tg,ct,nm,s⟩:=o;dsimp only at *
 by_cases hk1:k<1
 · have HR : Hid (R = 4) := by show _ = _;rw[HW.out];simp[hk1]
   clear HW
   go_enter Tryz.func53,Tryz.ntmps53
   go_wp2_with fail;go_ret;exact ⟨by rw[HR.out];rfl,hb⟩
 by_cases hk2:10<k
 · have HR : Hid (R = 4) := by show _ = _;rw[HW.out];simp[hk2]
   clear HW
   go_enter Tryz.func53,Tryz.ntmps53
   go_wp2_with fail;go_ret;exact ⟨by rw[HR.out];rfl,hb⟩
 by_cases ht1:tg<0
 · have HR : Hid (R = 3) := by show _ = _;rw[HW.out];simp[hk1, hk2, ht1]
   clear HW
   go_enter Tryz.func53,Tryz.ntmps53
   go_wp2_with fail;go_ret;exact ⟨by rw[HR.out];rfl,hb⟩
 by_cases ht2:(ns.length:Int)≤tg
 · have HR : Hid (R = 3) := by show _ = _;rw[HW.out];simp[hk1, hk2, ht2]
   clear HW
   go_enter Tryz.func53,Tryz.ntmps53
   go_wp2_with fail;go_ret;exact ⟨by rw[HR.out];rfl,hb⟩
 have HR:Hid (R=if !bc||!bn||!bt then 1 else if decide (tg=0)&&zd k then 6 else if x5 ns tg&&!(zd k)&&!(decide (k=7)) then 4 else 0):=by show _=_;rw[HW.out];simp[hk1,hk2,ht1,ht2]
 clear HW;cases bc with
 | false =>
   go_enter Tryz.func53,Tryz.ntmps53
   go_wp2_with fail;refine (HC.out _ hb).mono ?_;rintro e w1 ⟨rfl,hb1⟩;have hB1:=hb.trans (hb1.mono hb.size);have hz1:w.heap.size<w1.heap.size:=by have:=hb1.size;simp at this;omega
   have HB1:Hid (w1.heap[w.heap.size]?=some (.cells #[.int .i64 k,.int .i64 tg,.slice ca ct.length cc,.string nm,.string s] 85 (0,0))):=zQ hb1;obtain ⟨x10,x11,x12,x13,x14⟩:=yH HB1.out;go_wp2_with fail;go_ret;exact ⟨by rw[HR.out];rfl,hB1⟩
 | true =>
 cases bn with
 | false =>
   go_enter Tryz.func53,Tryz.ntmps53
   go_wp2_with fail;refine (HC.out _ hb).mono ?_;rintro e w1 ⟨rfl,hb1⟩;have hB1:=hb.trans (hb1.mono hb.size);have hz1:w.heap.size<w1.heap.size:=by have:=hb1.size;simp at this;omega
   have HB1:Hid (w1.heap[w.heap.size]?=some (.cells #[.int .i64 k,.int .i64 tg,.slice ca ct.length cc,.string nm,.string s] 85 (0,0))):=zQ hb1;obtain ⟨x10,x11,x12,x13,x14⟩:=yH HB1.out;go_wp2_with fail;refine (HM.out _).mono ?_;rintro e w2 ⟨rfl,hb2⟩;have hB2:=hB1.trans (hb2.mono (by omega))
   have hz2:w.heap.size<w2.heap.size:=by have:=hb2.size;omega
   have HB2:Hid (w2.heap[w.heap.size]?=some (.cells #[.int .i64 k,.int .i64 tg,.slice ca ct.length cc,.string nm,.string s] 85 (0,0))):=(hb2.block _ (by omega)).trans HB1.out
   clear x10 x11 x12 x13 x14;obtain ⟨x20,x21,x22,x23,x24⟩:=yH HB2.out;go_wp2_with fail;go_ret;exact ⟨by rw[HR.out];rfl,hB2⟩
 | true =>
 cases bt with
 | false =>
   go_enter Tryz.func53,Tryz.ntmps53
   go_wp2_with fail;refine (HC.out _ hb).mono ?_;rintro e w1 ⟨rfl,hb1⟩;have hB1:=hb.trans (hb1.mono hb.size);have hz1:w.heap.size<w1.heap.size:=by have:=hb1.size;simp at this;omega
   have HB1:Hid (w1.heap[w.heap.size]?=some (.cells #[.int .i64 k,.int .i64 tg,.slice ca ct.length cc,.string nm,.string s] 85 (0,0))):=zQ hb1;obtain ⟨x10,x11,x12,x13,x14⟩:=yH HB1.out;go_wp2_with fail;refine (HM.out _).mono ?_;rintro e w2 ⟨rfl,hb2⟩;have hB2:=hB1.trans (hb2.mono (by omega))
   have hz2:w.heap.size<w2.heap.size:=by have:=hb2.size;omega
   have HB2:Hid (w2.heap[w.heap.size]?=some (.cells #[.int .i64 k,.int .i64 tg,.slice ca ct.length cc,.string nm,.string s] 85 (0,0))):=(hb2.block _ (by omega)).trans HB1.out
   clear x10 x11 x12 x13 x14;obtain ⟨x20,x21,x22,x23,x24⟩:=yH HB2.out;go_wp2_with fail;refine (HT.out _).mono ?_;rintro e w3 ⟨rfl,hb3⟩;have hB3:=hB2.trans (hb3.mono (by omega))
   have hz3:w.heap.size<w3.heap.size:=by have:=hb3.size;omega
   have HB3:Hid (w3.heap[w.heap.size]?=some (.cells #[.int .i64 k,.int .i64 tg,.slice ca ct.length cc,.string nm,.string s] 85 (0,0))):=(hb3.block _ (by omega)).trans HB2.out
   clear x20 x21 x22 x23 x24;obtain ⟨x30,x31,x32,x33,x34⟩:=yH HB3.out;go_wp2_with fail;go_ret;exact ⟨by rw[HR.out];rfl,hB3⟩
 | true =>
 have HR2:Hid (R=if decide (tg=0)&&zd k then 6 else if x5 ns tg&&!(zd k)&&!(decide (k=7)) then 4 else 0):=by show _=_;rw[HR.out];simp
 clear HR;have HP:Hid (∀ W,Calls Tryz.prog 101 #[.int .i64 k] W fun e w'=>e=.returned (.bool (zd k))∧w'=W):=fun W=>X8 k W
 by_cases h0:tg=0
 · subst h0;obtain ⟨x,hxi⟩:∃ x,ns[0]?=some x:=⟨ns[0]'(by omega),by simp⟩
   have HR3:Hid (R=if zd k then 6 else if x.text&&!(zd k)&&!(decide (k=7)) then 4 else 0):=by
    show _=_
    have e:x5 ns 0=x.text:=by rw[show (0:Int)=((0:Nat):Int) from rfl,HX.out 0,hxi]
    rw[HR2.out,e];simp
   obtain ⟨b,of,cap,va,vk,hv,_,_,hSb,hbw,c0,c1,c2,c3,c4,hAt,hKi⟩:=HN.out.at hxi
   clear HR2 HX HN c1 c2 c3 c4 hAt hKi hSb hxi
   injection hv with hv1 _ hv2
   subst hv1 hv2;have hL0:¬ ns.length=0:=by omega
   generalize ns.length=L at *
   generalize zd k=pb at *
   cases pb with
   | true =>
     go_enter Tryz.func53,Tryz.ntmps53
     go_wp2_with fail;refine (HC.out _ hb).mono ?_;rintro e w1 ⟨rfl,hb1⟩;have hB1:=hb.trans (hb1.mono hb.size);have hz1:w.heap.size<w1.heap.size:=by have:=hb1.size;simp at this;omega
     have HB1:Hid (w1.heap[w.heap.size]?=some (.cells #[.int .i64 k,.int .i64 0,.slice ca ct.length cc,.string nm,.string s] 85 (0,0))):=zQ hb1;obtain ⟨x10,x11,x12,x13,x14⟩:=yH HB1.out;go_wp2_with fail;refine (HM.out _).mono ?_;rintro e w2 ⟨rfl,hb2⟩;have hB2:=hB1.trans (hb2.mono (by omega))
     have hz2:w.heap.size<w2.heap.size:=by have:=hb2.size;omega
     have HB2:Hid (w2.heap[w.heap.size]?=some (.cells #[.int .i64 k,.int .i64 0,.slice ca ct.length cc,.string nm,.string s] 85 (0,0))):=(hb2.block _ (by omega)).trans HB1.out
     clear x10 x11 x12 x13 x14;obtain ⟨x20,x21,x22,x23,x24⟩:=yH HB2.out;go_wp2_with fail;refine (HT.out _).mono ?_;rintro e w3 ⟨rfl,hb3⟩;have hB3:=hB2.trans (hb3.mono (by omega))
     have hz3:w.heap.size<w3.heap.size:=by have:=hb3.size;omega
     have HB3:Hid (w3.heap[w.heap.size]?=some (.cells #[.int .i64 k,.int .i64 0,.slice ca ct.length cc,.string nm,.string s] 85 (0,0))):=(hb3.block _ (by omega)).trans HB2.out
     clear x20 x21 x22 x23 x24;obtain ⟨x30,x31,x32,x33,x34⟩:=yH HB3.out;go_wp2_with fail;refine (HP.out _).mono ?_;rintro e w4 ⟨rfl,rfl⟩;go_wp2_with fail;go_ret;exact ⟨by rw[HR3.out];rfl,hB3⟩
   | false =>
     simp only[Nat.zero_mul,Nat.add_zero]at c0
     have d0:Hid (∀ W,Below w.heap.size w W→W.cell? ⟨b,of,none⟩=some (.bool x.text)):=fun W hW=>(World.cell?_of_block (a:=⟨b,of,none⟩) (hW.block b hbw)).trans c0
     clear c0
     generalize x.text=tx at *
     cases tx with
     | false =>
       go_enter Tryz.func53,Tryz.ntmps53
       go_wp2_with fail;refine (HC.out _ hb).mono ?_;rintro e w1 ⟨rfl,hb1⟩;have hB1:=hb.trans (hb1.mono hb.size);have hz1:w.heap.size<w1.heap.size:=by have:=hb1.size;simp at this;omega
       have HB1:Hid (w1.heap[w.heap.size]?=some (.cells #[.int .i64 k,.int .i64 0,.slice ca ct.length cc,.string nm,.string s] 85 (0,0))):=zQ hb1;obtain ⟨x10,x11,x12,x13,x14⟩:=yH HB1.out;go_wp2_with fail;refine (HM.out _).mono ?_;rintro e w2 ⟨rfl,hb2⟩;have hB2:=hB1.trans (hb2.mono (by omega))
       have hz2:w.heap.size<w2.heap.size:=by have:=hb2.size;omega
       have HB2:Hid (w2.heap[w.heap.size]?=some (.cells #[.int .i64 k,.int .i64 0,.slice ca ct.length cc,.string nm,.string s] 85 (0,0))):=(hb2.block _ (by omega)).trans HB1.out
       clear x10 x11 x12 x13 x14;obtain ⟨x20,x21,x22,x23,x24⟩:=yH HB2.out;go_wp2_with fail;refine (HT.out _).mono ?_;rintro e w3 ⟨rfl,hb3⟩;have hB3:=hB2.trans (hb3.mono (by omega))
       have hz3:w.heap.size<w3.heap.size:=by have:=hb3.size;omega
       have HB3:Hid (w3.heap[w.heap.size]?=some (.cells #[.int .i64 k,.int .i64 0,.slice ca ct.length cc,.string nm,.string s] 85 (0,0))):=(hb3.block _ (by omega)).trans HB2.out
       clear x20 x21 x22 x23 x24;obtain ⟨x30,x31,x32,x33,x34⟩:=yH HB3.out;go_wp2_with fail;refine (HP.out _).mono ?_;rintro e w4 ⟨rfl,rfl⟩;have e0:=d0.out _ hB3;go_wp2_with fail;go_ret;exact ⟨by rw[HR3.out];rfl,hB3⟩
     | true =>
       by_cases h7:k=7
       · subst h7
         go_enter Tryz.func53,Tryz.ntmps53
         go_wp2_with fail;refine (HC.out _ hb).mono ?_;rintro e w1 ⟨rfl,hb1⟩;have hB1:=hb.trans (hb1.mono hb.size);have hz1:w.heap.size<w1.heap.size:=by have:=hb1.size;simp at this;omega
         have HB1:Hid (w1.heap[w.heap.size]?=some (.cells #[.int .i64 7,.int .i64 0,.slice ca ct.length cc,.string nm,.string s] 85 (0,0))):=zQ hb1;obtain ⟨x10,x11,x12,x13,x14⟩:=yH HB1.out;go_wp2_with fail;refine (HM.out _).mono ?_;rintro e w2 ⟨rfl,hb2⟩;have hB2:=hB1.trans (hb2.mono (by omega))
         have hz2:w.heap.size<w2.heap.size:=by have:=hb2.size;omega
         have HB2:Hid (w2.heap[w.heap.size]?=some (.cells #[.int .i64 7,.int .i64 0,.slice ca ct.length cc,.string nm,.string s] 85 (0,0))):=(hb2.block _ (by omega)).trans HB1.out
         clear x10 x11 x12 x13 x14;obtain ⟨x20,x21,x22,x23,x24⟩:=yH HB2.out;go_wp2_with fail;refine (HT.out _).mono ?_;rintro e w3 ⟨rfl,hb3⟩;have hB3:=hB2.trans (hb3.mono (by omega))
         have hz3:w.heap.size<w3.heap.size:=by have:=hb3.size;omega
         have HB3:Hid (w3.heap[w.heap.size]?=some (.cells #[.int .i64 7,.int .i64 0,.slice ca ct.length cc,.string nm,.string s] 85 (0,0))):=(hb3.block _ (by omega)).trans HB2.out
         clear x20 x21 x22 x23 x24;obtain ⟨x30,x31,x32,x33,x34⟩:=yH HB3.out;go_wp2_with fail;refine (HP.out _).mono ?_;rintro e w4 ⟨rfl,rfl⟩;have e0:=d0.out _ hB3;go_wp2_with fail;refine (HP.out _).mono ?_;rintro e w5 ⟨rfl,rfl⟩;go_wp2_with fail;go_ret;exact ⟨by rw[HR3.out];rfl,hB3⟩
       · have HR4 : Hid (R = 4) := by show _ = _;rw[HR3.out];simp[h7]
         have b7:(k==7)=false:=by simpa using h7
         clear HR3 h7
         go_enter Tryz.func53,Tryz.ntmps53
         go_wp2_with fail;refine (HC.out _ hb).mono ?_;rintro e w1 ⟨rfl,hb1⟩;have hB1:=hb.trans (hb1.mono hb.size);have hz1:w.heap.size<w1.heap.size:=by have:=hb1.size;simp at this;omega
         have HB1:Hid (w1.heap[w.heap.size]?=some (.cells #[.int .i64 k,.int .i64 0,.slice ca ct.length cc,.string nm,.string s] 85 (0,0))):=zQ hb1;obtain ⟨x10,x11,x12,x13,x14⟩:=yH HB1.out;go_wp2_with fail;refine (HM.out _).mono ?_;rintro e w2 ⟨rfl,hb2⟩;have hB2:=hB1.trans (hb2.mono (by omega))
         have hz2:w.heap.size<w2.heap.size:=by have:=hb2.size;omega
         have HB2:Hid (w2.heap[w.heap.size]?=some (.cells #[.int .i64 k,.int .i64 0,.slice ca ct.length cc,.string nm,.string s] 85 (0,0))):=(hb2.block _ (by omega)).trans HB1.out
         clear x10 x11 x12 x13 x14;obtain ⟨x20,x21,x22,x23,x24⟩:=yH HB2.out;go_wp2_with fail;refine (HT.out _).mono ?_;rintro e w3 ⟨rfl,hb3⟩;have hB3:=hB2.trans (hb3.mono (by omega))
         have hz3:w.heap.size<w3.heap.size:=by have:=hb3.size;omega
         have HB3:Hid (w3.heap[w.heap.size]?=some (.cells #[.int .i64 k,.int .i64 0,.slice ca ct.length cc,.string nm,.string s] 85 (0,0))):=(hb3.block _ (by omega)).trans HB2.out
         clear x20 x21 x22 x23 x24;obtain ⟨x30,x31,x32,x33,x34⟩:=yH HB3.out;go_wp2_with fail;refine (HP.out _).mono ?_;rintro e w4 ⟨rfl,rfl⟩;have e0:=d0.out _ hB3;go_wp2_with fail;refine (HP.out _).mono ?_;rintro e w5 ⟨rfl,rfl⟩;go_wp2_with fail;go_ret;exact ⟨by rw[HR4.out];rfl,hB3⟩
 · obtain ⟨i, rfl⟩ : ∃ i : Nat, tg = (i : Int) := ⟨tg.toNat, by omega⟩
   have hil:i<ns.length:=by omega
   obtain ⟨x,hxi⟩:∃ x,ns[i]?=some x:=⟨ns[i],by simp[hil]⟩
   have HR3:Hid (R=if x.text&&!(zd k)&&!(decide (k=7)) then 4 else 0):=by
    show _=_
    rw[HR2.out,HX.out i,hxi,decide_eq_false h0];simp
   obtain ⟨b,of,cap,va,vk,hv,_,_,hSb,hbw,c0,c1,c2,c3,c4,hAt,hKi⟩:=HN.out.at hxi
   clear HR2 HX HN c1 c2 c3 c4 hAt hKi hSb hxi
   injection hv with hv1 _ hv2
   subst hv1 hv2;have d0:Hid (∀ W,Below w.heap.size w W→W.cell? ⟨b,of+i*5,none⟩=some (.bool x.text)):=fun W hW=>(World.cell?_of_block (a:=⟨b,of+i*5,none⟩) (hW.block b hbw)).trans c0
   have hi0:((i:Int)==0)=false:=by simpa using h0
   clear c0 h0
   generalize ns.length=L at *
   generalize zd k=pb at *
   generalize x.text=tx at *
   cases tx with
   | false =>
     go_enter Tryz.func53,Tryz.ntmps53
     go_wp2_with fail;refine (HC.out _ hb).mono ?_;rintro e w1 ⟨rfl,hb1⟩;have hB1:=hb.trans (hb1.mono hb.size);have hz1:w.heap.size<w1.heap.size:=by have:=hb1.size;simp at this;omega
     have HB1:Hid (w1.heap[w.heap.size]?=some (.cells #[.int .i64 k,.int .i64 (i:Int),.slice ca ct.length cc,.string nm,.string s] 85 (0,0))):=zQ hb1;obtain ⟨x10,x11,x12,x13,x14⟩:=yH HB1.out;go_wp2_with fail;refine (HM.out _).mono ?_;rintro e w2 ⟨rfl,hb2⟩;have hB2:=hB1.trans (hb2.mono (by omega))
     have hz2:w.heap.size<w2.heap.size:=by have:=hb2.size;omega
     have HB2:Hid (w2.heap[w.heap.size]?=some (.cells #[.int .i64 k,.int .i64 (i:Int),.slice ca ct.length cc,.string nm,.string s] 85 (0,0))):=(hb2.block _ (by omega)).trans HB1.out
     clear x10 x11 x12 x13 x14;obtain ⟨x20,x21,x22,x23,x24⟩:=yH HB2.out;go_wp2_with fail;refine (HT.out _).mono ?_;rintro e w3 ⟨rfl,hb3⟩;have hB3:=hB2.trans (hb3.mono (by omega))
     have hz3:w.heap.size<w3.heap.size:=by have:=hb3.size;omega
     have e0:=d0.out _ hB3;have HB3:Hid (w3.heap[w.heap.size]?=some (.cells #[.int .i64 k,.int .i64 (i:Int),.slice ca ct.length cc,.string nm,.string s] 85 (0,0))):=(hb3.block _ (by omega)).trans HB2.out
     clear x20 x21 x22 x23 x24;obtain ⟨x30,x31,x32,x33,x34⟩:=yH HB3.out;go_wp2_with fail;go_ret;exact ⟨by rw[HR3.out];rfl,hB3⟩
   | true =>
     cases pb with
     | true =>
       go_enter Tryz.func53,Tryz.ntmps53
       go_wp2_with fail;refine (HC.out _ hb).mono ?_;rintro e w1 ⟨rfl,hb1⟩;have hB1:=hb.trans (hb1.mono hb.size);have hz1:w.heap.size<w1.heap.size:=by have:=hb1.size;simp at this;omega
       have HB1:Hid (w1.heap[w.heap.size]?=some (.cells #[.int .i64 k,.int .i64 (i:Int),.slice ca ct.length cc,.string nm,.string s] 85 (0,0))):=zQ hb1;obtain ⟨x10,x11,x12,x13,x14⟩:=yH HB1.out;go_wp2_with fail;refine (HM.out _).mono ?_;rintro e w2 ⟨rfl,hb2⟩;have hB2:=hB1.trans (hb2.mono (by omega))
       have hz2:w.heap.size<w2.heap.size:=by have:=hb2.size;omega
       have HB2:Hid (w2.heap[w.heap.size]?=some (.cells #[.int .i64 k,.int .i64 (i:Int),.slice ca ct.length cc,.string nm,.string s] 85 (0,0))):=(hb2.block _ (by omega)).trans HB1.out
       clear x10 x11 x12 x13 x14;obtain ⟨x20,x21,x22,x23,x24⟩:=yH HB2.out;go_wp2_with fail;refine (HT.out _).mono ?_;rintro e w3 ⟨rfl,hb3⟩;have hB3:=hB2.trans (hb3.mono (by omega))
       have hz3:w.heap.size<w3.heap.size:=by have:=hb3.size;omega
       have e0:=d0.out _ hB3;have HB3:Hid (w3.heap[w.heap.size]?=some (.cells #[.int .i64 k,.int .i64 (i:Int),.slice ca ct.length cc,.string nm,.string s] 85 (0,0))):=(hb3.block _ (by omega)).trans HB2.out
       clear x20 x21 x22 x23 x24;obtain ⟨x30,x31,x32,x33,x34⟩:=yH HB3.out;go_wp2_with fail;refine (HP.out _).mono ?_;rintro e w5 ⟨rfl,rfl⟩;go_wp2_with fail;go_ret;exact ⟨by rw[HR3.out];rfl,hB3⟩
     | false =>
       by_cases h7:k=7
       · subst h7
         go_enter Tryz.func53,Tryz.ntmps53
         go_wp2_with fail;refine (HC.out _ hb).mono ?_;rintro e w1 ⟨rfl,hb1⟩;have hB1:=hb.trans (hb1.mono hb.size);have hz1:w.heap.size<w1.heap.size:=by have:=hb1.size;simp at this;omega
         have HB1:Hid (w1.heap[w.heap.size]?=some (.cells #[.int .i64 7,.int .i64 (i:Int),.slice ca ct.length cc,.string nm,.string s] 85 (0,0))):=zQ hb1;obtain ⟨x10,x11,x12,x13,x14⟩:=yH HB1.out;go_wp2_with fail;refine (HM.out _).mono ?_;rintro e w2 ⟨rfl,hb2⟩;have hB2:=hB1.trans (hb2.mono (by omega))
         have hz2:w.heap.size<w2.heap.size:=by have:=hb2.size;omega
         have HB2:Hid (w2.heap[w.heap.size]?=some (.cells #[.int .i64 7,.int .i64 (i:Int),.slice ca ct.length cc,.string nm,.string s] 85 (0,0))):=(hb2.block _ (by omega)).trans HB1.out
         clear x10 x11 x12 x13 x14;obtain ⟨x20,x21,x22,x23,x24⟩:=yH HB2.out;go_wp2_with fail;refine (HT.out _).mono ?_;rintro e w3 ⟨rfl,hb3⟩;have hB3:=hB2.trans (hb3.mono (by omega))
         have hz3:w.heap.size<w3.heap.size:=by have:=hb3.size;omega
         have e0:=d0.out _ hB3;have HB3:Hid (w3.heap[w.heap.size]?=some (.cells #[.int .i64 7,.int .i64 (i:Int),.slice ca ct.length cc,.string nm,.string s] 85 (0,0))):=(hb3.block _ (by omega)).trans HB2.out
         clear x20 x21 x22 x23 x24;obtain ⟨x30,x31,x32,x33,x34⟩:=yH HB3.out;go_wp2_with fail;refine (HP.out _).mono ?_;rintro e w5 ⟨rfl,rfl⟩;go_wp2_with fail;go_ret;exact ⟨by rw[HR3.out];rfl,hB3⟩
       · have HR4 : Hid (R = 4) := by show _ = _;rw[HR3.out];simp[h7]
         have b7:(k==7)=false:=by simpa using h7
         clear HR3 h7
         go_enter Tryz.func53,Tryz.ntmps53
         go_wp2_with fail;refine (HC.out _ hb).mono ?_;rintro e w1 ⟨rfl,hb1⟩;have hB1:=hb.trans (hb1.mono hb.size);have hz1:w.heap.size<w1.heap.size:=by have:=hb1.size;simp at this;omega
         have HB1:Hid (w1.heap[w.heap.size]?=some (.cells #[.int .i64 k,.int .i64 (i:Int),.slice ca ct.length cc,.string nm,.string s] 85 (0,0))):=zQ hb1;obtain ⟨x10,x11,x12,x13,x14⟩:=yH HB1.out;go_wp2_with fail;refine (HM.out _).mono ?_;rintro e w2 ⟨rfl,hb2⟩;have hB2:=hB1.trans (hb2.mono (by omega))
         have hz2:w.heap.size<w2.heap.size:=by have:=hb2.size;omega
         have HB2:Hid (w2.heap[w.heap.size]?=some (.cells #[.int .i64 k,.int .i64 (i:Int),.slice ca ct.length cc,.string nm,.string s] 85 (0,0))):=(hb2.block _ (by omega)).trans HB1.out
         clear x10 x11 x12 x13 x14;obtain ⟨x20,x21,x22,x23,x24⟩:=yH HB2.out;go_wp2_with fail;refine (HT.out _).mono ?_;rintro e w3 ⟨rfl,hb3⟩;have hB3:=hB2.trans (hb3.mono (by omega))
         have hz3:w.heap.size<w3.heap.size:=by have:=hb3.size;omega
         have e0:=d0.out _ hB3;have HB3:Hid (w3.heap[w.heap.size]?=some (.cells #[.int .i64 k,.int .i64 (i:Int),.slice ca ct.length cc,.string nm,.string s] 85 (0,0))):=(hb3.block _ (by omega)).trans HB2.out
         clear x20 x21 x22 x23 x24;obtain ⟨x30,x31,x32,x33,x34⟩:=yH HB3.out;go_wp2_with fail;refine (HP.out _).mono ?_;rintro e w5 ⟨rfl,rfl⟩;go_wp2_with fail;go_ret;exact ⟨by rw[HR4.out];rfl,hB3⟩
end
section
attribute [local go_sem] qd
set_option maxHeartbeats 4000000 in
theorem Xr (a b:Opn)(va vb:Value)(w:World) :
 Calls Tryz.prog 56 #[.agg #[.int .i64 a.kind,.int .i64 a.target,va,.string a.name,.string a.s],.agg #[.int .i64 b.kind,.int .i64 b.target,vb,.string b.name,.string b.s]] w fun e w'=>e=.returned (.bool (agB a b))∧Below w.heap.size w w':=by
 have HA:Hid (agB a b=(decide (a.target=b.target)&&((decide (a.kind=6)&&decide (b.kind=6))||(decide (a.kind=7)&&decide (b.kind=7))||(decide (a.kind=8)&&decide (b.kind=8)) ||
  ((decide (a.kind=9)||decide (a.kind=10))&&(decide (b.kind=9)||decide (b.kind=10))&&decide (a.name=b.name))))):=rfl
 have hb:=(Below.alloc1 w (.cells #[.int .i64 a.kind,.int .i64 a.target,va,.string a.name,.string a.s] 85)).alloc (by simp) (.cells #[.int .i64 b.kind,.int .i64 b.target,vb,.string b.name,.string b.s] 85)
 generalize agB a b=R at *
 obtain ⟨k,tg,ct,nm,s⟩:=a;obtain ⟨k',tg',ct',nm',s'⟩:=b;dsimp only at *
 by_cases ht:tg=tg'
 · subst ht
   by_cases h6:k=6
   · subst h6
     by_cases g:k'=6
     · subst g;have HR:Hid (R=true):=by show _=_;rw[HA.out];simp
       clear HA
       go_enter Tryz.func56,Tryz.ntmps56
       go_wp2_with fail;go_ret;exact ⟨by rw[HR.out];rfl,hb⟩
     · have HR : Hid (R = false) := by show _ = _;rw[HA.out];simp[g]
       have b1:(k'==6)=false:=by simpa using g
       have b2:((6:Int)==k')=false:=by simpa using fun e=>g e.symm
       clear HA g
       go_enter Tryz.func56,Tryz.ntmps56
       go_wp2_with fail;go_ret;exact ⟨by rw[HR.out];rfl,hb⟩
   by_cases h7:k=7
   · subst h7
     by_cases g:k'=7
     · subst g;have HR:Hid (R=true):=by show _=_;rw[HA.out];simp
       clear HA
       go_enter Tryz.func56,Tryz.ntmps56
       go_wp2_with fail;go_ret;exact ⟨by rw[HR.out];rfl,hb⟩
     · have HR : Hid (R = false) := by show _ = _;rw[HA.out];simp[g]
       have b1:(k'==7)=false:=by simpa using g
       have b2:((7:Int)==k')=false:=by simpa using fun e=>g e.symm
       clear HA g
       go_enter Tryz.func56,Tryz.ntmps56
       go_wp2_with fail;go_ret;exact ⟨by rw[HR.out];rfl,hb⟩
   by_cases h8:k=8
   · subst h8
     by_cases g:k'=8
     · subst g;have HR:Hid (R=true):=by show _=_;rw[HA.out];simp
       clear HA
       go_enter Tryz.func56,Tryz.ntmps56
       go_wp2_with fail;go_ret;exact ⟨by rw[HR.out];rfl,hb⟩
     · have HR : Hid (R = false) := by show _ = _;rw[HA.out];simp[g]
       have b1:(k'==8)=false:=by simpa using g
       have b2:((8:Int)==k')=false:=by simpa using fun e=>g e.symm
       clear HA g
       go_enter Tryz.func56,Tryz.ntmps56
       go_wp2_with fail;go_ret;exact ⟨by rw[HR.out];rfl,hb⟩
   by_cases h9:k=9
   · subst h9
     by_cases g9:k'=9
     · subst g9;have HR:Hid (R=decide (nm=nm')):=by show _=_;rw[HA.out];simp
       clear HA
       go_enter Tryz.func56,Tryz.ntmps56
       go_wp2_with fail;go_ret;exact ⟨by rw[HR.out,j5];rfl,hb⟩
     by_cases g10:k'=10
     · subst g10;have HR:Hid (R=decide (nm=nm')):=by show _=_;rw[HA.out];simp
       clear HA
       go_enter Tryz.func56,Tryz.ntmps56
       go_wp2_with fail;go_ret;exact ⟨by rw[HR.out,j5];rfl,hb⟩
     have HR:Hid (R=false):=by show _=_;rw[HA.out];simp[g9,g10]
     have b1:(k'==9)=false:=by simpa using g9
     have b2:(k'==10)=false:=by simpa using g10
     clear HA g9 g10
     go_enter Tryz.func56,Tryz.ntmps56
     go_wp2_with fail;go_ret;exact ⟨by rw[HR.out];rfl,hb⟩
   by_cases h10:k=10
   · subst h10
     by_cases g9:k'=9
     · subst g9;have HR:Hid (R=decide (nm=nm')):=by show _=_;rw[HA.out];simp
       clear HA
       go_enter Tryz.func56,Tryz.ntmps56
       go_wp2_with fail;go_ret;exact ⟨by rw[HR.out,j5];rfl,hb⟩
     by_cases g10:k'=10
     · subst g10;have HR:Hid (R=decide (nm=nm')):=by show _=_;rw[HA.out];simp
       clear HA
       go_enter Tryz.func56,Tryz.ntmps56
       go_wp2_with fail;go_ret;exact ⟨by rw[HR.out,j5];rfl,hb⟩
     have HR:Hid (R=false):=by show _=_;rw[HA.out];simp[g9,g10]
     have b1:(k'==9)=false:=by simpa using g9
     have b2:(k'==10)=false:=by simpa using g10
     clear HA g9 g10
     go_enter Tryz.func56,Tryz.ntmps56
     go_wp2_with fail;go_ret;exact ⟨by rw[HR.out];rfl,hb⟩
   have HR:Hid (R=false):=by show _=_;rw[HA.out];simp[h6,h7,h8,h9,h10]
   have b6:(k==6)=false:=by simpa using h6
   have b7:(k==7)=false:=by simpa using h7
   have b8:(k==8)=false:=by simpa using h8
   have b9:(k==9)=false:=by simpa using h9
   have b10:(k==10)=false:=by simpa using h10
   clear HA h6 h7 h8 h9 h10
   go_enter Tryz.func56,Tryz.ntmps56
   go_wp2_with fail;go_ret;exact ⟨by rw[HR.out];rfl,hb⟩
 · have HR : Hid (R = false) := by show _ = _;rw[HA.out, decide_eq_false ht];rfl
   have b1:(tg==tg')=false:=by simpa using ht
   clear HA ht
   go_enter Tryz.func56,Tryz.ntmps56
   go_wp2_with fail;go_ret;exact ⟨by rw[HR.out];rfl,hb⟩
end
section
attribute [local go_sem] qd
theorem qao {ns:List Nd}{l:List Int}{k m:Nat}{x:Nd}(hk:l[k]?=some (m:Int))(hx:ns[m]?=some x)(name:ByteArray) :
 ZJ ns (l.take (k+1)) name=ZJ ns (l.take k) name++(if QP x name then [(m:Int)] else []):=by
 have hl:=qe hk;have e:l[k]=(m:Int):=by simpa[hl] using hk
 unfold ZJ;rw[List.take_succ_eq_append_getElem hl,List.filter_append,e,List.filter_cons,qan hx];rfl
theorem XQ (ns:List Nd)(l:List Int)(name:ByteArray):(ZJ ns l name).length≤l.length:=List.length_filter_le _ _
set_option maxHeartbeats 1000000 in
theorem Yt (S:Nat→Prop)(vn vs:Value)(ns:List Nd)(l:List Int)(s:St)(w:World)(hN:qv S w vn ns)(hI:qW S w vs l)(hin:∀ u∈l,0≤u∧u<ns.length)(hs0:0≤s.n)(hl:l.length≤1048576) :
 Calls Tryz.prog 52 #[vn,vs,.agg #[.string s.name,.int .i64 s.n]] w fun e w'=>∃ v,e=.returned v∧qW (fun b=>w.heap.size≤b) w' v (zN ns l s)∧Below w.heap.size w w':=by
 have hb1:=Below.alloc1 w (.cells #[.string s.name,.int .i64 s.n] 121);have hx1:=heap_alloc_new w (.cells #[.string s.name,.int .i64 s.n] 121);have hz1:(w.alloc (.cells #[.string s.name,.int .i64 s.n] 121)).heap.size=w.heap.size+1:=by simp
 obtain ⟨na,nc,rfl,hnl,hnm⟩:=hN.shape;obtain ⟨sa,sc,rfl,hsl,hsm⟩:=hI.shape;unfold maxLen at hnm hsm
 obtain ⟨i0,hi,hz0,hzz1,hz2⟩:=info_parts intInfoR;have HN:Hid (qv S w (.slice na ns.length nc) ns):=hN;have HI:Hid (qW S w (.slice sa l.length sc) l):=hI;have HIN:Hid (∀ u∈l,0≤u∧u<ns.length):=hin;have HM:Hid (zN ns l s=if s.n=0 then ZJ ns l s.name else ((ZJ ns l s.name).drop (s.n.toNat-1)).take 1):=rfl
 have HLN:Hid (ns.length=ns.length):=rfl;clear hN hI hin
 go_enter Tryz.func52,Tryz.ntmps52
 go_wp2_with fail
 generalize w.alloc (.cells #[.string s.name,.int .i64 s.n] 121)=W1 at *
 have HZ1:Hid (W1.heap.size=w.heap.size+1):=hz1;have hle1:w.heap.size≤W1.heap.size:=by omega
 clear hz1
 go_loopg [12,7] l.length (fun g i o wr=>∃ (k:Nat),k+g=l.length∧i=.int .i64 (k:Int)∧qE W1.heap.size wr o (ZJ ns (l.take k) s.name)∧Below W1.heap.size W1 wr)
 case atStart => exact ⟨0,by omega,rfl,qE.nil _ _,Below.refl _ _⟩
 case round =>
  obtain ⟨k,hk,rfl,hR,hB⟩:=hrel;have hsz:=hB.size;have hBw:Below w.heap.size w wr:=hb1.trans (hB.mono hle1);have hxr:=(hB.block _ (qh hx1)).trans hx1
  by_cases hil:k<l.length
  · obtain ⟨u, hu⟩ : ∃ u, l[k]? = some u := ⟨l[k], by simp[hil]⟩
    have hur:=HIN.out u (List.mem_of_getElem? hu);obtain ⟨m,rfl⟩:∃ m:Nat,u=(m:Int):=⟨u.toNat,by omega⟩
    obtain ⟨x,hx⟩:∃ x,ns[m]?=some x:=⟨ns[m]'(by omega),by simp⟩
    obtain ⟨ib,io,ic,hiv,_,hib,e1⟩:=(HI.out.later hBw).at hu
    injection hiv with hia _ hic
    subst hia hic;obtain ⟨b,o,cap,va,vk,hv,_,_,hSb,hbw,c0,c1,c2,c3,c4,hAt,hKi⟩:=(HN.out.later hBw).at hx
    injection hv with hv1 _ hv2
    subst hv1 hv2;obtain ⟨aa,ac,rfl⟩:=hAt.shape;obtain ⟨ka,kc,rfl,_,_⟩:=hKi.shape;have HSN:Hid _:=qao hu hx s.name;have HF:Hid (∀ W,Calls Tryz.prog 97 #[.agg #[.bool x.text,.string x.s,.slice aa x.attrs.length ac,.int .i64 x.parent,.slice ka x.kids.length kc],.string s.name] W fun e w'=>e=.returned (.bool (QP x s.name))∧Below W.heap.size W w'):=fun W=>qbC x _ _ _ _ _ _ s.name W
    have hili:(k:Int)<(l.length:Int):=by omega
    have hmi:(m:Int)<(ns.length:Int):=by omega
    have d0:wr.cell? ⟨w.heap.size,0,none⟩=some (.string s.name):=by rw[cH9 hxr];rfl
    have hlen:=XQ ns (l.take k) s.name;rw[List.length_take]at hlen
    have hlen2:(ZJ ns (l.take k) s.name).length≤1048576:=by omega
    obtain ⟨us,hus⟩:∃ us,ZJ ns (l.take k) s.name=us:=⟨_,rfl⟩;rw[hus]at hR HSN hlen2
    obtain ⟨ra,rc,rfl,_,_⟩:=hR.shape;have HR:Hid (qE W1.heap.size wr (.slice ra us.length rc) us):=hR
    have HC:Hid (∀ W,Below wr.heap.size wr W→Below wr.heap.size wr W∧W.cell? ⟨b,o+m*5,none⟩=some (.bool x.text)∧W.cell? ⟨b,o+m*5+1,none⟩=some (.string x.s)∧W.cell? ⟨b,o+m*5+2,none⟩=some (.slice aa x.attrs.length ac)∧W.cell? ⟨b,o+m*5+3,none⟩=some (.int .i64 x.parent)∧W.cell? ⟨b,o+m*5+4,none⟩=some (.slice ka x.kids.length kc)∧W.cell? ⟨w.heap.size,0,none⟩=some (.string s.name)):=by
     intro W h;refine ⟨h,?_,?_,?_,?_,?_,?_⟩
     · rw[h.cell (p:=⟨b,o+m*5,none⟩) hbw];exact c0
     · rw[h.cell (p:=⟨b,o+m*5+1,none⟩) hbw];exact c1
     · rw[h.cell (p:=⟨b,o+m*5+2,none⟩) hbw];exact c2
     · rw[h.cell (p:=⟨b,o+m*5+3,none⟩) hbw];exact c3
     · rw[h.cell (p:=⟨b,o+m*5+4,none⟩) hbw];exact c4
     · rw[h.cell (p:=⟨w.heap.size,0,none⟩) (qh hxr)];exact d0
    have hbn:Below wr.heap.size wr wr.drew:=(Below.refl _ _).drew;clear hu hx hAt hKi hus hR hlen hxr hur;cases hq:QP x s.name with
    | true =>
      rw[hq]at HF HSN
      clear hq;go_wp2_with fail
      go_region_held3 (fun W:World=>Below wr.heap.size wr W∧W.cell? ⟨b,o+m*5,none⟩=some (.bool x.text)∧W.cell? ⟨b,o+m*5+1,none⟩=some (.string x.s)∧W.cell? ⟨b,o+m*5+2,none⟩=some (.slice aa x.attrs.length ac)∧W.cell? ⟨b,o+m*5+3,none⟩=some (.int .i64 x.parent)∧W.cell? ⟨b,o+m*5+4,none⟩=some (.slice ka x.kids.length kc)∧W.cell? ⟨w.heap.size,0,none⟩=some (.string s.name))
       (with_reducible exact HC.out _ hbn)
       (first|(go_at_call 97;refine (Calls.mono (HF.out _) ?_);rintro e w3 ⟨rfl,hb3⟩;have hbn:=hbn.trans (hb3.mono hbn.size)))
      have hR3:qE W1.heap.size w3 (.slice ra us.length rc) us:=HR.out.later hbn;have hs3:=hbn.size;have hB3:Below W1.heap.size W1 w3:=hB.trans (hbn.mono hsz);have hown3:w3.ownsRow W1.heap.size 3 1 (.slice ra us.length rc) us.length (qo us):=hR3;clear c0 c1 c2 c3 c4;go_wp2_with (at_builtin;refine wpList_append_own_at _ rfl _ _ 53 rfl W1.heap.size 3 i0 _ 1 8 Tryz.underlying53 hi hz0 hzz1 hz2 rfl (by decide) _ _ _ rfl (hown3.alloc _) ⟨w3.heap.size,0,none⟩ 1 1 [.int .i64 (m:Int)] rfl ?qc1 ?qc2 ?qc3 ?qc4 ?qc5 ?qc6 ?_)
      case qc1 => rfl
      case qc2 => exact ZQ _ _ _
      case qc3 => intro z hz;simp at hz;subst hz;rfl
      case qc4 => unfold maxLen;omega
      case qc5 => omega
      case qc6 => simp;omega
      intro v' w4 hown4 hgr4 _ _;obtain ⟨ja,jl,jc,rfl⟩:=qJ hown4
      have hR4:qE W1.heap.size w4 (.slice ja jl jc) (us++[(m:Int)]):=by
       unfold qE;rw[q7,List.length_append];exact hown4
      have hB4:Below W1.heap.size W1 w4:=(hB3.alloc (by omega) _).grown hgr4 (by simp;omega) (fun z hz=>(hR3.lt z hz).1)
      clear hown4 hown3 hR3;go_wp2_with fail
      go_roundg (l.length-(k+1))
      case measure => omega
      case rel => exact ⟨k+1,by omega,by go_num,by rw[HSN.out];exact hR4,hB4⟩
    | false =>
      rw[hq]at HF HSN
      clear hq;go_wp2_with fail
      go_region_held3 (fun W:World=>Below wr.heap.size wr W∧W.cell? ⟨b,o+m*5,none⟩=some (.bool x.text)∧W.cell? ⟨b,o+m*5+1,none⟩=some (.string x.s)∧W.cell? ⟨b,o+m*5+2,none⟩=some (.slice aa x.attrs.length ac)∧W.cell? ⟨b,o+m*5+3,none⟩=some (.int .i64 x.parent)∧W.cell? ⟨b,o+m*5+4,none⟩=some (.slice ka x.kids.length kc)∧W.cell? ⟨w.heap.size,0,none⟩=some (.string s.name))
       (with_reducible exact HC.out _ hbn)
       (first|(go_at_call 97;refine (Calls.mono (HF.out _) ?_);rintro e w3 ⟨rfl,hb3⟩;have hbn:=hbn.trans (hb3.mono hbn.size)))
      have hR3:qE W1.heap.size w3 (.slice ra us.length rc) us:=HR.out.later hbn;have hB3:Below W1.heap.size W1 w3:=hB.trans (hbn.mono hsz);clear c0 c1 c2 c3 c4;go_wp2_with fail
      go_roundg (l.length-(k+1))
      case measure => omega
      case rel => exact ⟨k+1,by omega,by go_num,by rw[HSN.out];simpa using hR3,hB3⟩
  · have hkk : k = l.length := by omega
    subst hkk;rw[List.take_length]at hR
    have hili:¬ ((l.length:Int)<(l.length:Int)):=by omega
    have d1:wr.cell? ⟨w.heap.size,1,none⟩=some (.int .i64 s.n):=by rw[cH9 hxr];rfl
    have hlen:=XQ ns l s.name;obtain ⟨us,hus⟩:∃ us,ZJ ns l s.name=us:=⟨_,rfl⟩;rw[hus]at hR HM hlen
    obtain ⟨ra,rc,rfl,hrc,hrm⟩:=hR.shape;have HRI:Hid (qW (fun b=>W1.heap.size≤b) wr (.slice ra us.length rc) us):=hR.ints
    clear hus hR
    by_cases hn0:s.n=0
    · have HE : Hid (zN ns l s = us) := by show _ = _;rw[HM.out, if_pos hn0]
      have hne:(s.n==0)=true:=by simp[hn0]
      clear HM hn0;go_wp2_with fail;go_ret;exact ⟨_,rfl,by rw[HE.out];exact HRI.out.carry fun b hb=>⟨by omega,rfl⟩,hBw⟩
    · have hne : (s.n == 0) = false := by simp[hn0]
      obtain ⟨m,hm⟩:∃ m:Nat,s.n=((m+1:Nat):Int):=⟨s.n.toNat-1,by omega⟩
      have HE:Hid (zN ns l s=(us.drop m).take 1):=by show _=_;rw[HM.out,if_neg hn0,hm];simp
      rw[hm]at d1 hne
      clear HM hn0 hm
      by_cases hgt:us.length<m+1
      · have hgi : (us.length : Int) < ((m + 1 : Nat) : Int) := by omega
        have HE2:Hid (zN ns l s=[]):=by show _=_;rw[HE.out,List.drop_of_length_le (by omega)];rfl
        clear HE;go_wp2_with fail;go_ret;exact ⟨_,rfl,by rw[HE2.out];exact qW.nil,hBw⟩
      · have hgi : ¬ (us.length : Int) < ((m + 1 : Nat) : Int) := by omega
        obtain ⟨y,hy⟩:∃ y,us[m]?=some y:=⟨us[m]'(by omega),by simp⟩
        have HE2:Hid (zN ns l s=[y]):=by
         show _=_
         rw[HE.out,List.drop_eq_getElem_cons (by omega)]
         have:us[m]'(by omega)=y:=by
          have:=hy;rw[List.getElem?_eq_getElem (by omega)]at this
          exact Option.some.inj this
         rw[this];rfl
        obtain ⟨rb,ro,rc2,hrv,hrS,hrb,e1⟩:=HRI.out.at hy
        injection hrv with hra _ hrc2
        subst hra hrc2;have HY:Hid (wr.cell? ⟨rb,ro+m,none⟩=some (.int .i64 y)):=e1;clear HE hy e1;unfold maxLen at hrm
        have hmc:m+1≤rc:=by omega
        go_wp2_with fail;go_ret;refine ⟨_,rfl,?_,hBw⟩;rw[HE2.out];refine ⟨some ⟨rb,ro+m,none⟩,rc-m,rfl,by simp;omega,by unfold maxLen;omega,fun _=>⟨rb,ro+m,rfl,by omega,fun i x hx=>?_⟩⟩
        match i,hx with
        | 0,hx=>simp at hx;subst hx;exact HY.out
end
section
attribute [local go_sem] qd
theorem Zu {P:Program}{w:World}(base:Nat)(t ty e:TypeId)(i:TypeInfo)(size c:Nat)(ht:P.underlying t=some (.slice e))(hi:P.info? e=some i)
 (v:Value) (n:Nat) (xs:List Value) (hown:w.ownsRow base e size v n xs) :
 (Builtin.append_ #[t,t] ty #[v,.slice none 0 c]).run P w=.ok v w:=by
 rcases hown.2 with ⟨rfl,rfl⟩|⟨g,cap,cur,rfl,_,_,hnc,_⟩
 · simp[Builtin.append_,run_underlying ht,sizeOf,typeInfo,hi,Builtin.lenOf,Builtin.firstCells]
 · simp[Builtin.append_,run_underlying ht,sizeOf,typeInfo,hi,Builtin.lenOf,Builtin.firstCells,hnc,storeCells]
theorem qaV {ops:Array Oper}{o:Oper}{a:Act}{w:World}{K:Act→World→Prop}{Q:Exit→Act→World→Prop}{E:Prop}
 (hg:o.guard=none) (s x:Operand) (hop:o.op=Op.call { callee:=Callee.builtin Builtin.append,args:=#[s,x],argTypes:=#[53,53] })
 (B:Nat) (v:Value) (l:List Int) (hs:a.eval s=v) (hown:qE B w v l) (S:Nat→Prop) (u:Value) (m:List Int) (hx:a.eval x=u) (hm:qW S w u m) (hn:l.length+m.length≤1048576) (hB:B≤w.heap.size)
 (hK:∀ v' w',qE B w' v' (l++m)→w.grownBy w' v.ownBlock→K (a.put o.dst v') w') :
 if Region.wanted o (yielded ops a.tmps)=true then Oper.wp Tryz.prog o a w K Q else E:=by
 have hw:Region.wanted o (yielded ops a.tmps)=true:=by simp[Region.wanted,hg]
 rw[if_pos hw];obtain ⟨i0,hi,hz0,hz1,hz2⟩:=info_parts intInfoR;obtain ⟨ua,uc,rfl,_,_⟩:=hm.shape;cases ua with
 | none =>
   have hm0:m=[]:=by
    obtain ⟨a',cap,h1,_,_,h4⟩:=hm
    apply Classical.byContradiction
    intro hne;obtain ⟨b,o,ha,_⟩:=h4 hne;rw[ha]at h1
    cases h1
   subst hm0;have hr:=Zu (P:=Tryz.prog) (w:=w) B 53 o.type 3 i0 1 uc Tryz.underlying53 hi v l.length (qo l) hown;unfold Oper.wp;simp[execOp,hop,resolve,invoke,builtin,hs,hx,hr,Result.andThen];exact hK v w (by rw[List.append_nil];exact hown) (World.grownBy.refl _ _)
 | some ad =>
   obtain ⟨v',w',hr,h2,h3,_,h5⟩:=run_append_own_at (P:=Tryz.prog) w B 53 o.type 3 i0 _ 1 8 Tryz.underlying53 hi hz0 hz1 hz2 rfl (by decide) v l.length (qo l) hown ad m.length uc (qo m) (by rw[zm];omega) hm.cells (zp m) (by unfold maxLen;omega) (by omega) hB
   unfold Oper.wp;simp[execOp,hop,resolve,invoke,builtin,hs,hx,hr,Result.andThen];refine hK v' w' ?_ h3;unfold qE;rw[q7,List.length_append];exact h2
theorem K9 {ns:List Nd}{here:List Int}{k:Nat}{u:Int}(hk:here[k]?=some u)(s:St):Q3 ns (here.take (k+1)) s=Q3 ns (here.take k) s++zN ns (Yq ns u) s:=by
 have hl:=qe hk;have e:here[k]=u:=by simpa[hl] using hk
 unfold Q3;rw[List.take_succ_eq_append_getElem hl,List.flatMap_append,e];simp
theorem ZP {ns:List Nd}(hg:qt ns=true){d:Nat}{l:List Int}(h:Lev ns d l):l.length≤ns.length:=by
 have hr:=h.rises hg
 have hm:∀ u∈l,0≤u∧u<ns.length:=fun u hu=>by
  obtain ⟨k,x,rfl,hx,_⟩:=h.mem u hu;have:=qe hx;omega
 clear h
 have key:∀ (l:List Int) (a:Int),l.Pairwise (fun u v=>u<v)→(∀ u∈l,a≤u∧u<ns.length)→a≤ns.length→(l.length:Int)≤ns.length-a:=by
  intro l
  induction l with
  | nil=>intro a _ _ h;simp;omega
  | cons x l ih =>
    intro a hp hm ha;rw[List.pairwise_cons]at hp
    have hx:=hm x List.mem_cons_self;have:=ih (x+1) hp.2 (fun u hu=>⟨by have:=hp.1 u hu;omega,(hm u (List.mem_cons_of_mem _ hu)).2⟩) (by omega)
    simp;omega
 have:=key l 0 hr hm (by omega)
 omega
theorem VP {ns:List Nd}(hg:qt ns=true){m:Nat}{x:Nd}(hx:ns[m]?=some x):∀ u∈x.kids,0≤u∧u<ns.length:=by
 intro u hu;obtain ⟨k,_,rfl,_,h,_⟩:=(qZ hg hx).kids u hu;omega
set_option maxHeartbeats 2000000 in
theorem Vp (S:Nat→Prop)(vd vl:Value)(ns:List Nd)(l:List St)(w:World)(hD:ZI S w vd ns)(hL:zH S w vl l)(hn:Qb l) :
 Calls Tryz.prog 30 #[.agg #[vd],vl] w fun e w'=>∃ v,e=.returned (.tuple #[v,.int .i64 (Zd ns l)])∧qW (fun b=>w.heap.size≤b) w' v (xZ ns l)∧Below w.heap.size w w':=by
 have hb1:=Below.alloc1 w (.cells #[vd] 39);have hx1:=heap_alloc_new w (.cells #[vd] 39);have hz1:(w.alloc (.cells #[vd] 39)).heap.size=w.heap.size+1:=by simp
 have HG:Hid _:=(hD.later hb1).good;have HD:Hid (ZI S w vd ns):=hD;have HL:Hid (zH S w vl l):=hL;have HPG:Hid (∀ W,Below w.heap.size w W→Calls Tryz.prog 51 #[vl] W fun e w'=>e=.returned (.bool (yS l))∧Below W.heap.size W w'):=fun W h=>Jt S vl l W (hL.later h) hn
 have HSD:Hid (xZ ns l=if qt ns&&yS l then Ko ns l else []):=rfl
 have HSE:Hid (Zd ns l=if qt ns&&yS l then 0 else 1):=rfl
 obtain ⟨na,nc,rfl,hnl,hnm⟩:=hD.nodes.shape;obtain ⟨la,lc,rfl,hll,hlm⟩:=hL.shape;unfold maxLen at hnm hlm
 clear hD hL hn
 go_enter Tryz.func30,Tryz.ntmps30
 go_wp2_with fail;refine (Calls.mono HG.out ?_);rintro e w2 ⟨rfl,hb2⟩;have hx2:=(hb2.block _ (qh hx1)).trans hx1;have hB2:Below w.heap.size w w2:=hb1.trans (hb2.mono hb1.size);have hz2:w.heap.size<w2.heap.size:=qh hx2;have d2:w2.cell? ⟨w.heap.size,0,none⟩=some (.slice na ns.length nc):=by rw[cH9 hx2];rfl
 clear HG hb1 hx1 hz1 hb2;obtain ⟨q,hq⟩:∃ q,qt ns=q:=⟨_,rfl⟩;rw[hq];cases q with
 | false =>
   have HSD2:Hid (xZ ns l=[]):=by show _=_;rw[HSD.out,hq];rfl
   have HSE2:Hid (Zd ns l=1):=by show _=_;rw[HSE.out,hq];rfl
   clear HSD HSE hq;go_wp2_with fail
   go_ret2
   exact ⟨_,by rw[HSE2.out];rfl,by rw[HSD2.out];exact qW.nil,hB2⟩
 | true =>
   have HGD:Hid (qt ns=true):=hq;have HSD2:Hid (xZ ns l=if yS l then Ko ns l else []):=by show _=_;rw[HSD.out,hq];rfl
   have HSE2:Hid (Zd ns l=if yS l then 0 else 1):=by show _=_;rw[HSE.out,hq];rfl
   have h80:ns.length≤80:=by
    simp only[qt,Bool.and_eq_true,decide_eq_true_eq]at hq
    exact hq.1.1
   clear HSD HSE hq;go_wp2_with fail;refine (Calls.mono (HPG.out _ hB2) ?_);rintro e w3 ⟨rfl,hb3⟩;have hx3:=(hb3.block _ (qh hx2)).trans hx2;have hB3:Below w.heap.size w w3:=hB2.trans (hb3.mono hB2.size);have hz3:w.heap.size<w3.heap.size:=qh hx3;have d3:w3.cell? ⟨w.heap.size,0,none⟩=some (.slice na ns.length nc):=by rw[cH9 hx3];rfl
   clear hx2 hB2 hz2 d2 hb3;obtain ⟨q2,hq2⟩:∃ q,yS l=q:=⟨_,rfl⟩;rw[hq2];cases q2 with
   | false =>
     have HSD3:Hid (xZ ns l=[]):=by show _=_;rw[HSD2.out,hq2];rfl
     have HSE3:Hid (Zd ns l=1):=by show _=_;rw[HSE2.out,hq2];rfl
     clear HSD2 HSE2 hq2;go_wp2_with fail
     go_ret2
     exact ⟨_,by rw[HSE3.out];rfl,by rw[HSD3.out];exact qW.nil,hB3⟩
   | true =>
     have HSD3:Hid (xZ ns l=Ko ns l):=by show _=_;rw[HSD2.out,hq2];rfl
     have HSE3:Hid (Zd ns l=0):=by show _=_;rw[HSE2.out,hq2];rfl
     have hpl:=hq2;simp only[yS,Bool.and_eq_true,decide_eq_true_eq]at hpl
     have HST:Hid (∀ s∈l,0≤s.n):=by
      intro s hs;have:=List.all_eq_true.1 hpl.2 s hs;simp only[zT,Bool.and_eq_true,decide_eq_true_eq]at this
      exact this.1.1
     have hl1:1≤l.length:=hpl.1.1;have hl5:l.length≤5:=hpl.1.2;clear HSD2 HSE2 hq2 hpl;obtain ⟨s0,hs0⟩:∃ s,l[0]?=some s:=⟨l[0]'(by omega),by simp⟩
     obtain ⟨lb,lo,lc2,hlv,_,hlb,e0,e1⟩:=(HL.out.later hB3).at hs0
     injection hlv with hla _ hlc2
     subst hla hlc2
     have HL0:Hid (∃ r,l=s0::r):=by
      cases l with
      | nil=>simp at hs0
      | cons a r=>simp at hs0;subst hs0;exact ⟨r,rfl⟩
     have hbn:Below w3.heap.size w3 w3.drew:=(Below.refl _ _).drew
     have HC:Hid (∀ W,Below w3.heap.size w3 W→Below w3.heap.size w3 W∧W.cell? ⟨w.heap.size,0,none⟩=some (.slice na ns.length nc)∧W.cell? ⟨lb,lo,none⟩=some (.string s0.name)∧W.cell? ⟨lb,lo+1,none⟩=some (.int .i64 s0.n)):=by
      intro W h;refine ⟨h,?_,?_,?_⟩
      · rw[h.cell (p:=⟨w.heap.size,0,none⟩) hz3];exact d3
      · rw[h.cell (p:=⟨lb,lo,none⟩) hlb];simpa using e0
      · rw[h.cell (p:=⟨lb,lo+1,none⟩) hlb];simpa using e1
     have hba:Below w3.heap.size w3 (w3.alloc (.cells #[.int .i64 0] 3)).drew:=((Below.refl _ w3).alloc (nR9 _) _).drew
     have HM:Hid (Calls Tryz.prog 52 #[.slice na ns.length nc,.slice (some ⟨w3.heap.size,0,none⟩) 1 1,.agg #[.string s0.name,.int .i64 s0.n]] (w3.alloc (.cells #[.int .i64 0] 3)).drew fun e w'=>∃ v,e=.returned v∧qW (fun b=>w.heap.size<b) w' v (zN ns [0] s0)∧Below w3.heap.size w3 w'):=by
      have hW:Below w.heap.size w (w3.alloc (.cells #[.int .i64 0] 3)).drew:=hB3.trans (hba.mono hB3.size);have hN:=((HD.out.nodes.later hW).carry (S':=fun b=>S b∨b=w3.heap.size) fun b hb=>⟨Or.inl hb,rfl⟩)
      have hI:qW (fun b=>S b∨b=w3.heap.size) (w3.alloc (.cells #[.int .i64 0] 3)).drew (.slice (some ⟨w3.heap.size,0,none⟩) 1 1) [0]:=by
       refine ⟨_,1,rfl,nR9 _,by unfold maxLen;omega,fun _=>⟨w3.heap.size,0,rfl,Or.inr rfl,fun i x hx=>?_⟩⟩
       match i,hx with
       | 0,hx=>simp at hx;subst hx;exact (by simp:(w3.alloc (.cells #[.int .i64 0] 3)).cell? ⟨w3.heap.size,0+0,none⟩=some (.int .i64 0))
      refine (Yt _ _ _ ns [0] s0 _ hN hI (fun u hu=>?_) (HST.out s0 (List.mem_of_getElem? hs0)) (by simp)).mono ?_
      · rw[List.mem_singleton]at hu
        obtain ⟨x,hx,_⟩:=Yh HGD.out;have:=qe hx;omega
      · rintro e w' ⟨v, rfl, hI', hb'⟩;have hsz:(w3.alloc (.cells #[.int .i64 0] 3)).drew.heap.size=w3.heap.size+1:=by show (w3.alloc (.cells #[.int .i64 0] 3)).heap.size=_;simp
        rw[hsz]at hI' hb'
        refine ⟨v,rfl,hI'.carry fun b hb=>⟨by omega,rfl⟩,?_⟩
        exact hba.trans (hb'.mono (by omega))
     have hl1i:(0:Int)<(l.length:Int):=by omega
     have hl0:0<l.length:=by omega
     have hlne:¬ l=[]:=by intro e;rw[e]at hl0;simp at hl0
     clear e0 e1 hs0;go_wp2_with fail
     go_region_held3 (fun W:World=>Below w3.heap.size w3 W∧W.cell? ⟨w.heap.size,0,none⟩=some (.slice na ns.length nc)∧W.cell? ⟨lb,lo,none⟩=some (.string s0.name)∧W.cell? ⟨lb,lo+1,none⟩=some (.int .i64 s0.n))
      (first
       | with_reducible exact HC.out _ hbn
       | with_reducible exact HC.out _ hba)
      (first|(go_at_call 52;refine (Calls.mono HM.out ?_);rintro e w4 ⟨v4,rfl,hI4,hbm⟩;obtain ⟨va4,vc4,rfl,_,_⟩:=hI4.shape;have hbn:=hbm))
     have hBw4:Below w.heap.size w w4:=hB3.trans (hbn.mono hB3.size);obtain ⟨H0,hH0⟩:∃ H0,zN ns [0] s0=H0:=⟨_,rfl⟩;have HH0:Hid (Lev ns 1 H0):=by show Lev ns 1 H0;rw[←hH0];exact X3 HGD.out s0
     have HSP:Hid (Ko ns l=ZM ns (l.drop 1) H0):=by
      obtain ⟨r,rfl⟩:=HL0.out
      show ZM ns r (zN ns [0] s0)=_
      rw[hH0];rfl
     rw[hH0]at hI4 ⊢
     have HI4:Hid (qW (fun b=>w.heap.size<b) w4 (.slice va4 H0.length vc4) H0):=hI4
     have hb4:=hbn;have HLR:Hid ((l.drop 1).length=l.length-1):=List.length_drop;have HC4:Hid (∀ W,Below w3.heap.size w3 W→W.cell? ⟨w.heap.size,0,none⟩=some (.slice na ns.length nc)):=fun W h=>(HC.out W h).2.1
     clear hH0 HM HC hbm hI4 hba;go_wp2_with fail
     all_goals
      go_loopg [30,6] (l.length-1) (fun g j h wr=>∃ (i:Nat) (X:List Int),i+g=l.length-1∧j=.int .i64 (i:Int)∧X=ZM ns ((l.drop 1).take i) H0∧qW (fun b=>w.heap.size<b) wr h X∧Below w3.heap.size w3 wr)
      case atStart => exact ⟨0,H0,by omega,rfl,rfl,HI4.out,hb4⟩
      case round =>
       rename World=>wo
       obtain ⟨i,X,hi,rfl,hX,hIX,hBX⟩:=hrel;have hBwr:Below w.heap.size w wo:=hB3.trans (hBX.mono hB3.size)
       by_cases hil:i<l.length-1
       · first
         | (exfalso;omega)
         | (obtain ⟨s, hs⟩ : ∃ s, l[i + 1]? = some s := ⟨l[i + 1]'(by omega), by simp⟩
            have HLev:Hid (Lev ns (1+i) X):=by
             have:=VT HGD.out ((l.drop 1).take i) 1 H0 HH0.out;rw[List.length_take,HLR.out,Nat.min_eq_left (by omega),←hX]at this
             exact this
            have HXN:Hid (ZM ns ((l.drop 1).take (i+1)) H0=Q3 ns X s):=by
             have e:(l.drop 1).take (i+1)=(l.drop 1).take i++[s]:=by
              rw[List.take_succ_eq_append_getElem (by rw[HLR.out];exact hil)]
              congr 2
              have:=hs;rw[List.getElem?_eq_getElem (by omega)]at this
              have:=Option.some.inj this;rw[List.getElem_drop];rw[←this]
              congr 1
              omega
             show _=_
             rw[e,qaQ,←hX]
            obtain ⟨lb2,lo2,lc2,hlv,_,hlb2,e0,e1⟩:=(HL.out.later hBwr).at hs
            injection hlv with hla _ hlc2
            injection hla with hla
            injection hla with hla1 hla2
            subst hla1 hla2 hlc2;have e0':wo.cell? ⟨lb,lo+2+i*2,none⟩=some (.string s.name):=by rw[show lo+2+i*2=lo+(i+1)*2 by omega];exact e0
            have e1':wo.cell? ⟨lb,lo+2+i*2+1,none⟩=some (.int .i64 s.n):=by rw[show lo+2+i*2=lo+(i+1)*2 by omega];exact e1
            have hsn:=HST.out s (List.mem_of_getElem? hs);have hXl:X.length≤80:=Nat.le_trans (ZP HGD.out HLev.out) h80;obtain ⟨xa,xc,rfl,hxl,hxm⟩:=hIX.shape;unfold maxLen at hxm
            have HIX:Hid (qW (fun b=>w.heap.size<b) wo (.slice xa X.length xc) X):=hIX
            have hili:(i:Int)<((l.length-1:Nat):Int):=by omega
            have hb5:=Below.alloc1 wo (.cells #[.string s.name,.int .i64 s.n] 121);have hx5:=heap_alloc_new wo (.cells #[.string s.name,.int .i64 s.n] 121);have hz5:(wo.alloc (.cells #[.string s.name,.int .i64 s.n] 121)).heap.size=wo.heap.size+1:=by simp
            clear e0 e1 hs hX hIX;go_wp2_with fail
            generalize wo.alloc (.cells #[.string s.name,.int .i64 s.n] 121)=W5 at *
            have HZ5:Hid (W5.heap.size=wo.heap.size+1):=hz5;have hle5:wo.heap.size≤W5.heap.size:=by omega
            clear hz5
            go_loopg [36,9] X.length (fun g k o wr=>∃ (kk:Nat) (Y:List Int),kk+g=X.length∧k=.int .i64 (kk:Int)∧Y=Q3 ns (X.take kk) s∧qE W5.heap.size wr o Y∧Below W5.heap.size W5 wr)
            case atStart => exact ⟨0,[],by omega,rfl,rfl,qE.nil _ _,Below.refl _ _⟩
            case round =>
             obtain ⟨kk,Y,hkk,rfl,hY,hIY,hBY⟩:=hrel;have hB5:Below wo.heap.size wo wr:=hb5.trans (hBY.mono hle5);have hBwx:Below w.heap.size w wr:=hBwr.trans (hB5.mono hBwr.size);have hB3x:Below w3.heap.size w3 wr:=hBX.trans (hB5.mono hBX.size);have hszx:=hBY.size
             by_cases hkl:kk<X.length
             · obtain ⟨u, hu⟩ : ∃ u, X[kk]? = some u := ⟨X[kk], by simp[hkl]⟩
               obtain ⟨m,x,rfl,hx,_⟩:=HLev.out.mem u (List.mem_of_getElem? hu);have hmn:=qe hx;obtain ⟨xb,xo,xc2,hxv,_,hxbw,e2⟩:=(HIX.out.later hB5).at hu
               injection hxv with hxa _ hxc2
               subst hxa hxc2;obtain ⟨b,o,cap,va,vk,hv,_,_,hSb,hbw,c0,c1,c2,c3,c4,hAt,hKi⟩:=(HD.out.nodes.later hBwx).at hx
               injection hv with hv1 _ hv2
               subst hv1 hv2;obtain ⟨ka,kc,rfl,hkl2,hkm⟩:=hKi.shape
               have HYN:Hid (Q3 ns (X.take (kk+1)) s=Y++zN ns x.kids s):=by
                show _=_
                rw[K9 hu,←hY,jG hx]
               have HYL:Hid (Y.length+(zN ns x.kids s).length≤80):=by
                show _≤_
                rw[←List.length_append,←HYN.out];exact Nat.le_trans (ZP HGD.out (X2 HGD.out (HLev.out.sub (List.take_sublist _ _)) s)) h80
               have hkidl:x.kids.length≤80:=by
                have:=(Yg HD.out HGD.out m x hx).2.1;have h1:=VP HGD.out hx
                have h2:x.kids.length≤ns.length:=ZP HGD.out (d:=dp ns m+1) ⟨fun u hu=>by
                 obtain ⟨k,y,rfl,hjk,_,_,hy,hp⟩:=(qZ HGD.out hx).kids u hu;exact ⟨k,y,rfl,hy,qbv HGD.out hy hp hjk⟩,(qZ HGD.out hx).row⟩
                omega
               have HMC:Hid (∀ W,Below wr.heap.size wr W→Calls Tryz.prog 52 #[.slice (some ⟨b,o,none⟩) ns.length nc,.slice ka x.kids.length kc,.agg #[.string s.name,.int .i64 s.n]] W fun e w'=>∃ v,e=.returned v∧qW (fun b=>W.heap.size≤b) w' v (zN ns x.kids s)∧Below W.heap.size W w'):=by
                intro W h;exact Yt S _ _ ns x.kids s W ((HD.out.nodes.later hBwx).later h) (hKi.later h) (VP HGD.out hx) hsn (by omega)
               have hbW5:b<W5.heap.size:=by
                have h1:=HD.out.here b hSb;have h2:=hBwr.size;have h3:=hb5.size;omega
               have hB35:Below w3.heap.size w3 W5:=hBX.trans (hb5.mono hBX.size);have c4':W5.cell? ⟨b,o+m*5+4,none⟩=some (.slice ka x.kids.length kc):=by rw[←hBY.cell (p:=⟨b,o+m*5+4,none⟩) hbW5];exact c4
               have HC:Hid (∀ W,Below W5.heap.size W5 W→Below W5.heap.size W5 W∧W.cell? ⟨w.heap.size,0,none⟩=some (.slice (some ⟨b,o,none⟩) ns.length nc)∧W.cell? ⟨b,o+m*5+4,none⟩=some (.slice ka x.kids.length kc)∧W.cell? ⟨wo.heap.size,0,none⟩=some (.string s.name)∧W.cell? ⟨wo.heap.size,1,none⟩=some (.int .i64 s.n)):=by
                intro W h;have h5:=(h.block _ (qh hx5)).trans hx5;refine ⟨h,HC4.out W (hB35.trans (h.mono hB35.size)),?_,?_,?_⟩
                · rw[h.cell (p:=⟨b,o+m*5+4,none⟩) hbW5];exact c4'
                · rw[cH9 h5];rfl
                · rw[cH9 h5];rfl
               obtain ⟨ya,yc,rfl,_,_⟩:=hIY.shape;have HIY:Hid (qE W5.heap.size wr (.slice ya Y.length yc) Y):=hIY;have hkli:(kk:Int)<(X.length:Int):=by omega
               have hmi:(m:Int)<(ns.length:Int):=by omega
               have hbx:Below wr.heap.size wr wr.drew:=(Below.refl _ _).drew;have hbn:Below W5.heap.size W5 wr.drew:=hBY.drew;obtain ⟨Z,hZ⟩:∃ Z,zN ns x.kids s=Z:=⟨_,rfl⟩;rw[hZ]at HMC HYN HYL
               clear hu hx hY hIY hKi hAt c0 c1 c2 c3 hZ c4';go_wp2_with fail
               go_region_held3 (fun W:World=>Below W5.heap.size W5 W∧W.cell? ⟨w.heap.size,0,none⟩=some (.slice (some ⟨b,o,none⟩) ns.length nc)∧W.cell? ⟨b,o+m*5+4,none⟩=some (.slice ka x.kids.length kc)∧W.cell? ⟨wo.heap.size,0,none⟩=some (.string s.name)∧W.cell? ⟨wo.heap.size,1,none⟩=some (.int .i64 s.n))
                (with_reducible exact HC.out _ hbn)
                (first
                 | (go_at_call 52;refine (Calls.mono (HMC.out _ hbx) ?_);rintro e w7 ⟨v7,rfl,hI7,hb7⟩;obtain ⟨va7,vc7,rfl,_,_⟩:=hI7.shape;have hbx:=hbx.trans (hb7.mono hbx.size);have hbn:=hBY.trans (hbx.mono hszx))
                 | (refine qaV (by rfl) (.tmp 40) (.tmp 50) (by rfl) W5.heap.size (.slice ya Y.length yc) Y (by simp[Act.eval]) (HIY.out.later hbx) _ (.slice va7 Z.length vc7) Z (by simp[Act.eval]) hI7 (by have:=HYL.out;omega) hbn.size ?_;intro v8 w8 hR8 hg8;obtain ⟨va8,vc8,rfl,_,_⟩:=hR8.shape;have hbn:=hbn.grown hg8 hbn.size (fun z hz=>(HIY.out.lt z hz).1)))
               clear c4;go_wp2_with fail
               go_roundg (X.length-(kk+1))
               case measure => omega
               case rel => exact ⟨kk+1,Y++Z,by omega,by go_num,HYN.out.symm,by rw[List.length_append]at hR8;exact hR8,hbn⟩
             · have hkk2 : kk = X.length := by omega
               subst hkk2;rw[List.take_length]at hY
               have hkli:¬ ((X.length:Int)<(X.length:Int)):=by omega
               obtain ⟨ya,yc,rfl,_,_⟩:=hIY.shape;have hR:=hIY.ints;have hY2:ZM ns ((l.drop 1).take (i+1)) H0=Y:=by rw[HXN.out,hY]
               have HY2:Hid (ZM ns ((l.drop 1).take (i+1)) H0=Y):=hY2
               have h5w:w.heap.size<W5.heap.size:=by
                have h1:=hBwr.size;have h2:=HZ5.out;omega
               clear hIY hY hY2;go_wp2_with fail
               go_roundg (l.length-1-(i+1))
               case measure => omega
               case rel => exact ⟨i+1,Y,by omega,by go_num,HY2.out.symm,hR.carry fun b hb=>⟨by omega,rfl⟩,hB3x⟩)
       · have hili : ¬ ((i : Int) < ((l.length - 1 : Nat) : Int)) := by omega
         obtain ⟨xa,xc,rfl,hxl,hxm⟩:=hIX.shape
         have hXe:Ko ns l=X:=by
          rw[HSP.out,hX,List.take_of_length_le (by rw[HLR.out];omega)]
         have HX:Hid (Ko ns l=X):=hXe;clear hX hXe;go_wp2_with fail
         go_ret2
         exact ⟨_,by rw[HSE3.out];rfl,by rw[HSD3.out,HX.out];exact hIX.carry fun b hb=>⟨by omega,rfl⟩,hBwr⟩
end
end Go.Proofs.YtlldnnalamdegaaGreatDoor
