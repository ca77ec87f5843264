/- Bundled: StepPut PickK AllK. What each says stands ahead of it. -/
import Derived.Test.YtfdbipeidmpciabDoorBundle13
namespace Go.Proofs.YtfdbipeidmpciabDoor
open Go.ChangeShapes Go.WideShapes Go.ChangeAt Go.RowKit
set_option maxRecDepth 100000
theorem qj.putN {S:Nat→Prop}{w:World}{b o len cap:Nat}{l:List St}(h:qj S w (.slice (some ⟨b,o,none⟩) len cap) l){i:Nat}{s:St}(hs:l[i]?=some s)(n:Int) :
 qj S (w.setCell ⟨b,o+i*2+1,none⟩ (.int .i64 n)) (.slice (some ⟨b,o,none⟩) len cap) (l.set i ⟨s.name,n⟩):=by
 have hi:=qe hs;obtain ⟨b',o',cap',hv,hS,hb,e0,e1⟩:=h.at hs
 obtain ⟨a,c,h1,h2,h3,h4⟩:=h
 injection h1 with h1a h1b h1c
 subst h1a h1b h1c
 injection hv with hv1 _ hv2
 injection hv1 with hv1
 injection hv1 with hv3 hv4
 subst hv3 hv4 hv2;refine ⟨_,cap,by rw[List.length_set],by rw[List.length_set];exact h2,h3,fun _=>⟨b,o,rfl,hS,fun j x hx=>?_⟩⟩
 obtain ⟨b2,o2,hab,_,hc⟩:=h4 (by intro e;rw[e]at hi;simp at hi)
 injection hab with hab
 injection hab with hb2 ho2
 subst hb2 ho2
 by_cases hij:i=j
 · subst hij;rw[List.getElem?_set_self hi]at hx
   have hx:=Option.some.inj hx;subst hx;refine ⟨?_,qc (by rw[e1];rfl)⟩
   rw[World.cell?_setCell_other _ _ _ _ (by intro e;injection e with _ e;omega)]
   exact e0
 · rw[List.getElem?_set_ne hij]at hx
   obtain ⟨g0,g1⟩:=hc j x hx;rw[World.cell?_setCell_other _ _ _ _ (by intro e;injection e with _ e;omega),World.cell?_setCell_other _ _ _ _ (by intro e;injection e with _ e;omega)]
   exact ⟨g0,g1⟩
theorem qj.put {S:Nat→Prop}{w:World}{b o len cap:Nat}{l:List St}(h:qj S w (.slice (some ⟨b,o,none⟩) len cap) l){i:Nat}{s:St}(hs:l[i]?=some s)(t:St) :
 qj S ((w.setCell ⟨b,o+i*2,none⟩ (.string t.name)).setCell ⟨b,o+i*2+1,none⟩ (.int .i64 t.n)) (.slice (some ⟨b,o,none⟩) len cap) (l.set i t):=by
 have hi:=qe hs;obtain ⟨b',o',cap',hv,hS,hb,e0,e1⟩:=h.at hs
 obtain ⟨a,c,h1,h2,h3,h4⟩:=h
 injection h1 with h1a h1b h1c
 subst h1a h1b h1c
 injection hv with hv1 _ hv2
 injection hv1 with hv1
 injection hv1 with hv3 hv4
 subst hv3 hv4 hv2;refine ⟨_,cap,by rw[List.length_set],by rw[List.length_set];exact h2,h3,fun _=>⟨b,o,rfl,hS,fun j x hx=>?_⟩⟩
 obtain ⟨b2,o2,hab,_,hc⟩:=h4 (by intro e;rw[e]at hi;simp at hi)
 injection hab with hab
 injection hab with hb2 ho2
 subst hb2 ho2;have far:∀ p q:Nat,p≠q→(⟨b,p,none⟩:Addr)≠⟨b,q,none⟩:=by intro p q hpq e;injection e with _ e;exact hpq e
 by_cases hij:i=j
 · subst hij;rw[List.getElem?_set_self hi]at hx
   have hx:=Option.some.inj hx;subst hx;refine ⟨?_,qc ?_⟩
   · rw[World.cell?_setCell_other _ _ _ _ (far _ _ (by omega))]
     exact qc (by rw[e0];rfl)
   · rw[World.cell?_setCell_other _ _ _ _ (far _ _ (by omega)),e1];rfl
 · rw[List.getElem?_set_ne hij]at hx
   obtain ⟨g0,g1⟩:=hc j x hx;rw[World.cell?_setCell_other _ _ _ _ (far _ _ (by omega)),World.cell?_setCell_other _ _ _ _ (far _ _ (by omega)),World.cell?_setCell_other _ _ _ _ (far _ _ (by omega)),World.cell?_setCell_other _ _ _ _ (far _ _ (by omega))]
   exact ⟨g0,g1⟩
theorem qJ.block {B:Nat}{w:World}{v:Value}{l:List St}(h:qJ B w v l)(hne:l≠[]):∃ g cap,v=.slice (some ⟨g,0,none⟩) l.length cap∧B≤g∧g<w.heap.size∧∀ k,w.frozen? ⟨g,k,none⟩=false:=by
 rcases h.2 with ⟨_,h0⟩|⟨g,cap,cur,rfl,hg,hh,hc,hm,hs,ht⟩
 · exact absurd (List.eq_nil_of_length_eq_zero h0) hne
 · exact ⟨g,cap,rfl,hg,qh hh,fun k=>fH9 hh k⟩
theorem yg (k:Int)(n:Nat)(w:World)(h0:1≤n)(h1:(n:Int)≤9223372036854775807) :
 Calls Tryd.prog 8 #[.int .i64 k,.int .i64 (n:Int)] w fun e w'=>∃ m:Nat,m<n∧e=.returned (.int .i64 (m:Int))∧w'=w:=by
 have hne:¬ ((n:Int)=0):=by omega
 have hne2:((n:Int)==0)=false:=by simp;omega
 obtain ⟨r,hr⟩:∃ r,Int.tmod k (n:Int)=r:=⟨_,rfl⟩;have hr1:r<(n:Int):=by rw[←hr];exact Int.tmod_lt_of_pos k (by omega)
 have hr2:-(n:Int)<r:=by rw[←hr];exact Int.lt_tmod_of_pos k (by omega)
 by_cases hneg:r<0
 · go_enter Tryd.func8, Tryd.ntmps8
   go_wp2;go_ret;exact ⟨(r+n).toNat,by omega,by show Ending.returned (Value.int .i64 (r+(n:Int)))=_;rw[Int.toNat_of_nonneg (by omega)],rfl⟩
 · go_enter Tryd.func8, Tryd.ntmps8
   go_wp2;go_ret;exact ⟨r.toNat,by omega,by show Ending.returned (Value.int .i64 r)=_;rw[Int.toNat_of_nonneg (by omega)],rfl⟩
section
attribute [local go_sem] qc
theorem yn {D:Nat}(h1:1≤D)(h5:D≤5):qu (List.replicate D starS)=true:=by
 unfold qu;rw[List.length_replicate]
 have:(List.replicate D starS).all qq=true:=by
  rw[List.all_eq_true];intro x hx;rw[(List.mem_replicate.1 hx).2]
  decide
 rw[this];simp[h1,h5]
theorem yp {m:Nat}(h5:m+1≤5):qu (List.replicate m starS++[textS])=true:=by
 unfold qu
 have:(List.replicate m starS++[textS]).all qq=true:=by
  rw[List.all_eq_true];intro x hx;rw[List.mem_append,List.mem_singleton]at hx
  rcases hx with hx|rfl
  · rw[(List.mem_replicate.1 hx).2];decide
  · decide
 rw[this];simp;omega
theorem zJ (D:Nat):qB (List.replicate D starS):=by
 intro x hx;rw[(List.mem_replicate.1 hx).2]
 show 1≤maxLen
 unfold maxLen;omega
theorem jt (m:Nat):qB (List.replicate m starS++[textS]):=by
 intro x hx;rw[List.mem_append,List.mem_singleton]at hx
 rcases hx with hx|rfl
 · exact zJ m x hx
 · exact nZ9 _
theorem xn (m:Nat):(List.replicate (m+1) starS).set m textS=List.replicate m starS++[textS]:=by
 rw[List.replicate_succ',List.set_append_right _ _ (by simp)]
 simp
theorem Qa {ns:List Nd}(hg:qg ns=true):∀ k,dp ns k≤k+1:=by
 intro k
 induction k using Nat.strongRecOn with
 | ind k ih =>
   by_cases hk:k<ns.length
   · obtain ⟨x, hx⟩ : ∃ x, ns[k]? = some x := ⟨ns[k], by simp[hk]⟩
     rcases jM hg hx with ⟨_,h⟩|⟨q,_,hq,h⟩
     · omega
     · have:=ih q hq;omega
   · unfold dp;rw[depF,if_neg (by omega)];omega
theorem zw (ns:List Nd)(d:Nat)(tx:Bool):∀ k,(qk ns d tx k).length≤k:=by
 intro k
 induction k with
 | zero=>exact nR9 _
 | succ k ih =>
   rw[qk,List.length_append]
   split<;>simp<;>omega
theorem qL {ns:List Nd}{d k:Nat}{tx:Bool}{x:Nd}(hx:ns[k]?=some x):(qk ns d tx (k+1)).length=(qk ns d tx k).length+(if dp ns k=d∧x.text=tx then 1 else 0):=by
 rw[qk,List.length_append,hx]
 by_cases h:dp ns k=d∧x.text=tx
 · rw[if_pos ⟨h.1,by simp[h.2]⟩,if_pos h];rfl
 · rw[if_neg (fun h'=>h ⟨h'.1,by simpa using h'.2⟩),if_neg h];rfl
set_option maxHeartbeats 4000000 in
theorem jh (S:Nat→Prop)(vd:Value)(ns:List Nd)(deep:Int)(w:World)(hD:zj S w vd ns)(hE:ze w) :
 Calls Tryd.prog 5 #[.agg #[vd],.int .i64 deep] w fun e w'=>e=.returned (.bool true)∧Below w.heap.size w w':=by
 have hb1:=Below.alloc1 w (.cells #[vd] 24);have hx1:=heap_alloc_new w (.cells #[vd] 24);have HG:Hid _:=(hD.later hb1).good;have HPA:Hid (∀ W,Below w.heap.size w W→Calls Tryd.prog 7 #[] W fun e w'=>e=.returned (.bool true)∧Below W.heap.size W w'):=fun W h=>zt W (hE.later h)
 have HD:Hid (zj S w vd ns):=hD;have HPK:Hid (∀ W,Calls Tryd.prog 8 #[.int .i64 deep,.int .i64 5] W fun e w'=>∃ m:Nat,m<5∧e=.returned (.int .i64 (m:Int))∧w'=W):=fun W=>yg deep 5 W (by decide) (by decide)
 obtain ⟨na,nc,rfl,hnl,hnm⟩:=hD.nodes.shape;unfold maxLen at hnm
 clear hD hE
 go_enter Tryd.func5,Tryd.ntmps5
 go_wp2_with fail;refine (Calls.mono HG.out ?_);rintro e w2 ⟨rfl,hb2⟩;have hx2:=(hb2.block _ (qh hx1)).trans hx1;have hB2:Below w.heap.size w w2:=hb1.trans (hb2.mono hb1.size);have hz2:w.heap.size<w2.heap.size:=qh hx2;clear HG hb1 hx1 hb2;obtain ⟨q,hq⟩:∃ q,qg ns=q:=⟨_,rfl⟩;rw[hq];cases q with
 | false =>
   clear hq;go_wp2_with fail;refine (Calls.mono (HPA.out _ hB2) ?_);rintro e w3 ⟨rfl,hb3⟩;go_wp2_with fail;go_ret;exact ⟨rfl,hB2.trans (hb3.mono hB2.size)⟩
 | true =>
   have HGD:Hid (qg ns=true):=hq
   have h80:ns.length≤80:=by
    simp only[qg,Bool.and_eq_true,decide_eq_true_eq]at hq
    exact hq.1.1
   clear hq;go_wp2_with fail;refine (Calls.mono (HPK.out _) ?_);rintro e w2' ⟨m,hm5,rfl,rfl⟩;have hmi:(m:Int)<5:=by omega
   obtain ⟨i0,hi,hz0,hzz1,hzz2⟩:=info_parts stepInfo;clear HPK;go_wp2_with fail;obtain ⟨D,hDm⟩:∃ D:Nat,(m:Int)+1=(D:Int):=⟨m+1,by omega⟩
   rw[hDm];have hD1:1≤D:=by omega
   have hD5:D≤5:=by omega
   clear hDm hmi hm5
   go_loopg [23,5] D (fun g j o wr=>∃ (k:Nat),k+g=D∧j=.int .i64 (k:Int)∧qJ w2'.heap.size wr o (List.replicate k starS)∧Below w2'.heap.size w2' wr)
   case atStart => exact ⟨0,by omega,rfl,World.ownsRow_nil _ _ _ _,Below.refl _ _⟩
   case round =>
    obtain ⟨k,hk,rfl,hSR,hB⟩:=hrel;have hszr:=hB.size
    by_cases hkl:k<D
    · obtain ⟨ra, rc, rfl, hrl, hrm⟩ := hSR.shape;rw[List.length_replicate]at hSR hrl ⊢
      have hkli:(k:Int)<(D:Int):=by omega
      have hown:wr.ownsRow w2'.heap.size 37 2 (.slice ra k rc) k (stepCells (List.replicate k starS)):=by
       have:=hSR;unfold qJ at this
       rw[List.length_replicate]at this
       exact this
      go_wp2_with (at_builtin;refine wpList_append_own_at _ rfl _ _ 25 rfl w2'.heap.size 37 i0 _ 2 24 Tryd.underlying25 hi hz0 hzz1 hzz2 rfl (by decide) _ _ _ rfl (hown.alloc _) ⟨wr.heap.size,0,none⟩ 1 1 [.string ⟨#[42]⟩,.int .i64 0] ?qc0 ?qc1 ?qc2 ?qc3 ?qc4 ?qc5 ?qc6 ?_)
      case qc0 => rfl
      case qc1 => rfl
      case qc2 => exact jR _ _ _ _
      case qc3 => intro z hz;simp at hz;rcases hz with rfl|rfl<;>rfl
      case qc4 => unfold maxLen;omega
      case qc5 => omega
      case qc6 => simp;omega
      intro v' w6 hown6 hgr6 _ _;obtain ⟨ja,jl,jc,rfl⟩:=qR hown6
      have hS6:qJ w2'.heap.size w6 (.slice ja jl jc) (List.replicate (k+1) starS):=by
       unfold qJ;rw[List.replicate_succ',q7,List.length_append,List.length_replicate];exact hown6
      have hB6:Below w2'.heap.size w2' w6:=(hB.alloc hszr _).grown hgr6 (by simp;omega) (fun z hz=>(hSR.lt z hz).1)
      clear hown6 hown hSR;go_wp2_with fail
      go_roundg (D-(k+1))
      case measure => omega
      case rel => exact ⟨k+1,by omega,by go_num,hS6,hB6⟩
    · have hkk : D = k := by omega
      subst hkk;have hkli:¬ ((D:Int)<(D:Int)):=by omega
      have HDm:Hid (D-1+1=D):=Nat.sub_add_cancel hD1
      rename World=>w4
      have hB4:Below w.heap.size w w4:=hB2.trans (hB.mono hB2.size);have hx4:=(hB.block _ (qh hx2)).trans hx2;obtain ⟨g,cap,rfl,hg1,hg2,hfz⟩:=hSR.block (by simp;omega)
      have hSt:=hSR.steps;have HST:Hid (qj (fun b=>w2'.heap.size≤b) w4 (.slice (some ⟨g,0,none⟩) (List.replicate D starS).length cap) (List.replicate D starS)):=hSt
      have HS1:Hid (Calls Tryd.prog 6 #[.agg #[.slice na ns.length nc],.slice (some ⟨g,0,none⟩) (List.replicate D starS).length cap] w4 fun e w'=>∃ v,e=.returned (.tuple #[v,.int .i64 0])∧qm (fun b=>w4.heap.size≤b) w' v (qk ns D false ns.length)∧Below w4.heap.size w4 w'):=by
       have:=qS (fun b=>S b∨(w2'.heap.size≤b∧b<w4.heap.size)) _ _ ns (List.replicate D starS) w4 ⟨(HD.out.later hB4).nodes.carry fun b hb=>⟨Or.inl hb,rfl⟩,fun b hb=>by
        rcases hb with hb|hb
        · exact Nat.lt_of_lt_of_le (HD.out.here b hb) hB4.size
        · exact hb.2,HD.out.few,HD.out.short⟩ (hSt.bounded.carry fun b hb=>⟨Or.inr hb,rfl⟩) (zJ _)
       rw[show zc ns (List.replicate D starS)=0 by unfold zc;rw[HGD.out,yn (by omega) (by omega)];rfl,show q6 ns (List.replicate D starS)=qk ns D false ns.length by unfold q6;rw[HGD.out,yn (by omega) (by omega)];have:=xi HGD.out (D-1);rw[HDm.out]at this;exact this]at this
       exact this
      rw[List.length_replicate]at HS1 HST ⊢
      have d4:w4.cell? ⟨w.heap.size,0,none⟩=some (.slice na ns.length nc):=by rw[cH9 hx4];rfl
      have hl0:=zw ns D false ns.length;have hl1:=zw ns D true ns.length;clear hSt hSR;go_wp2_with fail;refine (Calls.mono HS1.out ?_);rintro e w5 ⟨v5,rfl,hI5,hb5⟩;have hx5:=(hb5.block _ (qh hx4)).trans hx4;have hB5:Below w.heap.size w w5:=hB4.trans (hb5.mono hB4.size);obtain ⟨xa,xc,rfl,_,_⟩:=hI5.shape;obtain ⟨X,hX⟩:∃ X,(qk ns D false ns.length).length=X:=⟨_,rfl⟩;have HX:Hid ((qk ns D false ns.length).length=X):=hX;rw[hX]at hl0 ⊢
      clear hX hI5 HS1;have hS5:=HST.out.later hb5;obtain ⟨_,_,_,hv5,_,_,s0,s1⟩:=hS5.at (i:=D-1) (x:=starS) (by rw[List.getElem?_replicate,if_pos (by omega)])
      injection hv5 with hv5a hv5l hv5c
      clear hv5l
      injection hv5a with hv5a
      injection hv5a with hv5b hv5d
      subst hv5b hv5c hv5d;have hfz0:w5.frozen? ⟨g,(D-1)*2,none⟩=false:=by rw[World.frozen?_of_block (a:=⟨g,(D-1)*2,none⟩) (hb5.block g hg2)];exact hfz _
      have hfz1:w5.frozen? ⟨g,(D-1)*2+1,none⟩=false:=by rw[World.frozen?_of_block (a:=⟨g,(D-1)*2+1,none⟩) (hb5.block g hg2)];exact hfz _
      simp only[Nat.zero_add]at s0 s1
      have hSP:=hS5.put (i:=D-1) (s:=starS) (by rw[List.getElem?_replicate,if_pos (by omega)]) textS
      rw[show (List.replicate D starS).set (D-1) textS=List.replicate (D-1) starS++[textS] by have:=xn (D-1);rw[HDm.out]at this;exact this]at hSP
      simp only[Nat.zero_add]at hSP
      have hsub:((D:Int)-1).toNat=D-1:=by omega
      have hD0:(0:Int)≤(D:Int)-1:=by omega
      have hB6:Below w.heap.size w ((w5.setCell ⟨g,(D-1)*2,none⟩ (.string ⟨#[]⟩)).setCell ⟨g,(D-1)*2+1,none⟩ (.int .i64 0)):=(hB5.setCell (p:=⟨g,(D-1)*2,none⟩) (by show w.heap.size≤g;omega) _).setCell (p:=⟨g,(D-1)*2+1,none⟩) (by show w.heap.size≤g;omega) _
      have hgx:w.heap.size≠g:=by omega
      have hx6:((w5.setCell ⟨g,(D-1)*2,none⟩ (.string ⟨#[]⟩)).setCell ⟨g,(D-1)*2+1,none⟩ (.int .i64 0)).heap[w.heap.size]?=some (.cells #[.slice na ns.length nc] 24 (0,0)):=by
       rw[qa hgx,qa hgx];exact hx5
      have hz6:((w5.setCell ⟨g,(D-1)*2,none⟩ (.string ⟨#[]⟩)).setCell ⟨g,(D-1)*2+1,none⟩ (.int .i64 0)).heap.size=w5.heap.size:=by simp
      have HS2:Hid (Calls Tryd.prog 6 #[.agg #[.slice na ns.length nc],.slice (some ⟨g,0,none⟩) D cap] ((w5.setCell ⟨g,(D-1)*2,none⟩ (.string ⟨#[]⟩)).setCell ⟨g,(D-1)*2+1,none⟩ (.int .i64 0)) fun e w'=>∃ v,e=.returned (.tuple #[v,.int .i64 0])∧qm (fun b=>w5.heap.size≤b) w' v (qk ns D true ns.length)∧Below w5.heap.size ((w5.setCell ⟨g,(D-1)*2,none⟩ (.string ⟨#[]⟩)).setCell ⟨g,(D-1)*2+1,none⟩ (.int .i64 0)) w'):=by
       have h5:=hb5.size
       have:=qS (fun b=>S b∨(w2'.heap.size≤b∧b<w5.heap.size)) _ _ ns (List.replicate (D-1) starS++[textS]) _ ⟨(HD.out.later hB6).nodes.carry fun b hb=>⟨Or.inl hb,rfl⟩,fun b hb=>by
        rw[hz6]
        rcases hb with hb|hb
        · exact Nat.lt_of_lt_of_le (HD.out.here b hb) hB5.size
        · exact hb.2,HD.out.few,HD.out.short⟩ (hSP.bounded.carry fun b hb=>⟨Or.inr ⟨hb.1,by have:=hb.2;simp at this;exact this⟩,rfl⟩) (jt _)
       rw[hz6,show zc ns (List.replicate (D-1) starS++[textS])=0 by unfold zc;rw[HGD.out,yp (by omega)];rfl,show q6 ns (List.replicate (D-1) starS++[textS])=qk ns D true ns.length by unfold q6;rw[HGD.out,yp (by omega)];have:=xj HGD.out (D-1);rw[HDm.out]at this;exact this]at this
       exact this
      have HB6:Hid _:=hB6;have HX6:Hid _:=hx6;have HZ6:Hid _:=hz6;have d5:w5.cell? ⟨w.heap.size,0,none⟩=some (.slice na ns.length nc):=by rw[cH9 hx5];rfl
      have d6:((w5.setCell ⟨g,(D-1)*2,none⟩ (.string ⟨#[]⟩)).setCell ⟨g,(D-1)*2+1,none⟩ (.int .i64 0)).cell? ⟨w.heap.size,0,none⟩=some (.slice na ns.length nc):=by rw[cH9 hx6];rfl
      clear hS5 hSP hB6 hx6 hx5 hx4 hx2 hz6 hfz hi hz0 hzz1 hzz2;go_wp2_with fail;refine (Calls.mono HS2.out ?_);rintro e w7 ⟨v7,rfl,hI7,hb7⟩;have hx7:=(hb7.block _ (by have:=hB5.size;have:=hB2.size;have:=hb5.size;omega)).trans HX6.out
      have hB7:Below w.heap.size w w7:=HB6.out.trans (hb7.mono hB5.size);obtain ⟨ya,yc,rfl,_,_⟩:=hI7.shape;obtain ⟨Y,hY⟩:∃ Y,(qk ns D true ns.length).length=Y:=⟨_,rfl⟩;have HY:Hid ((qk ns D true ns.length).length=Y):=hY;rw[hY]at hl1 ⊢
      have d7:w7.cell? ⟨w.heap.size,0,none⟩=some (.slice na ns.length nc):=by rw[cH9 hx7];rfl
      have HNN:=HD.out.nodes.later hB7;obtain ⟨x0,hx0,_⟩:=za HGD.out;obtain ⟨nb,no,ncap,_,_,hnv,_,_,_,hnb,_⟩:=HNN.at hx0
      injection hnv with hna _ hnc
      subst hna hnc;have HN3:Hid (qr S w7 (.slice (some ⟨nb,no,none⟩) ns.length nc) ns):=HNN;clear hY hI7 HS2 d4 d5 d6 HX6 HB6 s0 s1 hfz0 hfz1 hx0 hx7 HNN;go_wp2_with fail
      go_loopg [50,10,11] ns.length (fun g k a b wr=>∃ kk:Nat,kk+g=ns.length∧k=.int .i64 (kk:Int)∧a=.int .i64 ((qk ns D false kk).length:Int)∧b=.int .i64 ((qk ns D true kk).length:Int)∧wr=w7)
      case atStart => exact ⟨0,by omega,rfl,rfl,rfl,rfl⟩
      case round =>
       obtain ⟨k,hk,rfl,rfl,rfl,hwr⟩:=hrel;subst hwr
       by_cases hkn:k<ns.length
       · obtain ⟨x, hx⟩ : ∃ x, ns[k]? = some x := ⟨ns[k], by simp[hkn]⟩
         obtain ⟨b,o,cap3,xva,xvk,hv,_,_,_,_,c0,_,_,_,_,_,_⟩:=HN3.out.at hx
         injection hv with hv1 _ hv2
         injection hv1 with hv1
         injection hv1 with hv3 hv4
         subst hv3 hv4 hv2;have hkni:(k:Int)<(ns.length:Int):=by omega
         have hl0:=zw ns D false k;have hl1:=zw ns D true k;go_wp2_with fail
         go_loopg [14,13] (k+1) (fun g p a wz=>∃ (kk:Int) (dd:Nat),(kk+1).toNat=g∧p=.int .i64 kk∧a=.int .i64 (dd:Int)∧wz=wr∧((kk=-1∧dd=dp ns k)∨∃ q:Nat,kk=(q:Int)∧q<ns.length∧dd+dp ns q=dp ns k))
         case atStart => exact ⟨(k:Int),0,by omega,rfl,rfl,rfl,Or.inr ⟨k,rfl,hkn,by omega⟩⟩
         case round =>
          obtain ⟨kk,dd,hg,rfl,rfl,hwz,hor⟩:=hrel;subst hwz
          rcases hor with ⟨rfl,hdl⟩|⟨q,rfl,hq,hdq⟩
          · clear hg;subst hdl
            by_cases hdm:dp ns k=D
            · have hdmb : ((dp ns k : Int) == (D : Int)) = true := by simp;omega
              cases htx:x.text with
              | true =>
                rw[htx]at c0
                have HN0:Hid ((qk ns (D) false (k+1)).length=(qk ns (D) false k).length):=by show _=_;rw[qL hx,if_neg (by rw[htx];simp)];rfl
                have HN1:Hid ((qk ns (D) true (k+1)).length=(qk ns (D) true k).length+1):=by show _=_;rw[qL hx,if_pos ⟨hdm,htx⟩]
                obtain ⟨n0,hn0⟩:∃ n0,(qk ns (D) false k).length=n0:=⟨_,rfl⟩;obtain ⟨n1,hn1⟩:∃ n1,(qk ns (D) true k).length=n1:=⟨_,rfl⟩;rw[hn0]at HN0 hl0 ⊢
                rw[hn1]at HN1 hl1 ⊢
                clear hdm htx hx hn0 hn1;go_wp2_with fail
                go_roundg (ns.length-(k+1))
                case measure => omega
                case rel => exact ⟨k+1,by omega,by go_num,by rw[HN0.out],by rw[HN1.out];go_num,rfl⟩
              | false =>
                rw[htx]at c0
                have HN0:Hid ((qk ns (D) false (k+1)).length=(qk ns (D) false k).length+1):=by show _=_;rw[qL hx,if_pos ⟨hdm,htx⟩]
                have HN1:Hid ((qk ns (D) true (k+1)).length=(qk ns (D) true k).length):=by show _=_;rw[qL hx,if_neg (by rw[htx];simp)];rfl
                obtain ⟨n0,hn0⟩:∃ n0,(qk ns (D) false k).length=n0:=⟨_,rfl⟩;obtain ⟨n1,hn1⟩:∃ n1,(qk ns (D) true k).length=n1:=⟨_,rfl⟩;rw[hn0]at HN0 hl0 ⊢
                rw[hn1]at HN1 hl1 ⊢
                clear hdm htx hx hn0 hn1;go_wp2_with fail
                go_roundg (ns.length-(k+1))
                case measure => omega
                case rel => exact ⟨k+1,by omega,by go_num,by rw[HN0.out];go_num,by rw[HN1.out],rfl⟩
            · have hdmb : ((dp ns k : Int) == (D : Int)) = false := by simp;omega
              have HN0:Hid ((qk ns (D) false (k+1)).length=(qk ns (D) false k).length):=by show _=_;rw[qL hx,if_neg (fun h=>hdm h.1)];rfl
              have HN1:Hid ((qk ns (D) true (k+1)).length=(qk ns (D) true k).length):=by show _=_;rw[qL hx,if_neg (fun h=>hdm h.1)];rfl
              clear hdm hx;go_wp2_with fail
              go_roundg (ns.length-(k+1))
              case measure => omega
              case rel => exact ⟨k+1,by omega,by go_num,by rw[HN0.out],by rw[HN1.out],rfl⟩
          · obtain ⟨y, hy⟩ : ∃ y, ns[q]? = some y := ⟨ns[q], by simp[hq]⟩
            obtain ⟨b,o,cap2,yva,yvk,hv,_,_,_,hbw,_,_,_,d3y,_,_,_⟩:=HN3.out.at hy
            injection hv with hv1 _ hv2
            injection hv1 with hv1
            injection hv1 with hv3 hv4
            subst hv3 hv4 hv2;have hup:=jM HGD.out hy;have hpos:=yL hq;have hdk:=yL hkn;have hq0:¬ ((q:Int)<0):=by omega
            have hq0':(0:Int)≤(q:Int):=by omega
            have hqi:(q:Int)<(ns.length:Int):=by omega
            have hdpk:dp ns k≤k+1:=Qa HGD.out k;have hdd:(dd:Int)+1<9223372036854775808:=by omega
            clear hy c0;go_wp2_with fail
            rcases hup with ⟨hpp,hd1⟩|⟨q2,hpp,hq2,hd1⟩
            · rw[hpp]
              go_roundg 0
              case measure => omega
              case rel => exact ⟨-1,dd+1,by omega,rfl,by go_num,rfl,Or.inl ⟨rfl,by omega⟩⟩
            · rw[hpp]
              go_roundg (q2+1)
              case measure => omega
              case rel => exact ⟨(q2:Int),dd+1,by omega,rfl,by go_num,rfl,Or.inr ⟨q2,rfl,by omega,by omega⟩⟩
       · have hkk2 : k = ns.length := by omega
         have hkni:¬ ((k:Int)<(ns.length:Int)):=by omega
         have hX2:((qk ns D false k).length:Int)=(X:Int):=by rw[hkk2,HX.out]
         have hY2:((qk ns D true k).length:Int)=(Y:Int):=by rw[hkk2,HY.out]
         rw[hX2,hY2];clear hX2 hY2 hkk2;go_wp2_with fail;refine (Calls.mono (HPA.out _ hB7) ?_);rintro e w9 ⟨rfl,hb9⟩;go_wp2_with fail;go_ret;exact ⟨rfl,hB7.trans (hb9.mono hB7.size)⟩
end
end Go.Proofs.YtfdbipeidmpciabDoor
