/- Bundled: InsI InsA DelA PutW KindW. What each says stands ahead of it. -/
import Derived.Test.YtnppmdpmippcoaaGreatDoorBundle17
import Derived.Test.YtnppmdpmippcoaaGreatDoorBundle18
namespace Go.Proofs.YtnppmdpmippcoaaGreatDoor
open Go.ChangeShapes Go.WideShapes Go.ChangeAt Go.RowKit
set_option maxRecDepth 100000
theorem Zn {w:World}{n c:Nat}{t:TypeId}(h:n≤1048576*2):grownCap w n c t≤maxLen:=grownCap_le_maxLen w n c t (by unfold maxLen;omega)
set_option maxHeartbeats 1000000 in
theorem Jz (v u:Value)(n c k c':Nat)(a:Option Addr)(a':Option Addr)(w:World)(hv:v=.slice a n c)(hu:u=.slice a' 0 c')(hk:k≤n) :
 Calls Tryz.prog 119 #[v,.int .i64 (k:Int),u] w fun e w'=>e=.returned v∧w'=w:=by
 subst hv hu;have hki:(k:Int)≤(n:Int):=by omega
 go_enter Tryz.func119,Tryz.ntmps119
 by_cases hck:c=k
 · go_wp2_with fail
   go_returns
   exact ⟨rfl,rfl⟩
 · go_wp2_with fail
   go_returns
   exact ⟨rfl,rfl⟩
theorem Xw (B B':Nat)(v u:Value)(l m:List Int)(k:Nat)(w:World)(h:qY B w v l)(hu:qY B' w u m)(hk:k≤l.length)(hb:l.length≤1048576)(hb':m.length≤1048576)(hB:B≤w.heap.size)(hne:∀ b,v.ownBlock=some b→u.ownBlock≠some b) :
 Calls Tryz.prog 119 #[v,.int .i64 (k:Int),u] w fun e w'=>∃ v',e=.returned v'∧qY B w' v' (l.take k++(m++l.drop k))∧(∀ b,v'.ownBlock=some b→v.ownBlock=some b∨w.heap.size≤b)∧Below 0 w w'∧(∀ b,b<w.heap.size→v.ownBlock≠some b→w'.heap[b]?=w.heap[b]?):=by
 have fin:∀ e w',YY B 3 1 v l.length (qI l) k m.length (qI m) w e w'→∃ v',e=.returned v'∧qY B w' v' (l.take k++(m++l.drop k))∧(∀ b,v'.ownBlock=some b→v.ownBlock=some b∨w.heap.size≤b)∧Below 0 w w'∧(∀ b,b<w.heap.size→v.ownBlock≠some b→w'.heap[b]?=w.heap[b]?):=by
  rintro e w' ⟨v',h1,h2,h3,h4,h5⟩;refine ⟨v',h1,?_,h3,h4,h5⟩;unfold qY;have e1:(l.take k++(m++l.drop k)).length=l.length+m.length:=by simp;omega
  have e2:qI (l.take k++(m++l.drop k))=(qI l).take (k*1)++(qI m++(qI l).drop (k*1)):=by
   rw[zw,zw,Nat.mul_one];unfold qI;rw[List.map_take,List.map_drop]
  rw[e1,e2];exact h2
 rcases Nat.eq_zero_or_pos m.length with hm0|hm0
 · obtain ⟨a, c, hv, _, _⟩ := h.shape;obtain ⟨a',c',hu',_,_⟩:=hu.shape;have hm:m=[]:=List.eq_nil_of_length_eq_zero hm0;subst hm;refine (Jz v u l.length c k c' a a' w hv hu' hk).mono ?_;rintro e w' ⟨rfl,rfl⟩;exact ⟨v,rfl,by simpa using h,fun b hb=>Or.inl hb,Below.refl _ _,fun _ _ _=>rfl⟩
 · obtain ⟨vb, vc, rfl, hvc, hvm⟩ := yT hu hm0;obtain ⟨vcur,hvh,hvs,_,_,_⟩:=jr hu
   have hvs':∀ j x,(qI m)[j]?=some x→w.cell? ⟨vb,0+j,none⟩=some x:=fun j x hj=>by
    rw[Nat.zero_add,World.ownsRow.cellAt hu j (by have:=qy hj;rw[zR]at this;omega)]
    exact hj
   have hml:=zR m;have hll:=zR l
   rcases Nat.lt_or_ge k l.length with hkl|hkl
   · obtain ⟨g, c, rfl, hnc, hcm⟩ := yT h (by omega)
     obtain ⟨cur,hgh,hgs,_,_,hBg⟩:=jr h
     have hcs:∀ j x,(qI l)[j]?=some x→w.cell? ⟨g,0+j,none⟩=some x:=fun j x hj=>by
      rw[Nat.zero_add,World.ownsRow.cellAt h j (by have:=qy hj;rw[zR]at this;omega)]
      exact hj
     have hgv:vb≠g:=fun e=>hne g rfl (by rw[e];rfl)
     rcases Nat.lt_or_ge c (l.length+m.length) with hroom|hroom
     · refine Calls.mono (Any2.slices_Insert_int_grow Tryz.insI g 0 l.length c k vb 0 m.length vc (qI l) (qI m) w hkl hm0 hnc hroom (by omega) hll hml hcs hvs' (zS _) (zS _)) ?_
       rintro e w' ⟨rfl,rfl⟩;refine fin _ _ ?_;have hG:=grownCap_ge w (l.length+m.length) c (Tryz.insI_ren.t 3);have hGm:grownCap w (l.length+m.length) c (Tryz.insI_ren.t 3)≤maxLen:=Zn (by omega)
       generalize grownCap w (l.length+m.length) c (Tryz.insI_ren.t 3)=G at hG hGm ⊢
       have:=Jw (B:=B) (e:=3) (size:=1) (v:=.slice (some ⟨g,0,none⟩) l.length c) (w:=w) (n:=l.length) (i:=k) (m:=m.length) (G:=G) (q:=1) (r:=1) (xs:=qI l) (ys:=qI m)
        (ROW:=((qI l).take k).toArray++Builtin.zeroCells (Value.int .i64 0).cells (l.length+m.length-k)++Builtin.zeroCells (Value.int .i64 0).cells (G-(l.length+m.length)))
        (by omega) hB (by omega) (by omega) hG hGm (by simp[Value.cells,Builtin.zeroCells];omega) (by
         rw[Nat.mul_one,Array.toList_append,Array.toList_append,List.append_assoc,List.take_append_of_le_length (by simp;omega),List.take_of_length_le (by simp;omega)])
       rw[Nat.mul_one,Nat.mul_one]at this
       exact this
     · refine Calls.mono (Any2.slices_Insert_int_shift Tryz.insI g 0 l.length c k vb 0 m.length vc (qI l) (qI m) w hkl hm0 hroom (by unfold maxLen at hcm;omega) hgv hll hml hcs (fun j hj => jK hgh (by omega)) (fun j _ => fH9 hgh _) hvs' (zS _) (zS _) 3 3 vcur.size cur.size (by simp[World.shape?, hvh]) (by simp[World.shape?, hgh]) (by omega) (fH9 hvh _) (fH9 hvh _)) ?_
       rintro e w' ⟨rfl,rfl⟩;refine fin _ _ ?_;have:=Ya (q:=1) (r:=0) h hroom (i:=k) (by omega) (ys:=qI m) (by omega)
       rw[Nat.mul_one,Nat.mul_one]at this
       rw[Nat.zero_add,Nat.zero_add];exact this
   · have hkn : k = l.length := by omega
     subst hkn;obtain ⟨a,c,hv,hnc,hcm⟩:=h.shape
     rcases Nat.lt_or_ge c (l.length+m.length) with hroom|hroom
     · have hcs:∀ a',a=some a'→∀ j x,(qI l)[j]?=some x→w.cell? (a'.add j)=some x:=by
        rintro a' rfl j x hj;have hl0:0<l.length:=by have:=qy hj;omega
        obtain ⟨g,c',hv',_,_⟩:=yT h hl0;rw[hv']at hv
        injection hv with hv1 _ _
        injection hv1 with hv1
        subst hv1;subst hv';rw[Addr.add_lit,Nat.zero_add,World.ownsRow.cellAt h j (by have:=qy hj;omega)]
        exact hj
       have hnil:a=none→l.length=0:=by
        rintro rfl
        rcases Nat.eq_zero_or_pos l.length with h0|h0
        · exact h0
        · obtain ⟨g, c', hv', _, _⟩ := yT h h0;rw[hv']at hv
          injection hv with hv1 _ _
          cases hv1
       subst hv;refine Calls.mono (Any2.slices_Insert_int_end_grow Tryz.insI a l.length c vb 0 m.length vc (qI l) (qI m) w hm0 hnc hroom (by omega) hll hml hnil hcs hvs' (zS _)) ?_
       rintro e w' ⟨rfl,rfl⟩;refine fin _ _ ?_;have hG:=grownCap_ge w (l.length+m.length) c (Tryz.insI_ren.t 3);have hGm:grownCap w (l.length+m.length) c (Tryz.insI_ren.t 3)≤maxLen:=Zn (by omega)
       generalize grownCap w (l.length+m.length) c (Tryz.insI_ren.t 3)=G at hG hGm ⊢
       have hdr:Below w.heap.size w w.drew:=⟨rfl,rfl,rfl,nR9 _,fun _ _=>rfl⟩
       refine ⟨_,rfl,?_,fun b hb=>Or.inr ?_,?_,fun b hb _=>?_⟩
       · have := Ku (w := w.drew) (B := B) (e := 3) (size := 1) (k := l.length + m.length) (cap := G) (cur := (qI l ++ qI m).toArray ++ Builtin.zeroCells (Value.int .i64 0).cells (G - (l.length + m.length))) hB hG hGm (by simp[Builtin.zeroCells, Value.cells];omega)
         rw[Nat.mul_one,Array.toList_append,List.take_append_of_le_length (by simp;omega),List.take_of_length_le (by simp;omega)]at this
         rw[Nat.mul_one,←hll,List.take_length,List.drop_length,List.append_nil,hll];exact this
       · have : w.heap.size = b := by injection hb
         omega
       · exact (hdr.mono (nZ9 _)).trans ((Below.alloc1 w.drew _).mono (nZ9 _))
       · exact Lib.alloc_old w.drew _ _ hb
     · have hl0 : 0 < c := by omega
       have hv2:=h.2
       rcases hv2 with ⟨hv2,_⟩|⟨g,cap,cur,hv2,hBg,hgh,_,_,hgs,_⟩
       · rw[hv]at hv2;injection hv2 with _ _ h3;omega
       · have hcc : c = cap ∧ a = some ⟨g, 0, none⟩ := by rw[hv]at hv2;injection hv2 with h1 _ h3;exact ⟨h3, h1⟩
         obtain ⟨rfl,rfl⟩:=hcc;subst hv;refine Calls.mono (Any2.slices_Insert_int_end_room Tryz.insI g 0 l.length c vb 0 m.length vc (qI m) w hm0 hroom (by unfold maxLen at hcm;omega) hml (fun j hj=>jK hgh (by omega)) (fun j _=>fH9 hgh _) hvs' (zS _)) ?_
         rintro e w' ⟨rfl,rfl⟩;refine fin _ _ ?_;have:=qaW h hroom (ys:=qI m) (by omega)
         rw[Nat.mul_one]at this
         rw[Nat.zero_add];exact this
end Go.Proofs.YtnppmdpmippcoaaGreatDoor
namespace Go.Proofs.YtnppmdpmippcoaaGreatDoor
open Go.ChangeShapes Go.WideShapes Go.ChangeAt Go.RowKit Go.Lib
set_option maxRecDepth 100000
set_option maxHeartbeats 1000000 in
/-- An attribute put into a row in the midst, with room. -/
theorem ZM (B g n c k vb:Nat)(cs:List Value)(x y:ByteArray)(w:World)(h:w.ownsRow B 79 2 (.slice (some ⟨g,0,none⟩) n c) n cs)(h1c:∀ v∈cs,v.oneCell'=true)(hx:w.heap[vb]?=some (.cells #[.string x,.string y] 79 (0,0)))(hk:k<n)(hroom:n+1≤c)(hne:vb≠g) :
 Calls Tryz.prog 92 #[.slice (some ⟨g,0,none⟩) n c,.int .i64 (k:Int),.slice (some ⟨vb,0,none⟩) 1 1] w fun e w'=>e=.returned (.slice (some ⟨g,0,none⟩) (n+1) c)∧w'=(w.drew.setCells g ((k+1)*2) (cs.drop (k*2))).setCells g (k*2) [.string x,.string y]:=by
 obtain ⟨cur,hgh,hgs,_,hcm,_⟩:=jr h;obtain ⟨i0,hi,hz0,hz1,hz2⟩:=info_parts attrInfo;have hsz:(Tryz.prog.info? 79).map (·.size)=some 2:=by rw[hi];simp[hz1]
 have hcl:cs.length=n*2:=h.1;unfold maxLen at hcm
 have hcs:∀ j v,cs[j]?=some v→w.cell? ⟨g,j,none⟩=some v:=fun j v hj=>by
  have:=qy hj;rw[World.ownsRow.cellAt h j (by omega)]
  exact hj
 have hvs:∀ j v,([.string x,.string y]:List Value)[j]?=some v→w.cell? ⟨vb,j,none⟩=some v:=fun j v hj=>by
  rw[cH9 hx]
  match j,hj with
  | 0,hj|1,hj=>simp at hj;subst hj;rfl
  | j+2,hj=>simp at hj
 have hov:∀ o lb cb,(callFunc 116 #[.slice (some ⟨vb,0,none⟩) 1 1,.slice (some ⟨g,o,none⟩) lb cb]).run Tryz.prog w=.ok (.value (.bool false)) w:=fun o lb cb=>by
  rw[run_callFunc_extern Tryz.func116 (by kernel_rfl) (by kernel_rfl) (by kernel_rfl) (e:=Extern.SlicesOverlaps.overlaps #[40,40] #[4]) (by kernel_rfl),
   Lib.run_overlaps_apart w 40 4 79 Tryz.underlying40 2 Tryz.sizeOf79 ⟨vb,0,none⟩ ⟨g,o,none⟩ 1 1 lb cb hne 79 79 2 cur.size (by simp[World.shape?,hx]) (by simp[World.shape?,hgh]) (by omega) (fH9 hx _) (fH9 hx _)]
  rfl
 have hdl:(cs.drop (k*2)).length=n*2-k*2:=by rw[List.length_drop,hcl]
 have hw1:IntKind.i64.wrap ((k:Int)+1)=(k:Int)+1:=by rw[IntKind.wrap_i64];omega
 have hb1:(0:Int)≤(k:Int)+1:=by omega
 have hin:k≤n:=by omega
 have htn:((k:Int)+1).toNat=k+1:=by omega
 have hb2:¬ (c=k+1):=by omega
 have hb3:(k:Int)≤(n:Int)+1:=by omega
 have hb4:¬ (c=k):=by omega
 have hnk:¬ ((k:Int)=(n:Int)):=by omega
 have hcp1:∀ (W:World),(∀ x,W.cell? x=w.cell? x)→(∀ x,W.frozen? x=w.frozen? x)→∀ ty dc sc,(Builtin.copy_ #[40,40] ty #[.slice (some ⟨g,(k+1)*2,none⟩) (n-k) dc,.slice (some ⟨g,k*2,none⟩) (n+1-k) sc]).run Tryz.prog W=.ok (goInt (Nat.min (n+1-k) (n-k))) (W.setCells g ((k+1)*2) (cs.drop (k*2))):=fun W hWc hWf ty dc sc =>
  xN W _ _ ty 79 g ((k+1)*2) (n-k) dc ⟨g,k*2,none⟩ (n+1-k) sc 2 (cs.drop (k*2)) Tryz.underlying40 hsz (by show _=min (n+1-k) (n-k)*2;omega)
   (fun j v hj=>by rw[Addr.add_lit,hWc];exact hcs (k*2+j) v (by rwa [List.getElem?_drop]at hj))
   (fun j hj=>by rw[hWc];exact jK hgh (by omega)) (fun j hj=>by rw[hWf];exact fH9 hgh _) (fun v hv=>h1c v (List.mem_of_mem_drop hv))
 have hcp2:∀ (W:World),(∀ x,W.cell? x=(w.setCells g ((k+1)*2) (cs.drop (k*2))).cell? x)→(∀ x,W.frozen? x=(w.setCells g ((k+1)*2) (cs.drop (k*2))).frozen? x)→∀ ty dc,(Builtin.copy_ #[40,40] ty #[.slice (some ⟨g,k*2,none⟩) (n+1-k) dc,.slice (some ⟨vb,0,none⟩) 1 1]).run Tryz.prog W=.ok (goInt (Nat.min 1 (n+1-k))) (W.setCells g (k*2) [.string x,.string y]):=fun W hWc hWf ty dc =>
  xN W _ _ ty 79 g (k*2) (n+1-k) dc ⟨vb,0,none⟩ 1 1 2 [.string x,.string y] Tryz.underlying40 hsz (by show 2=min 1 (n+1-k)*2;omega)
   (fun j v hj=>by
    rw[Addr.add_lit,Nat.zero_add,hWc,World.cell?_setCells_out g _ _ _ _ (fun h _=>absurd h hne)]
    exact hvs j v hj)
   (fun j hj=>by
    rw[hWc];have hj2:j<2:=hj;exact isSome_setCells g _ _ _ (fun j hj=>jK hgh (by omega)) _ (jK hgh (by omega))) (fun j hj=>by rw[hWf,World.frozen?_setCells];exact fH9 hgh _) (by simp[Value.oneCell'])
 have hcp1':=hcp1 w.drew (fun _=>rfl) (fun _=>rfl)
 have hcp2':=hcp2 (w.drew.setCells g ((k+1)*2) (cs.drop (k*2))) (fun _=>by rw[←drew_setCells];rfl) (fun _=>by rw[←drew_setCells];rfl)
 clear h hx hgh hcs hvs h1c hcp1 hcp2;have mixed:Tryz.prog.follows .mixedOrders=true:=by kernel_rfl
 go_enter Tryz.func92,Tryz.ntmps92
 go_wp2_with (simp only[hov])
 go_region_law_o (refine step_copy_runI rfl _ _ 40 40 rfl _ _ (by simp[Act.eval,Act.put]) (by simp[Act.eval,Act.put]) (hcp1' _ _ _) ?_)
 go_wp2_with (at_builtin;refine wpList_copy_runI _ rfl _ _ 40 40 rfl _ _ rfl rfl (hcp2' _ _) ?_);go_ret;exact ⟨rfl,rfl⟩
set_option maxHeartbeats 1000000 in
/-- An attribute put into a row in the midst, without room: a new row. -/
theorem YD (B g n c k vb:Nat)(cs:List Value)(x y:ByteArray)(w:World)(h:w.ownsRow B 79 2 (.slice (some ⟨g,0,none⟩) n c) n cs)(h1c:∀ v∈cs,v.oneCell'=true)(hx:w.heap[vb]?=some (.cells #[.string x,.string y] 79 (0,0)))(hk:k<n)(hroom:c<n+1)(hbig:n≤1048576) :
 Calls Tryz.prog 92 #[.slice (some ⟨g,0,none⟩) n c,.int .i64 (k:Int),.slice (some ⟨vb,0,none⟩) 1 1] w fun e w'=>∃ (G:Nat) (ROW:Array Value),n+1≤G∧G≤maxLen∧ROW.size=G*2∧ROW.toList.take (k*2)=cs.take (k*2) ∧
  e=.returned (.slice (some ⟨w.heap.size,0,none⟩) (n+1) G)∧w'=(((((w.alloc (.cells ROW 79)).drewN 1).setCells w.heap.size (k*2) [.string x,.string y]).drewN 1).setCells w.heap.size ((k+1)*2) (cs.drop (k*2))):=by
 obtain ⟨cur,hgh,hgs,hnc,hcm,_⟩:=jr h;obtain ⟨i0,hi,hz0,hz1,hz2⟩:=info_parts attrInfo;have hsz:(Tryz.prog.info? 79).map (·.size)=some 2:=by rw[hi];simp[hz1]
 have hcl:cs.length=n*2:=h.1
 have hcs:∀ j v,cs[j]?=some v→w.cell? ⟨g,j,none⟩=some v:=fun j v hj=>by
  have:=qy hj;rw[World.ownsRow.cellAt h j (by omega)]
  exact hj
 have hvs:∀ j v,([.string x,.string y]:List Value)[j]?=some v→w.cell? ⟨vb,j,none⟩=some v:=fun j v hj=>by
  rw[cH9 hx]
  match j,hj with
  | 0,hj|1,hj=>simp at hj;subst hj;rfl
  | j+2,hj=>simp at hj
 have hbw:g<w.heap.size:=qA hgh;have hvw:vb<w.heap.size:=qA hx;have hkk:(n:Int)+1-(k:Int)=((n+1-k:Nat):Int):=by omega
 have hik:k+(n+1-k)=n+1:=by omega
 have hold:(Builtin.firstCells i0.size k (.slice (some ⟨g,0,none⟩) k c)).run Tryz.prog w.drew=.ok (cs.take (k*2)).toArray w.drew:=by
  rw[hz1]
  exact run_firstCells_some w.drew 2 k ⟨g,0,none⟩ k c (cs.take (k*2)) (by rw[List.length_take];omega) (fun j v hj=>by
   rw[Addr.add_lit,Nat.zero_add];rw[List.getElem?_take]at hj
   split at hj
   · exact hcs j v hj
   · cases hj)
 have hrz:∀ ty,(Builtin.append_ #[40,3] ty #[.slice (some ⟨g,0,none⟩) k c,.int .i64 ((n:Int)+1-(k:Int))]).run Tryz.prog w =
  .ok (.slice (some ⟨w.heap.size,0,none⟩) (n+1) (grownCap w (n+1) c 79)) (w.drew.alloc (.cells ((cs.take (k*2)).toArray++Builtin.zeroCells (Value.agg #[.string ⟨#[]⟩,.string ⟨#[]⟩]).cells (n+1-k)++Builtin.zeroCells (Value.agg #[.string ⟨#[]⟩,.string ⟨#[]⟩]).cells (grownCap w (n+1) c 79-(n+1))) 79)):=fun ty=>by
  have h:=Lib.run_append_grow_zeros w 40 3 ty 79 i0 _ .i64 .i64 Tryz.underlying40 Tryz.underlying3 hi hz0 (some ⟨g,0,none⟩) k c (cs.take (k*2)) hold (n+1-k) (by omega) (by omega) (by omega) (by omega) (by rw[hz2];omega) (by rw[hz2,hik];exact growslice_fits hroom (by omega))
  rw[hik]at h
  rw[hkk];exact h
 have hGn:n+1≤grownCap w (n+1) c 79:=grownCap_ge w _ _ _;have hGm:grownCap w (n+1) c 79≤maxLen:=Zn (by omega)
 generalize grownCap w (n+1) c 79=G at *
 obtain ⟨ROW,hROW⟩:∃ ROW:Array Value,ROW=(cs.take (k*2)).toArray++Builtin.zeroCells (Value.agg #[.string ⟨#[]⟩,.string ⟨#[]⟩]).cells (n+1-k)++Builtin.zeroCells (Value.agg #[.string ⟨#[]⟩,.string ⟨#[]⟩]).cells (G-(n+1)):=⟨_,rfl⟩;rw[←hROW]at hrz
 have hRs:ROW.size=G*2:=by
  rw[hROW];simp[Builtin.zeroCells,Value.cells];omega
 have hRt:ROW.toList.take (k*2)=cs.take (k*2):=by
  rw[hROW,Array.toList_append,Array.toList_append,List.append_assoc,List.take_append_of_le_length (by simp;omega),List.take_of_length_le (by simp;omega)]
 obtain ⟨W1,hW1⟩:∃ W1,W1=w.drew.alloc (.cells ROW 79):=⟨_,rfl⟩;rw[←hW1]at hrz
 have hN:∀ j,j<(n+1)*2→(W1.cell? ⟨w.heap.size,j,none⟩).isSome=true:=fun j hj=>by
  rw[hW1,World.cell?_alloc_at (w:=w.drew) ROW _ w.heap.size j rfl,Array.getElem?_eq_getElem (by omega)];rfl
 have hNf:∀ j,W1.frozen? ⟨w.heap.size,j,none⟩=false:=fun j=>by rw[hW1];exact World.frozen?_alloc_at (w:=w.drew) ROW _ w.heap.size j rfl
 have hOb:∀ j v,w.cell? ⟨g,j,none⟩=some v→W1.cell? ⟨g,j,none⟩=some v:=fun j v h=>by rw[hW1,World.cell?_alloc_past (w:=w.drew) _ g j hbw];exact h
 have hOv:∀ j v,w.cell? ⟨vb,j,none⟩=some v→W1.cell? ⟨vb,j,none⟩=some v:=fun j v h=>by rw[hW1,World.cell?_alloc_past (w:=w.drew) _ vb j hvw];exact h
 have hcpA:∀ (W:World),(∀ x,W.cell? x=W1.cell? x)→(∀ x,W.frozen? x=W1.frozen? x)→∀ ty dc,(Builtin.copy_ #[40,40] ty #[.slice (some ⟨w.heap.size,k*2,none⟩) (n+1-k) dc,.slice (some ⟨vb,0,none⟩) 1 1]).run Tryz.prog W=.ok (goInt (Nat.min 1 (n+1-k))) (W.setCells w.heap.size (k*2) [.string x,.string y]):=fun W hWc hWf ty dc =>
  xN W _ _ ty 79 w.heap.size (k*2) (n+1-k) dc ⟨vb,0,none⟩ 1 1 2 [.string x,.string y] Tryz.underlying40 hsz (by show 2=min 1 (n+1-k)*2;omega)
   (fun j v hj=>by rw[Addr.add_lit,Nat.zero_add,hWc];exact hOv _ v (hvs j v hj))
   (fun j hj=>by have hj2:j<2:=hj;rw[hWc];exact hN _ (by omega)) (fun j hj=>by rw[hWf];exact hNf _) (by simp[Value.oneCell'])
 have hbN:g≠w.heap.size:=by omega
 have hdl:(cs.drop (k*2)).length=n*2-k*2:=by rw[List.length_drop,hcl]
 have hcpB:∀ (W:World),(∀ p,W.cell? p=(W1.setCells w.heap.size (k*2) [.string x,.string y]).cell? p)→(∀ p,W.frozen? p=(W1.setCells w.heap.size (k*2) [.string x,.string y]).frozen? p)→∀ ty dc sc,(Builtin.copy_ #[40,40] ty #[.slice (some ⟨w.heap.size,(k+1)*2,none⟩) (n-k) dc,.slice (some ⟨g,k*2,none⟩) (n-k) sc]).run Tryz.prog W=.ok (goInt (Nat.min (n-k) (n-k))) (W.setCells w.heap.size ((k+1)*2) (cs.drop (k*2))):=fun W hWc hWf ty dc sc =>
  xN W _ _ ty 79 w.heap.size ((k+1)*2) (n-k) dc ⟨g,k*2,none⟩ (n-k) sc 2 (cs.drop (k*2)) Tryz.underlying40 hsz (by show _=min (n-k) (n-k)*2;omega)
   (fun j v hj=>by
    rw[Addr.add_lit,hWc,World.cell?_setCells_out _ _ _ _ _ (fun h _=>absurd h hbN)]
    exact hOb _ v (hcs (k*2+j) v (by rwa [List.getElem?_drop]at hj)))
   (fun j hj=>by rw[hWc];exact isSome_setCells _ _ _ _ (fun t ht=>hN _ (by have ht2:t<2:=ht;omega)) _ (hN _ (by omega)))
   (fun j hj=>by rw[hWf,World.frozen?_setCells];exact hNf _) (fun v hv=>h1c v (List.mem_of_mem_drop hv))
 subst hW1;have hcpA':=hcpA ((w.alloc (.cells ROW 79)).drew) (fun x=>rfl) (fun x=>rfl)
 have hcpB':=hcpB (((w.alloc (.cells ROW 79)).drew.setCells w.heap.size (k*2) [.string x,.string y]).drew) (fun x=>rfl) (fun x=>rfl)
 have hw1:IntKind.i64.wrap ((k:Int)+1)=(k:Int)+1:=by rw[IntKind.wrap_i64];omega
 have hb1:(0:Int)≤(k:Int)+1:=by omega
 have hin:k≤n:=by omega
 have htn:((k:Int)+1).toNat=k+1:=by omega
 have hb3:(k:Int)≤(n:Int):=by omega
 have hz2':¬ ((k:Int)=(n:Int)):=by omega
 have hz3:(c:Int)<(n:Int)+1:=by omega
 have hG63:G≤9223372036854775807:=by unfold maxLen at hGm;omega
 have hGi:¬ (G=k):=by omega
 have hGim:¬ (G=k+1):=by omega
 have hci:¬ (c=k):=by omega
 have mixed:Tryz.prog.follows .mixedOrders=true:=by kernel_rfl
 clear hkk hik hold hROW hcpA hcpB hN hNf hOb hOv hcs hvs h1c h hx hgh
 go_enter Tryz.func92,Tryz.ntmps92
 go_wp2_with (first
  | (at_builtin;refine Lib.wpList_append_run _ rfl _ _ _ _ rfl _ _ rfl rfl _ _ (hrz _) ?_)
  | (at_builtin;refine wpList_copy_runI _ rfl _ _ 40 40 rfl _ _ rfl rfl (hcpA' _ _) ?_)
  | (at_builtin;refine wpList_copy_runI _ rfl _ _ 40 40 rfl _ _ rfl rfl (hcpB' _ _ _) ?_))
 go_region_law_o (refine step_copy_runI rfl _ _ 40 40 rfl (.slice (some ⟨w.heap.size,(k+1)*2,none⟩) (n-k) (G-(k+1))) (.slice (some ⟨g,k*2,none⟩) (n-k) (c-k)) (by simp[Act.eval,Act.put]) (by simp[Act.eval,Act.put]) (hcpB' 3 (G-(k+1)) (c-k)) ?_)
 go_wp2;go_ret;exact ⟨G,ROW,hGn,hGm,hRs,hRt,rfl,rfl⟩
set_option maxHeartbeats 1000000 in
/-- An attribute put behind all of a row. -/
theorem Jx (B n vb:Nat)(v:Value)(cs:List Value)(x y:ByteArray)(w:World)(h:w.ownsRow B 79 2 v n cs)(hx:w.heap[vb]?=some (.cells #[.string x,.string y] 79 (0,0)))(hbig:n≤1048576)(hB:B≤w.heap.size) :
 Calls Tryz.prog 92 #[v,.int .i64 (n:Int),.slice (some ⟨vb,0,none⟩) 1 1] w fun e w'=>∃ v',e=.returned v'∧w'.ownsRow B 79 2 v' (n+1) (cs++[.string x,.string y])∧w.grownBy w' v.ownBlock∧(v'.ownBlock=v.ownBlock∨v'.ownBlock=some w.heap.size):=by
 obtain ⟨i0,hi,hz0,hz1,hz2⟩:=info_parts attrInfo
 obtain ⟨a,c,hv,hnc⟩:∃ a c,v=.slice a n c∧n≤c:=by
  rcases h.2 with ⟨rfl,rfl⟩|⟨g,cap,cur,rfl,_,_,hnc,_⟩
  · exact ⟨none,0,rfl,nR9 _⟩
  · exact ⟨_,cap,rfl,hnc⟩
 subst hv;have HO:Hid _:=h
 have HV:Hid (∀ j u,([.string x,.string y]:List Value)[j]?=some u→w.cell? ((⟨vb,0,none⟩:Addr).add j)=some u):=fun j u hj=>by
  rw[Addr.add_lit,Nat.zero_add,cH9 hx]
  match j,hj with
  | 0,hj|1,hj=>simp at hj;subst hj;rfl
  | j+2,hj=>simp at hj
 clear h hx
 by_cases hck:c=n
 · subst hck
   go_enter Tryz.func92,Tryz.ntmps92
   go_wp2_with (at_builtin;refine wpList_append_own_at _ rfl _ _ 40 rfl B 79 i0 _ 2 32 Tryz.underlying40 hi hz0 hz1 hz2 rfl (by decide) _ _ _ rfl HO.out ⟨vb,0,none⟩ 1 1 [.string x,.string y] rfl rfl HV.out (by simp[Value.oneCell']) (by unfold maxLen;omega) (by omega) hB ?_)
   intro v' w' h1 h2 _ h4;go_wp2_with fail
   go_returns
   exact ⟨v',rfl,h1,h2,h4⟩
 · go_enter Tryz.func92, Tryz.ntmps92
   go_wp2_with (at_builtin;refine wpList_append_own_at _ rfl _ _ 40 rfl B 79 i0 _ 2 32 Tryz.underlying40 hi hz0 hz1 hz2 rfl (by decide) _ _ _ rfl HO.out ⟨vb,0,none⟩ 1 1 [.string x,.string y] rfl rfl HV.out (by simp[Value.oneCell']) (by unfold maxLen;omega) (by omega) hB ?_)
   intro v' w' h1 h2 _ h4;go_wp2_with fail
   go_returns
   exact ⟨v',rfl,h1,h2,h4⟩
theorem Jy (B vb k:Nat)(v:Value)(l:List (ByteArray × ByteArray))(x y:ByteArray)(w:World)(h:js B w v l)(hx:w.heap[vb]?=some (.cells #[.string x,.string y] 79 (0,0)))(hk:k≤l.length)(hbig:l.length≤1048576)(hB:B≤w.heap.size)(hne:v.ownBlock≠some vb) :
 Calls Tryz.prog 92 #[v,.int .i64 (k:Int),.slice (some ⟨vb,0,none⟩) 1 1] w fun e w'=>∃ v',e=.returned v'∧js B w' v' (l.take k++(x,y)::l.drop k)∧(∀ b,v'.ownBlock=some b→v.ownBlock=some b∨w.heap.size≤b)∧Below 0 w w'∧(∀ b,b<w.heap.size→v.ownBlock≠some b→w'.heap[b]?=w.heap[b]?):=by
 have cells_take:∀ (l:List (ByteArray × ByteArray)) (k:Nat),attrCells (l.take k)=(attrCells l).take (k*2)∧attrCells (l.drop k)=(attrCells l).drop (k*2):=by
  intro l
  induction l with
  | nil=>intro k;simp[attrCells]
  | cons a l ih =>
    intro k;cases k with
    | zero=>simp[attrCells]
    | succ k =>
      obtain ⟨e1,e2⟩:=ih k;rw[List.take_succ_cons,List.drop_succ_cons,show (k+1)*2=k*2+1+1 by omega,attrCells,attrCells,e1,e2]
      exact ⟨rfl,rfl⟩
 have cells_app:∀ (a b:List (ByteArray × ByteArray)),attrCells (a++b)=attrCells a++attrCells b:=by
  intro a
  induction a with
  | nil=>intro b;rfl
  | cons p a ih=>intro b;rw[List.cons_append,attrCells,attrCells,ih];rfl
 have fin:∀ e w',YY B 79 2 v l.length (attrCells l) k 1 [.string x,.string y] w e w'→∃ v',e=.returned v'∧js B w' v' (l.take k++(x,y)::l.drop k)∧(∀ b,v'.ownBlock=some b→v.ownBlock=some b∨w.heap.size≤b)∧Below 0 w w'∧(∀ b,b<w.heap.size→v.ownBlock≠some b→w'.heap[b]?=w.heap[b]?):=by
  rintro e w' ⟨v',h1,h2,h3,h4,h5⟩;refine ⟨v',h1,?_,h3,h4,h5⟩;unfold js;have e1:(l.take k++(x,y)::l.drop k).length=l.length+1:=by simp;omega
  have e2:attrCells (l.take k++(x,y)::l.drop k)=(attrCells l).take (k*2)++([.string x,.string y]++(attrCells l).drop (k*2)):=by
   rw[cells_app,(cells_take l k).1,attrCells,(cells_take l k).2];rfl
  rw[e1,e2];exact h2
 have hcl:=zt l
 rcases Nat.lt_or_ge k l.length with hkl|hkl
 · obtain ⟨g, c, rfl, hnc, hcm⟩ := yT h (by omega)
   have hgv:vb≠g:=fun e=>hne (by rw[e];rfl)
   rcases Nat.lt_or_ge c (l.length+1) with hroom|hroom
   · refine (YD B g l.length c k vb (attrCells l) x y w h (zW l) hx hkl hroom hbig).mono ?_;rintro e w' ⟨G,ROW,h1,h2,h3,h4,rfl,rfl⟩;exact fin _ _ (Jw hcl hB (by omega) rfl h1 h2 h3 h4)
   · refine (ZM B g l.length c k vb (attrCells l) x y w h (zW l) hx hkl hroom hgv).mono ?_;rintro e w' ⟨rfl,rfl⟩;exact fin _ _ (Ya (q:=1) (r:=0) h hroom (by omega) rfl)
 · have hkn : k = l.length := by omega
   subst hkn;refine (Jx B l.length vb v (attrCells l) x y w h hx hbig hB).mono ?_;rintro e w' ⟨v',rfl,h1,h2,h3⟩;refine fin _ _ ⟨v',rfl,?_,fun b hb=>?_,?_,fun b hb hvb=>h2.block b hb (fun e=>hvb e.symm)⟩
   · rw[←hcl, List.take_length, List.drop_length, List.append_nil];exact h1
   · rcases h3 with e | e
     · exact Or.inl (e ▸ hb)
     · rw[e]at hb;injection hb with hb;exact Or.inr (by omega)
   · exact (Below.refl 0 w).grown h2 (nZ9 _) (fun _ _=>nZ9 _)
theorem qaa {B:Nat}{e:TypeId}{g n m cap size:Nat}{w:World}{xs:List Value}(h:w.ownsRow B e size (.slice (some ⟨g,0,none⟩) n cap) n xs)(hm:m≤n):w.ownsRow B e size (.slice (some ⟨g,0,none⟩) m cap) m (xs.take (m*size)):=by
 obtain ⟨h1,h2⟩:=h;have hms:m*size≤n*size:=Nat.mul_le_mul_right _ hm
 rcases h2 with ⟨h',_⟩|⟨g',cap',cur,h',hb,hg,hnc,hcm,hcs,ht⟩
 · simp at h'
 · injection h' with h3 _ h4
   injection h3 with h3
   injection h3 with h3 _ _
   subst h3 h4;refine ⟨by rw[List.length_take,h1];omega,Or.inr ⟨g,cap,cur,rfl,hb,hg,by omega,hcm,hcs,?_⟩⟩
   rw[←ht,List.take_take]
   congr 1
   omega
theorem XQ {P:Program}(w:World)(t e ty:TypeId)(z:Value)(zs:List Value)(ht:P.underlying t=some (.slice e))(hv:∀ w,(zeroValue e).run P w=.ok z w)(b o n c:Nat)(hn:0<n)(hz:(Builtin.zeroCells z.cells n).toList=zs)(h1:∀ u∈zs,u.oneCell'=true)
 (hc:∀ j,j<zs.length→(w.cell? ⟨b,o+j,none⟩).isSome=true) (hf:∀ j,j<zs.length→w.frozen? ⟨b,o+j,none⟩=false) :
 (Builtin.clear_ #[t] ty #[.slice (some ⟨b,o,none⟩) n c]).run P w=.ok (.tuple #[]) (w.setCells b o zs):=by
 have hst:=run_storeCells_cells (P:=P) b o zs 0 w (by simpa using hc) (by simpa using hf) h1
 simp only[Nat.add_zero]at hst
 obtain ⟨m,rfl⟩:∃ m,n=m+1:=⟨n-1,by omega⟩
 simp[Builtin.clear_,run_underlying ht,hv,hz,hst]
set_option maxHeartbeats 1000000 in
/-- slices.Delete of one attribute. -/
theorem ZK (B g n c k:Nat)(cs:List Value)(w:World)(h:w.ownsRow B 79 2 (.slice (some ⟨g,0,none⟩) n c) n cs)(h1c:∀ v∈cs,v.oneCell'=true)(hk:k<n) :
 Calls Tryz.prog 93 #[.slice (some ⟨g,0,none⟩) n c,.int .i64 (k:Int),.int .i64 ((k:Int)+1)] w fun e w'=>e=.returned (.slice (some ⟨g,0,none⟩) (n-1) c)∧w'=(w.drew.setCells g (k*2) (cs.drop ((k+1)*2))).setCells g ((n-1)*2) [.string ⟨#[]⟩,.string ⟨#[]⟩]:=by
 obtain ⟨cur,hgh,hgs,hnc,hcm,_⟩:=jr h;obtain ⟨i0,hi,hz0,hz1,hz2⟩:=info_parts attrInfo;have hcl:cs.length=n*2:=h.1;unfold maxLen at hcm
 have hcs:∀ j v,cs[j]?=some v→w.cell? ⟨g,j,none⟩=some v:=fun j v hj=>by
  have:=qy hj;rw[World.ownsRow.cellAt h j (by omega)]
  exact hj
 obtain ⟨news,hnews⟩:∃ news,news=cs.drop ((k+1)*2):=⟨_,rfl⟩;have hlen:news.length=(n-(k+1))*2:=by rw[hnews,List.length_drop,hcl];omega
 obtain ⟨A,hA,hsrc⟩:∃ A:Addr,(if c=k+1 then some (⟨g,0,none⟩:Addr) else some ⟨g,(k+1)*2,none⟩)=some A∧Hid (∀ t u,news[t]?=some u→w.drew.cell? (A.add t)=some u):=by
  by_cases h:c=k+1
  · refine ⟨⟨g, 0, none⟩, by simp[h], fun t u hu => ?_⟩
    have:=qy hu;omega
  · refine ⟨⟨g, (k + 1) * 2, none⟩, by simp[h], fun t u hu => ?_⟩
    rw[Addr.add_lit];rw[hnews,List.getElem?_drop]at hu
    exact hcs _ u hu
 have s1:Hid (news.length=(n-(k+1))*2):=hlen;have s2:Hid (∀ u∈news,u.oneCell'=true):=fun u hu=>h1c u (by rw[hnews]at hu;exact List.mem_of_mem_drop hu)
 have s3:Hid (∀ t,t<news.length→(w.drew.cell? ⟨g,0+k*2+t,none⟩).isSome=true∧w.drew.frozen? ⟨g,0+k*2+t,none⟩=false):=by
  intro t ht;exact ⟨jK (w:=w.drew) hgh (by omega),fH9 (w:=w.drew) hgh _⟩
 obtain ⟨W1,hW1⟩:∃ W1,W1=w.drew.setCells g (0+k*2) news:=⟨_,rfl⟩
 have hcl2:∀ ty dc,(Builtin.clear_ #[40] ty #[.slice (some ⟨g,(k+(n-(k+1)))*2,none⟩) (n-(k+(n-(k+1)))) dc]).run Tryz.prog W1=.ok (.tuple #[]) (W1.setCells g ((k+(n-(k+1)))*2) [.string ⟨#[]⟩,.string ⟨#[]⟩]):=fun ty dc=>by
  have hn1:n-(k+(n-(k+1)))=1:=by omega
  rw[hn1]
  exact XQ W1 _ 79 ty _ [.string ⟨#[]⟩,.string ⟨#[]⟩] Tryz.underlying40 Tryz.zeroValue79 g _ 1 dc (by omega) (by simp[Builtin.zeroCells,Value.cells];rfl) (by simp[Value.oneCell'])
   (fun j hj=>by have hj2:j<2:=hj;rw[hW1];exact isSome_setCells g _ _ _ (fun j hj=>jK (w:=w.drew) hgh (by omega)) _ (jK (w:=w.drew) hgh (by omega)))
   (fun j hj=>by rw[hW1,World.frozen?_setCells];exact fH9 (w:=w.drew) hgh _)
 have hW:Hid (W1=w.drew.setCells g (0+k*2) news):=hW1;have hN:Hid (news=cs.drop ((k+1)*2)):=hnews;have hic:k≤c:=by omega
 have hjc:k+1≤c:=by omega
 have hw1:(0:Int)≤(k:Int)+1:=by omega
 have hkn:(k:Int)+1≤(n:Int):=by omega
 have htn:((k:Int)+1).toNat=k+1:=by omega
 have hke:¬ ((k:Int)=(k:Int)+1):=by omega
 have mixed:Tryz.prog.follows .mixedOrders=true:=by kernel_rfl
 clear hW1 h hgh hnews hlen hcs h1c
 go_enter Tryz.func93,Tryz.ntmps93
 go_wp2_with fail
 go_region_law_o (refine step_append_room rfl (.tmp 22) (.tmp 25) 40 rfl 79 i0 2 Tryz.underlying40 hi hz1 g 0 k c (by simp[Act.eval,Act.put]) A (n-(k+1)) (c-(k+1)) news (by simp[Act.eval,Act.put]) s1.out hsrc.out s2.out (by omega) s3.out ?_;rw[←hW.out])
 go_wp2;go_ret;have e1:n-1=k+(n-(k+1)):=by omega
 rw[e1];exact ⟨rfl,by rw[hW.out,hN.out,Nat.zero_add]⟩
theorem attr_take:∀ (l:List (ByteArray × ByteArray))(k:Nat),attrCells (l.take k)=(attrCells l).take (k*2)∧attrCells (l.drop k)=(attrCells l).drop (k*2):=by
 intro l
 induction l with
 | nil=>intro k;simp[attrCells]
 | cons a l ih =>
   intro k;cases k with
   | zero=>simp[attrCells]
   | succ k =>
     obtain ⟨e1,e2⟩:=ih k;rw[List.take_succ_cons,List.drop_succ_cons,show (k+1)*2=k*2+1+1 by omega,attrCells,attrCells,e1,e2]
     exact ⟨rfl,rfl⟩
theorem attr_app:∀ (a b:List (ByteArray × ByteArray)),attrCells (a++b)=attrCells a++attrCells b:=by
 intro a
 induction a with
 | nil=>intro b;rfl
 | cons p a ih=>intro b;rw[List.cons_append,attrCells,attrCells,ih];rfl
theorem Jh (B k:Nat)(v:Value)(l:List (ByteArray × ByteArray))(w:World)(h:js B w v l)(hk:k<l.length) :
 Calls Tryz.prog 93 #[v,.int .i64 (k:Int),.int .i64 ((k:Int)+1)] w fun e w'=>∃ v',e=.returned v'∧js B w' v' (l.take k++l.drop (k+1))∧v'.ownBlock=v.ownBlock∧Below 0 w w'∧(∀ b,v.ownBlock≠some b→w'.heap[b]?=w.heap[b]?):=by
 obtain ⟨g,c,rfl,hnc,hcm⟩:=yT h (by omega)
 have hcl:=zt l;refine (ZK B g l.length c k (attrCells l) w h (zW l) hk).mono ?_;rintro e w' ⟨rfl,rfl⟩;have hdr:Below w.heap.size w w.drew:=⟨rfl,rfl,rfl,nR9 _,fun _ _=>rfl⟩
 have h1:=zT ((attrCells l).drop ((k+1)*2)) (k*2) _ _ (qH h hdr)
 have e1:QP (attrCells l) (k*2) ((attrCells l).drop ((k+1)*2))=(attrCells l).take (k*2)++((attrCells l).drop ((k+1)*2)++(attrCells l).drop ((l.length-1)*2)):=by
  have hA:((attrCells l).take (k*2)).length=k*2:=by rw[List.length_take];omega
  have:=setL_mid ((attrCells l).drop ((k+1)*2)) ((attrCells l).take (k*2)) (((attrCells l).drop (k*2)).take ((l.length-1-k)*2)) ((attrCells l).drop ((l.length-1)*2)) (by rw[List.length_take,List.length_drop,List.length_drop];omega)
  rw[hA]at this
  have hs:((attrCells l).drop (k*2)).take ((l.length-1-k)*2)++(attrCells l).drop ((l.length-1)*2)=(attrCells l).drop (k*2):=by
   rw[show (l.length-1)*2=k*2+(l.length-1-k)*2 by omega,←List.drop_drop,List.take_append_drop]
  rw[hs,List.take_append_drop]at this
  exact this
 rw[e1]at h1
 have h2:=zT [.string ⟨#[]⟩,.string ⟨#[]⟩] ((l.length-1)*2) _ _ h1;have hP:((attrCells l).take (k*2)++(attrCells l).drop ((k+1)*2)).length=(l.length-1)*2:=by rw[List.length_append,List.length_take,List.length_drop];omega
 have e2:QP ((attrCells l).take (k*2)++((attrCells l).drop ((k+1)*2)++(attrCells l).drop ((l.length-1)*2))) ((l.length-1)*2) [.string ⟨#[]⟩,.string ⟨#[]⟩]=((attrCells l).take (k*2)++(attrCells l).drop ((k+1)*2))++[.string ⟨#[]⟩,.string ⟨#[]⟩]:=by
  have:=setL_mid [.string ⟨#[]⟩,.string ⟨#[]⟩] ((attrCells l).take (k*2)++(attrCells l).drop ((k+1)*2)) ((attrCells l).drop ((l.length-1)*2)) [] (by rw[List.length_drop];show _=2;omega)
  rw[List.append_nil,List.append_nil,hP,List.append_assoc]at this
  rw[this,List.append_assoc]
 rw[e2]at h2
 have h3:=qaa (m:=l.length-1) h2 (by omega)
 rw[List.take_append_of_le_length (by omega),List.take_of_length_le (by omega)]at h3
 refine ⟨_,rfl,?_,rfl,?_,fun b hb=>?_⟩
 · unfold js;have e3:(l.take k++l.drop (k+1)).length=l.length-1:=by simp;omega
   rw[e3,attr_app,(attr_take l k).1,(attr_take l (k+1)).2];exact h3
 · exact ((hdr.mono (nZ9 _)).trans (zv _ _ _).1).trans (zv _ _ _).1
 · have hne : b ≠ g := fun e => hb (by rw[e];rfl)
   rw[yh _ _ _ hne,yh _ _ _ hne];rfl
end Go.Proofs.YtnppmdpmippcoaaGreatDoor
namespace Go.Proofs.YtnppmdpmippcoaaGreatDoor
open Go.ChangeShapes Go.WideShapes Go.ChangeAt Go.RowKit
set_option maxRecDepth 100000
section
attribute [local go_sem] qD
theorem zq.keepT {B:Nat}{T:Nat→Prop}{N:Nat}{w w':World}{v:Value}{ns:List Nd}{ms:List Rw}(h:zq B T N w v ns ms)(hsz:w.heap.size≤w'.heap.size)(hlow:∀ b,b<B→w'.heap[b]?=w.heap[b]?)(hT:∀ b,Tch N v ms b→w'.heap[b]?=w.heap[b]?):zq B T N w' v ns ms :=
 ⟨h.len,qF h.row fun b hb=>hT b (Or.inl hb),fun i r x hr hx=>(h.each i r x hr hx).keep (fun b hb=>hlow b (h.low b hb)) (fun hi b hb=>hT b (Or.inr ⟨i,r,hr,Or.inr ⟨hi,hb⟩⟩)) (fun b hb=>hT b (Or.inr ⟨i,r,hr,Or.inl hb⟩)),h.kids,h.attrs,h.low,Nat.le_trans h.le hsz⟩
structure PS (B:Nat) (T:Nat→Prop) (N bb d p:Nat) (w:World) (v:Value) (ms:List Rw) (ns:List Nd) (l:List Tr) (i:Nat) (vl v':Value) (ms':List Rw) (W:World):Prop where
 bench:Bx B T N bb W v' (ns++qG d (layF d) p ns.length (l.take i)) ms'
 st:qR N bb w W v v' ms ms'
 row:qY w.heap.size W vl (qB d ns.length (l.take i))
 free:∀ b,vl.ownBlock=some b→¬ Tch N v' ms' b
theorem K2 {d p:Nat}{l:List Tr}{i:Nat}{t:Tr}(ht:l[i]?=some t)(a:Nat):qG d (layF d) p a (l.take (i+1))=qG d (layF d) p a (l.take i)++layF d t p (a+cnt (d+1) (l.take i))∧qB d a (l.take (i+1))=qB d a (l.take i)++[((a+cnt (d+1) (l.take i):Nat):Int)]:=by
 have hs:l.take (i+1)=l.take i++[t]:=by
  rw[List.take_succ_eq_append_getElem (qy ht)]
  congr 2
  rw[List.getElem?_eq_getElem (qy ht)]at ht
  exact Option.some.inj ht
 rw[hs,jh,yM];simp[qG,qB]
theorem j9 {d p:Nat}{a:Nat}(ks:List Tr)(hd:∀ k∈ks,Deep d k.kids):(qG d (layF d) p a ks).length=cnt (d+1) ks:=by
 induction ks generalizing a with
 | nil=>rfl
 | cons k ks ih=>rw[qG,List.length_append,layF_length d k _ _ (hd k List.mem_cons_self),ih (fun u hu=>hd u (List.mem_cons_of_mem _ hu)),qZ d k ks]
theorem PS.step {B:Nat}{T:Nat→Prop}{N bb d p:Nat}{w:World}{v:Value}{ms:List Rw}{ns:List Nd}{l:List Tr}{i:Nat}{vl v':Value}{ms':List Rw}{W W1 W2 W3:World}{v2 v3:Value}{ms2:List Rw}{t:Tr}(h:PS B T N bb d p w v ms ns l i vl v' ms' W)(ht:l[i]?=some t)(hd:∀ k∈l,Deep d k.kids)
 (h1:Below W.heap.size W W1) (hX2:Bx B T N bb W2 v2 ((ns++qG d (layF d) p ns.length (l.take i))++layF d t p (ns++qG d (layF d) p ns.length (l.take i)).length) ms2) (hS2:qR N bb W1 W2 v' v2 ms' ms2) (hBw:B≤w.heap.size)
 (hown:W3.ownsRow w.heap.size 3 1 v3 (i+1) (qI (qB d ns.length (l.take i))++[.int .i64 ((ns++qG d (layF d) p ns.length (l.take i)).length:Int)])) (W2':World) (hb2:Below W2.heap.size W2 W2') (hg:W2'.grownBy W3 vl.ownBlock) (hat:v3.ownBlock=vl.ownBlock∨v3.ownBlock=some W2'.heap.size) :
 PS B T N bb d p w v ms ns l (i+1) v3 v2 ms2 W3:=by
 have hlen:(ns++qG d (layF d) p ns.length (l.take i)).length=ns.length+cnt (d+1) (l.take i):=by
  rw[List.length_append,j9 (l.take i) (fun k hk=>hd k (List.mem_of_mem_take hk))]
 obtain ⟨e1,e2⟩:=K2 (d:=d) (p:=p) ht ns.length;rw[hlen]at hX2 hown
 have hs0:=h.st.below.size;have hs1:=h1.size;have hs2:=hS2.below.size;have hs3:=hb2.size;have hs4:=hg.size;have hX1:=h.bench.later h1
 have notT2:∀ b,vl.ownBlock=some b→¬ Tch N v2 ms2 b:=fun b hb ht=>by
  rcases hS2.new b ht with h'|h'
  · exact h.free b hb h'
  · have:=(qY.lt h.row b hb).2;omega
 have hX2':=hX2.later hb2;have hbbl:bb<W2'.heap.size:=by have:=qA hX2.1;omega
 have hX3:Bx B T N bb W3 v2 ((ns++qG d (layF d) p ns.length (l.take i))++layF d t p (ns.length+cnt (d+1) (l.take i))) ms2:=by
  have hvb:vl.ownBlock≠some bb:=fun e=>qV (qx (qY.later h.row h1) e) (B':=0) (w:=W1) ⟨nZ9 _,_,_,hX1.1⟩ (by decide) rfl
  refine ⟨by rw[hg.block bb hbbl (fun e=>hvb e.symm)];exact hX2'.1,hX2.2.1,hX2'.2.2.keepT hg.size (fun b hb=>hg.block b (Nat.lt_of_lt_of_le hb hX2'.2.2.le) (fun e=>?_)) (fun b ht=>hg.block b (Tch.lt hX2'.2.2 ht).2 (fun e=>notT2 b e.symm ht))⟩
  have hx:=(qY.lt h.row b e.symm).1;omega
 refine ⟨?_,?_,?_,?_⟩
 · rw[e1,←List.append_assoc];exact hX3
 · have hst := h.st.trans (qR.before h1 hS2);refine ⟨hst.below.trans (((hb2.mono (nZ9 _)).grown hg (nZ9 _) (fun _ _=>nZ9 _))),fun b hb hne hT=>?_,hst.new⟩
   have hb3:b<W2.heap.size:=by omega
   rw[hg.block b (by omega) (fun e=>by have:=(qY.lt h.row b e.symm).1;omega),hb2.block b hb3]
   exact hst.keep b hb hne hT
 · unfold qY;rw[e2,zw,List.length_append,jd,List.length_take,Nat.min_eq_left (by have:=qy ht;omega)]
   exact hown
 · intro b hb hT
   rcases hat with e|e
   · exact notT2 b (e ▸ hb) hT
   · rw[e]at hb
     injection hb with hb
     have:=(Tch.lt hX2.2.2 hT).2;omega
theorem XD {d p:Nat}{l:List Tr}(a i:Nat)(hd:∀ k∈l,Deep d k.kids):(qG d (layF d) p a (l.take i)).length≤cnt (d+1) l∧∀ t,l[i]?=some t→(qG d (layF d) p a (l.take i)).length+cnt (d+1) [t]≤cnt (d+1) l:=by
 have h1:=j9 (d:=d) (p:=p) (a:=a) (l.take i) (fun k hk=>hd k (List.mem_of_mem_take hk))
 have h2:cnt (d+1) l=cnt (d+1) (l.take i)+cnt (d+1) (l.drop i):=by rw[←zG,List.take_append_drop]
 refine ⟨by omega,fun t ht=>?_⟩
 have h3:l.drop i=t::l.drop (i+1):=by
  rw[←List.getElem_cons_drop (qy ht)];rw[List.getElem?_eq_getElem (qy ht)]at ht
  rw[Option.some.inj ht]
 rw[h3,qZ d t]at h2
 omega
theorem yu {l:List Nd}{n:Nat}{x:Nd}(f:Nd→Nd)(h:l[n]?=some x):l.modify n f=l.set n (f x):=by
 refine List.ext_getElem? (fun i=>?_)
 rw[List.getElem?_modify,List.getElem?_set]
 by_cases hi:n=i
 · subst hi;have e:l[n]'(qy h)=x:=by have:=h;rw[List.getElem?_eq_getElem (qy h)]at this;exact Option.some.inj this
   simp[qy h,e]
 · simp[hi]
set_option maxHeartbeats 2000000 in
theorem xL (B:Nat)(T:Nat→Prop)(N bb d p k:Nat)(v vl:Value)(ns:List Nd)(ms:List Rw)(y:Nd)(l:List Tr)(w:World)(hX:Bx B T N bb w v ns ms)(hy:ns[p]?=some y)(hl:qw T w (d+1) vl l)(hk:k≤y.kids.length)(hN:N≤ns.length)(hc:ns.length+cnt (d+1) l≤1048576)(hkb:y.kids.length≤1048576) :
 Calls Tryz.prog 95 #[.pointer (some ⟨bb,0,none⟩),.int .i64 (p:Int),.int .i64 (k:Int),vl] w fun e w'=>e=.returned (.tuple #[])∧Did B T N bb w w' v ms (zK d ns p k l):=by
 have hdeep:∀ t∈l,Deep d t.kids:=qw.deep (d+1) hl;have HDP:Hid _:=hdeep;have HX:Hid (Bx B T N bb w v ns ms):=hX;have HTL:Hid (qw T w (d+1) vl l):=hl;obtain ⟨a,cap,rfl,hlc,hcm,h4⟩:=hl;have hpl:p<ns.length:=qy hy;have hlen:l.length≤cnt (d+1) l:=Deep.len hdeep;have hBw:B≤w.heap.size:=hX.2.2.le;have HLB:Hid _:=fun i=>XD (d:=d) (p:=p) (l:=l) ns.length i hdeep
 unfold maxLen at hcm
 clear hX hdeep;obtain ⟨i0,hi0,hz0,hz1,hz2⟩:=info_parts intInfoR
 go_enter Tryz.func95,Tryz.ntmps95
 go_wp2_with fail
 go_loopg [14,8] l.length (fun g vi vr wr=>∃ (i:Nat) (v':Value) (ms':List Rw),i+g=l.length∧vi=.int .i64 (i:Int)∧PS B T N bb d p w v ms ns l i vr v' ms' wr)
 case atStart =>
  refine ⟨0,v,ms,by omega,rfl,?_,qR.refl _ _ _ _ _,?_,?_⟩
  · simpa[qG] using HX.out
  · exact qY.nil _ _
  · intro b hb;cases hb
 case round =>
  obtain ⟨i,v',ms',hig,rfl,hP⟩:=hrel;have HP:Hid _:=hP
  by_cases hlt:i<l.length
  · have hlti : (i : Int) < (l.length : Int) := by omega
    obtain ⟨t,ht⟩:∃ t,l[i]?=some t:=⟨l[i],by simp[hlt]⟩
    have hTr:qw T wr (d+1) (.slice a l.length cap) l:=qw.carry (fun b hb=>⟨hb,HP.out.st.low HX.out.2.2 HX.out.2.1 b (HX.out.2.2.low b hb)⟩) (d+1) HTL.out
    obtain ⟨_,_,hsl,_,_,h5⟩:=hTr
    injection hsl with hsl _ hsc
    subst hsl hsc;obtain ⟨b,o,rfl,hTb,hcc⟩:=h5 (by intro e;subst e;simp at hlt)
    obtain ⟨va,vk,c0,c1,c2,c3,hat,hkt⟩:=hcc i t ht;obtain ⟨aa,ac,rfl⟩:=hat.shape;obtain ⟨ka,kc,rfl,_,_⟩:=qw.shape d hkt;obtain ⟨L,hL⟩:∃ L,L=ns++qG d (layF d) p ns.length (l.take i):=⟨_,rfl⟩;have hLl:L.length=ns.length+(qG d (layF d) p ns.length (l.take i)).length:=by rw[hL,List.length_append]
    have hLb:=(HLB.out i).2 t ht;have hbx:Bx B T N bb wr v' L ms':=by rw[hL];exact HP.out.bench
    have hbu:L.length+cnt (d+1) [t]≤1048576:=by omega
    have hNL:N≤L.length:=by omega
    have HLY:Hid (∀ W,Below wr.heap.size wr W→Calls Tryz.prog 97 #[.pointer (some ⟨bb,0,none⟩),.agg #[.bool t.text,.string t.s,.slice aa t.attrs.length ac,.slice ka t.kids.length kc],.int .i64 (p:Int)] W fun e w'=>e=.returned (.int .i64 (L.length:Int))∧∃ v2 ms2,Bx B T N bb w' v2 (L++layF d t p L.length) ms2∧qR N bb W w' v' v2 ms' ms2):=fun W h =>
     blay_any d B T N bb _ _ t p v' L ms' W (hat.later h) (qw.later h d hkt) (hbx.later h) hNL hbu
    have hbal:Below wr.heap.size wr (wr.alloc (.cells #[.bool t.text,.string t.s,.slice aa t.attrs.length ac,.slice ka t.kids.length kc] 56)):=Below.alloc1 wr _;have hil:i≤1048576:=by omega
    have HRW:Hid (∀ W w2 v2 ms2,Below wr.heap.size wr W→qR N bb W w2 v' v2 ms' ms2→w2.ownsRow w.heap.size 3 1 u8 i (qI (qB d ns.length (l.take i)))):=by
     intro W w2 v2 ms2 h1 h2;have hr:=HP.out.row;have hsl:(qB d ns.length (l.take i)).length=i:=by rw[jd,List.length_take,Nat.min_eq_left (by omega)]
     unfold qY at hr
     rw[hsl]at hr
     refine qF (qH hr h1) (fun x hx=>?_)
     have hlt:=(qY.lt HP.out.row x hx).2;refine h2.keep x (by have:=h1.size;omega) (fun e=>?_) (HP.out.free x hx)
     subst e;exact qV (qx HP.out.row hx) (B':=0) (w:=wr) ⟨nZ9 _,_,_,hbx.1⟩ (by decide) rfl
    have hsw:w.heap.size≤wr.heap.size:=HP.out.st.below.size
    have HPS:Hid (∀ W1 W2 W3 v2 v3 ms2 W2',Below wr.heap.size wr W1→Bx B T N bb W2 v2 (L++layF d t p L.length) ms2→qR N bb W1 W2 v' v2 ms' ms2→W3.ownsRow w.heap.size 3 1 v3 (i+1) (qI (qB d ns.length (l.take i))++[.int .i64 (L.length:Int)])→Below W2.heap.size W2 W2'→W2'.grownBy W3 u8.ownBlock→(v3.ownBlock=u8.ownBlock∨v3.ownBlock=some W2'.heap.size)→PS B T N bb d p w v ms ns l (i+1) v3 v2 ms2 W3):=by
     intro W1 W2 W3 v2 v3 ms2 W2' g1 g2 g3 g4 g5 g6 g7;rw[hL]at g2 g4
     exact HP.out.step ht HDP.out g1 g2 g3 hBw g4 W2' g5 g6 g7
    clear hL hLl hLb hbx hcc h4 h5 hat hkt hP ht HLB;go_wp2_with fail;refine (Calls.mono (HLY.out _ hbal) ?_);rintro e w2 ⟨rfl,v2,ms2,hX2,hS2⟩;have hs2:=hS2.below.size;have hs1:=hbal.size;have HR2:Hid _:=HRW.out _ w2 v2 ms2 hbal hS2
    have HPX:Hid (∀ W3 v3,W3.ownsRow w.heap.size 3 1 v3 (i+1) (qI (qB d ns.length (l.take i))++[.int .i64 (L.length:Int)])→(w2.alloc (.cells #[.int .i64 (L.length:Int)] 3)).grownBy W3 u8.ownBlock→(v3.ownBlock=u8.ownBlock∨v3.ownBlock=some (w2.alloc (.cells #[.int .i64 (L.length:Int)] 3)).heap.size)→PS B T N bb d p w v ms ns l (i+1) v3 v2 ms2 W3):=fun W3 v3 g1 g2 g3 =>
     HPS.out _ w2 W3 v2 v3 ms2 _ hbal hX2 hS2 g1 (Below.alloc1 w2 _) g2 g3
    have hwle:w.heap.size≤(w2.alloc (.cells #[.int .i64 (L.length:Int)] 3)).heap.size:=by simp;omega
    clear hX2 hS2 HPS HRW HLY;go_wp2_with (at_builtin;refine wpList_append_own_at _ rfl _ _ 41 rfl w.heap.size 3 i0 _ 1 8 Tryz.underlying41 hi0 hz0 hz1 hz2 rfl (by decide) _ _ _ rfl (World.ownsRow.alloc HR2.out _) ⟨w2.heap.size,0,none⟩ 1 1 [.int .i64 (L.length:Int)] rfl rfl (QA w2 _ _) (by simp[Value.oneCell']) (by unfold maxLen;omega) (by omega) hwle ?_)
    intro v3 w3 g1 g2 _ g4;have HN:Hid _:=HPX.out w3 v3 g1 g2 (by rw[World.size_alloc];exact g4)
    obtain ⟨a3,n3,c3',rfl⟩:=qN g1;clear g1 g2 g4 HPX;go_wp2_with fail
    go_roundg (l.length-(i+1))
    case measure => omega
    case rel => exact ⟨i+1,v2,ms2,by omega,by go_num,HN.out⟩
  · have hlti : ¬ (i : Int) < (l.length : Int) := by omega
    have hieq:i=l.length:=by omega
    subst hieq;have htl:l.take l.length=l:=List.take_length;have hb0:=HP.out.bench;have hr0:=HP.out.row;rw[htl]at hb0 hr0
    obtain ⟨L,hL⟩:∃ L,L=ns++qG d (layF d) p ns.length l:=⟨_,rfl⟩;rw[←hL]at hb0
    have hLy:L[p]?=some y:=by rw[hL,List.getElem?_append_left hpl];exact hy
    obtain ⟨r,hr,hR⟩:=hb0.2.2.get hLy;obtain ⟨g,cap2,rfl,_,hcm2,hgB,hgl,_,_,_,_,m4,hfz⟩:=hb0.2.2.at hr
    have hLb:=(HLB.out l.length).1;rw[htl]at hLb
    have hLl:L.length=ns.length+(qG d (layF d) p ns.length l).length:=by rw[hL,List.length_append]
    have hpL:(p:Int)<(L.length:Int):=by omega
    have hsl:(qB d ns.length l).length=l.length:=jd d l _;have HI:Hid _:=Xw B w.heap.size r.vk u8 y.kids (qB d ns.length l) k wr hR.kids hr0 hk hkb (by omega) hb0.2.2.le (fun b hb hu=>HP.out.free b hu (Or.inr ⟨p,r,hr,Or.inl hb⟩))
    have hgq:r.vk.ownBlock≠some g:=fun e=>qV (qx hR.kids e) (qx hb0.2.2.row rfl) (by decide) rfl
    have hput:zK d ns p k l=L.set p { y with kids:=y.kids.take k++(qB d ns.length l++y.kids.drop k) }:=by
     unfold zK;rw[←hL];exact yu (fun y=>{ y with kids:=y.kids.take k++(qB d ns.length l++y.kids.drop k) }) hLy
    have HD:Hid (∀ (w6:World) (v6:Value),qY B w6 v6 (y.kids.take k++(qB d ns.length l++y.kids.drop k))→(∀ b,v6.ownBlock=some b→r.vk.ownBlock=some b∨wr.heap.size≤b)→Below 0 wr w6→(∀ b,b<wr.heap.size→r.vk.ownBlock≠some b→w6.heap[b]?=wr.heap[b]?) →
     Did B T N bb w (w6.setCell ⟨g,p*5+4,none⟩ v6) v ms (zK d ns p k l)∧(∃ u,w6.cell? ⟨g,p*5+4,none⟩=some u)∧w6.frozen? ⟨g,p*5+4,none⟩=false):=by
     intro w6 v6 g1 g2 g3 g4;obtain ⟨p1,p2⟩:=qae hb0 hr hLy g1 g3 g4 g2;have hg6:w6.heap[g]?=wr.heap[g]?:=g4 g hgl hgq;rw[hput];exact ⟨⟨_,_,p1,HP.out.st.trans p2⟩,⟨_,(World.cell?_of_block (a:=⟨g,p*5+4,none⟩) hg6).trans m4⟩,by have:=hfz (p*5+4);simpa[World.frozen?,hg6] using this⟩
    have b0:wr.cell? ⟨bb,0,none⟩=some (.slice (some ⟨g,0,none⟩) L.length cap2):=by rw[cH9 hb0.1];rfl
    obtain ⟨ka,kc,hvk,_,_⟩:=hR.kids.shape;obtain ⟨ua,uc,hu8,_,_⟩:=hr0.shape;rw[hsl]at hu8
    subst hu8;rw[hvk]at m4 HI HD
    unfold maxLen at hcm2
    clear hP HP hb0 hr0 hLy hr hR hput htl HLB hL hLl hLb HX HTL h4 hy HDP hfz hgq hvk hsl;go_wp2_with fail;refine (Calls.mono HI.out ?_);rintro e w6 ⟨v6,rfl,g1,g2,g3,g4⟩;obtain ⟨hDD,⟨u6,z6⟩,f6⟩:=HD.out w6 v6 g1 g2 g3 g4;have HDX:Hid _:=hDD;obtain ⟨a6,c6,rfl,_,_⟩:=g1.shape;clear hDD g1 g2 g3 g4 HD HI
    generalize (y.kids.take k++(qB d ns.length l++y.kids.drop k)).length=m6 at *
    go_wp2_with fail
    go_returns
    exact ⟨rfl,HDX.out⟩
end
section
attribute [local go_sem] qD
theorem Did.before {B:Nat}{T:Nat→Prop}{N bb:Nat}{w w' w'':World}{v:Value}{ms:List Rw}{ns:List Nd}(hb:Below w.heap.size w w')(h:Did B T N bb w' w'' v ms ns):Did B T N bb w w'' v ms ns:=by
 obtain ⟨v',ms',h1,h2⟩:=h;exact ⟨v',ms',h1,qR.before hb h2⟩
set_option maxHeartbeats 1000000 in
theorem YL (B:Nat)(T:Nat→Prop)(N bb d n:Nat)(v:Value)(ns:List Nd)(ms:List Rw)(x:Nd)(o:Opn)(ca:Option Addr)(cc:Nat)(w:World)(hX:Bx B T N bb w v ns ms)(ho:o.target=(n:Int))(hx:ns[n]?=some x)(hl:qw T w (d+1) (.slice ca o.content.length cc) o.content)(hN:N≤ns.length)(hc:ns.length+cnt (d+1) o.content≤1048576)(hkb:x.kids.length≤1048576) :
 Calls Tryz.prog 66 #[.pointer (some ⟨bb,0,none⟩),.agg #[.int .i64 o.kind,.int .i64 o.target,.slice ca o.content.length cc,.string o.name,.string o.s]] w fun e w'=>e=.returned (.tuple #[])∧Did B T N bb w w' v ms (zK d ns n 0 o.content):=by
 obtain ⟨kd,tg,ct,nm,s⟩:=o;simp only at ho
 subst ho;have hb:=Below.alloc1 w (.cells #[.int .i64 kd,.int .i64 (n:Int),.slice ca ct.length cc,.string nm,.string s] 30);have HX:Hid (Bx B T N bb (w.alloc (.cells #[.int .i64 kd,.int .i64 (n:Int),.slice ca ct.length cc,.string nm,.string s] 30)) v ns ms):=hX.later hb;have HL:Hid (qw T (w.alloc (.cells #[.int .i64 kd,.int .i64 (n:Int),.slice ca ct.length cc,.string nm,.string s] 30)) (d+1) (.slice ca ct.length cc) ct):=qw.later hb (d+1) hl;have HP:Hid _:=xL B T N bb d n 0 v _ ns ms x ct _ HX.out hx HL.out (nZ9 _) hN hc hkb;clear hX HX HL hl hx
 go_enter Tryz.func66,Tryz.ntmps66
 go_wp2_with fail;refine (Calls.mono HP.out ?_);rintro e w1 ⟨rfl,hD⟩;have HD:Hid _:=Did.before hb hD;clear hD;go_wp2_with fail
 go_returns
 exact ⟨rfl,HD.out⟩
set_option linter.unusedSimpArgs false in
set_option maxHeartbeats 1000000 in
theorem JU (B:Nat)(T:Nat→Prop)(N bb d n:Nat)(v:Value)(ns:List Nd)(ms:List Rw)(x:Nd)(o:Opn)(ca:Option Addr)(cc:Nat)(w:World)(hX:Bx B T N bb w v ns ms)(ho:o.target=(n:Int))(hx:ns[n]?=some x)(hl:qw T w (d+1) (.slice ca o.content.length cc) o.content)(hN:N≤ns.length)(hc:ns.length+cnt (d+1) o.content≤1048576)(hkb:x.kids.length≤1048576) :
 Calls Tryz.prog 65 #[.pointer (some ⟨bb,0,none⟩),.agg #[.int .i64 o.kind,.int .i64 o.target,.slice ca o.content.length cc,.string o.name,.string o.s]] w fun e w'=>e=.returned (.tuple #[])∧Did B T N bb w w' v ms (zK d ns n x.kids.length o.content):=by
 obtain ⟨kd,tg,ct,nm,s⟩:=o;simp only at ho
 subst ho;obtain ⟨W0,hW0⟩:∃ W0,W0=(w.alloc (.cells #[.int .i64 kd,.int .i64 (n:Int),.slice ca ct.length cc,.string nm,.string s] 30)).drew:=⟨_,rfl⟩;have hb:Below w.heap.size w W0:=by rw[hW0];exact (Below.alloc1 w _).drew
 have hox:W0.heap[w.heap.size]?=some (.cells #[.int .i64 kd,.int .i64 (n:Int),.slice ca ct.length cc,.string nm,.string s] 30 (0,0)):=by rw[hW0];exact heap_alloc_new _ _
 have hX0:Bx B T N bb W0 v ns ms:=hX.later hb;have HP:Hid _:=xL B T N bb d n x.kids.length v _ ns ms x ct W0 hX0 hx (qw.later hb (d+1) hl) (nR9 _) hN hc hkb;obtain ⟨r,hr,hR⟩:=hX0.2.2.get hx;obtain ⟨g,cap,rfl,hcl,hcm,hgB,hgl,_,_,_,_,m4,_⟩:=hX0.2.2.at hr
 have hnl:n<ns.length:=qy hx;have hni:(n:Int)<(ns.length:Int):=by omega
 obtain ⟨ka,kc,hvk,_,_⟩:=hR.kids.shape;rw[hvk]at m4
 have b0:W0.cell? ⟨bb,0,none⟩=some (.slice (some ⟨g,0,none⟩) ns.length cap):=by rw[cH9 hX0.1];rfl
 have HS:Hid (∀ W:World,W.heap[w.heap.size]?=W0.heap[w.heap.size]?→W.cell? ⟨w.heap.size,1,none⟩=some (.int .i64 (n:Int))∧W.cell? ⟨w.heap.size,2,none⟩=some (.slice ca ct.length cc)):=fun W e=>by
  rw[hox]at e
  exact ⟨by rw[cH9 e];rfl,by rw[cH9 e];rfl⟩
 have HS1:Hid _:=HS.out W0 rfl
 have HSK:Hid (∀ w1,Did B T N bb W0 w1 (.slice (some ⟨g,0,none⟩) ns.length cap) ms (zK d ns n x.kids.length ct)→W0.cell? ⟨w.heap.size,1,none⟩=some (.int .i64 (n:Int))→w1.cell? ⟨w.heap.size,1,none⟩=some (.int .i64 (n:Int))∧w1.cell? ⟨w.heap.size,2,none⟩=some (.slice ca ct.length cc)):=by
  rintro w1 ⟨v',ms',_,hst⟩ _;refine HS.out w1 (hst.keep _ (qA hox) (fun e=>?_) (Tch.not hX0.2.2 hox (by decide) (by decide) (by decide)))
  have h0:=hX0.1;rw[←e,hox]at h0
  injection h0 with h0
  injection h0 with _ h0 _
  exact absurd h0 (by decide)
 unfold maxLen at hcm
 clear hX hX0 hl hx hr hR hvk hox HS
 go_enter Tryz.func65,Tryz.ntmps65
 go_wp2_with fail;refine wp_region_held_drew (S:=(fun W:World=>W.cell? ⟨w.heap.size,1,none⟩=some (.int .i64 (n:Int))∧W.cell? ⟨w.heap.size,2,none⟩=some (.slice ca ct.length cc))) (by kernel_rfl) (by rw[←hW0];exact HS1.out) (fun hHeld=>?_)
 rw[←hW0];clear hW0;refine wqi [0,1,2,3,4,5,7,8,13,14] ?_
 repeat (refine wqt (v:=?_) rfl (by kernel_rfl) (fun _ _ _ h=>h) (by rfl) (by assumption) ?_ ?_;rotate_left;(· (intro w hSw;(try dsimp only at hSw);go_simp;try with_reducible rfl));try simp only[Act.put,List.getElem_toArray,List.getElem_cons_succ,List.getElem_cons_zero,List.setIfInBounds_toArray,List.set_cons_zero,List.set_cons_succ])
 refine wqn ?_;refine wpAnyH_ready (rs:=[6]) (by kernel_rfl) (by simp) ?_
 refine AllReadyH.cons rfl (fun K hK=>?_) AllReadyH.nil
 go_simp;refine hK.out _ _ HS1.out (fun hHeld=>?_)
 clear hK K
 try simp only[Act.put,List.setIfInBounds_toArray,List.set_cons_zero,List.set_cons_succ]
 refine wqi [9,10] ?_
 repeat (refine wqt (v:=?_) rfl (by kernel_rfl) (fun _ _ _ h=>h) (by rfl) (by assumption) ?_ ?_;rotate_left;(· (intro w hSw;(try dsimp only at hSw);go_simp;try with_reducible rfl));try simp only[Act.put,List.getElem_toArray,List.getElem_cons_succ,List.getElem_cons_zero,List.setIfInBounds_toArray,List.set_cons_zero,List.set_cons_succ])
 refine wqn ?_;refine wpAnyH_ready (rs:=[11]) (by kernel_rfl) (by simp) ?_
 refine AllReadyH.cons rfl (fun K hK=>?_) AllReadyH.nil
 go_simp;refine hK.out _ _ HS1.out (fun hHeld=>?_)
 clear hK K
 try simp only[Act.put,List.setIfInBounds_toArray,List.set_cons_zero,List.set_cons_succ]
 refine wpAnyH_take (i:=12) (v:=?_) rfl (by kernel_rfl) (by kernel_rfl) (by kernel_rfl) (fun _ _ _ h=>h) (Or.inl ⟨by rfl,?_⟩) (by assumption) ?_
 rotate_left
 · (intro w hSw;(try dsimp only at hSw);go_simp;try with_reducible rfl)
 try simp only[Act.put,List.getElem_toArray,List.getElem_cons_succ,List.getElem_cons_zero,List.setIfInBounds_toArray,List.set_cons_zero,List.set_cons_succ]
 refine wpAnyH_ready (rs:=[15]) (by kernel_rfl) (by simp) ?_
 refine AllReadyH.cons rfl (fun K hK=>?_) AllReadyH.nil
 refine zy (by rfl) 95 #[.pointer (some ⟨bb,0,none⟩),.int .i64 (n:Int),.int .i64 (x.kids.length:Int),.slice ca ct.length cc] (by go_simp) (fun r w'=>r=.tuple #[]∧Did B T N bb W0 w' (.slice (some ⟨g,0,none⟩) ns.length cap) ms (zK d ns n x.kids.length ct)) (Calls.mono HP.out (by rintro e w' ⟨rfl,h⟩;exact ⟨_,rfl,rfl,h⟩)) ?_
 rintro r w1 ⟨rfl,hD⟩;have HS6:Hid _:=HSK.out w1 hD HS1.out.1;have HD:Hid _:=Did.before hb hD;clear hD;refine hK.out _ _ HS6.out (fun hHeld=>?_)
 clear hK K
 try simp only[Act.put,List.setIfInBounds_toArray,List.set_cons_zero,List.set_cons_succ]
 refine wpAnyH_done (by kernel_rfl) ?_ _
 go_wp2_with fail
 go_returns
 exact ⟨rfl,HD.out⟩
set_option maxHeartbeats 1000000 in
theorem xY (B:Nat)(T:Nat→Prop)(N bb d n:Nat)(v:Value)(ns:List Nd)(ms:List Rw)(x:Nd)(o:Opn)(ca:Option Addr)(cc:Nat)(w:World)(hX:Bx B T N bb w v ns ms)(ho:o.target=(n:Int))(hx:ns[n]?=some x)(hl:qw T w (d+1) (.slice ca o.content.length cc) o.content)(hN:N≤ns.length)(hc:ns.length+cnt (d+1) o.content≤1048576)(p k:Nat)(y:Nd)(hp:x.parent=(p:Int))(hy:ns[p]?=some y)(hk:Lib.idxOf y.kids (n:Int)=(k:Int))(hkl:k<y.kids.length)(hkb:y.kids.length≤1048576) :
 Calls Tryz.prog 64 #[.pointer (some ⟨bb,0,none⟩),.agg #[.int .i64 o.kind,.int .i64 o.target,.slice ca o.content.length cc,.string o.name,.string o.s]] w fun e w'=>e=.returned (.tuple #[])∧Did B T N bb w w' v ms (zK d ns p k o.content):=by
 obtain ⟨kd,tg,ct,nm,s⟩:=o;simp only at ho
 subst ho;have hb:=Below.alloc1 w (.cells #[.int .i64 kd,.int .i64 (n:Int),.slice ca ct.length cc,.string nm,.string s] 30);have HX:Hid (Bx B T N bb (w.alloc (.cells #[.int .i64 kd,.int .i64 (n:Int),.slice ca ct.length cc,.string nm,.string s] 30)) v ns ms):=hX.later hb;have HL:Hid (qw T (w.alloc (.cells #[.int .i64 kd,.int .i64 (n:Int),.slice ca ct.length cc,.string nm,.string s] 30)) (d+1) (.slice ca ct.length cc) ct):=qw.later hb (d+1) hl;have HPL:Hid _:=xK B T N bb n p v ns ms x y _ HX.out hx hp hy;rw[hk]at HPL
 have HP:Hid (∀ W,Below (w.alloc (.cells #[.int .i64 kd,.int .i64 (n:Int),.slice ca ct.length cc,.string nm,.string s] 30)).heap.size (w.alloc (.cells #[.int .i64 kd,.int .i64 (n:Int),.slice ca ct.length cc,.string nm,.string s] 30)) W→Calls Tryz.prog 95 #[.pointer (some ⟨bb,0,none⟩),.int .i64 (p:Int),.int .i64 ((k:Int):Int),.slice ca ct.length cc] W fun e w'=>e=.returned (.tuple #[])∧Did B T N bb W w' v ms (zK d ns p (k) ct)):=fun W h=>xL B T N bb d p (k) v _ ns ms y ct W (HX.out.later h) hy (qw.later h (d+1) HL.out) (by omega) hN hc hkb
 have hox:=heap_alloc_new w (.cells #[.int .i64 kd,.int .i64 (n:Int),.slice ca ct.length cc,.string nm,.string s] 30);have hki:(k:Int)+1≤9223372036854775807:=by omega
 have HO:Hid (∀ W,Below (w.alloc (.cells #[.int .i64 kd,.int .i64 (n:Int),.slice ca ct.length cc,.string nm,.string s] 30)).heap.size (w.alloc (.cells #[.int .i64 kd,.int .i64 (n:Int),.slice ca ct.length cc,.string nm,.string s] 30)) W→W.cell? ⟨w.heap.size,2,none⟩=some (.slice ca ct.length cc)):=fun W h=>by
  rw[cH9 ((h.block _ (qA hox)).trans hox)];rfl
 clear hX HX HL hl hx hy hox
 go_enter Tryz.func64,Tryz.ntmps64
 go_wp2_with fail;refine (Calls.mono HPL.out ?_);rintro e w1 ⟨rfl,hb1⟩;have o2:=HO.out w1 hb1;go_wp2_with fail;refine (Calls.mono (HP.out _ hb1) ?_);rintro e w2 ⟨rfl,hD⟩;have HD:Hid _:=Did.before (hb.trans (hb1.mono hb.size)) hD;clear hD;go_wp2_with fail
 go_returns
 exact ⟨rfl,HD.out⟩
set_option maxHeartbeats 1000000 in
theorem YK (B:Nat)(T:Nat→Prop)(N bb d n:Nat)(v:Value)(ns:List Nd)(ms:List Rw)(x:Nd)(o:Opn)(ca:Option Addr)(cc:Nat)(w:World)(hX:Bx B T N bb w v ns ms)(ho:o.target=(n:Int))(hx:ns[n]?=some x)(hl:qw T w (d+1) (.slice ca o.content.length cc) o.content)(hN:N≤ns.length)(hc:ns.length+cnt (d+1) o.content≤1048576)(p k:Nat)(y:Nd)(hp:x.parent=(p:Int))(hy:ns[p]?=some y)(hk:Lib.idxOf y.kids (n:Int)=(k:Int))(hkl:k<y.kids.length)(hkb:y.kids.length≤1048576) :
 Calls Tryz.prog 67 #[.pointer (some ⟨bb,0,none⟩),.agg #[.int .i64 o.kind,.int .i64 o.target,.slice ca o.content.length cc,.string o.name,.string o.s]] w fun e w'=>e=.returned (.tuple #[])∧Did B T N bb w w' v ms (zK d ns p (k+1) o.content):=by
 obtain ⟨kd,tg,ct,nm,s⟩:=o;simp only at ho
 subst ho;have hb:=Below.alloc1 w (.cells #[.int .i64 kd,.int .i64 (n:Int),.slice ca ct.length cc,.string nm,.string s] 30);have HX:Hid (Bx B T N bb (w.alloc (.cells #[.int .i64 kd,.int .i64 (n:Int),.slice ca ct.length cc,.string nm,.string s] 30)) v ns ms):=hX.later hb;have HL:Hid (qw T (w.alloc (.cells #[.int .i64 kd,.int .i64 (n:Int),.slice ca ct.length cc,.string nm,.string s] 30)) (d+1) (.slice ca ct.length cc) ct):=qw.later hb (d+1) hl;have HPL:Hid _:=xK B T N bb n p v ns ms x y _ HX.out hx hp hy;rw[hk]at HPL
 have HP:Hid (∀ W,Below (w.alloc (.cells #[.int .i64 kd,.int .i64 (n:Int),.slice ca ct.length cc,.string nm,.string s] 30)).heap.size (w.alloc (.cells #[.int .i64 kd,.int .i64 (n:Int),.slice ca ct.length cc,.string nm,.string s] 30)) W→Calls Tryz.prog 95 #[.pointer (some ⟨bb,0,none⟩),.int .i64 (p:Int),.int .i64 ((k:Int)+1:Int),.slice ca ct.length cc] W fun e w'=>e=.returned (.tuple #[])∧Did B T N bb W w' v ms (zK d ns p (k+1) ct)):=fun W h=>xL B T N bb d p (k+1) v _ ns ms y ct W (HX.out.later h) hy (qw.later h (d+1) HL.out) (by omega) hN hc hkb
 have hox:=heap_alloc_new w (.cells #[.int .i64 kd,.int .i64 (n:Int),.slice ca ct.length cc,.string nm,.string s] 30);have hki:(k:Int)+1≤9223372036854775807:=by omega
 have HO:Hid (∀ W,Below (w.alloc (.cells #[.int .i64 kd,.int .i64 (n:Int),.slice ca ct.length cc,.string nm,.string s] 30)).heap.size (w.alloc (.cells #[.int .i64 kd,.int .i64 (n:Int),.slice ca ct.length cc,.string nm,.string s] 30)) W→W.cell? ⟨w.heap.size,2,none⟩=some (.slice ca ct.length cc)):=fun W h=>by
  rw[cH9 ((h.block _ (qA hox)).trans hox)];rfl
 clear hX HX HL hl hx hy hox
 go_enter Tryz.func67,Tryz.ntmps67
 go_wp2_with fail;refine (Calls.mono HPL.out ?_);rintro e w1 ⟨rfl,hb1⟩;have o2:=HO.out w1 hb1;go_wp2_with fail;refine (Calls.mono (HP.out _ hb1) ?_);rintro e w2 ⟨rfl,hD⟩;have HD:Hid _:=Did.before (hb.trans (hb1.mono hb.size)) hD;clear hD;go_wp2_with fail
 go_returns
 exact ⟨rfl,HD.out⟩
set_option maxHeartbeats 1000000 in
theorem JV (B:Nat)(T:Nat→Prop)(N bb d n:Nat)(v:Value)(ns:List Nd)(ms:List Rw)(x:Nd)(o:Opn)(ca:Option Addr)(cc:Nat)(w:World)(hX:Bx B T N bb w v ns ms)(ho:o.target=(n:Int))(hx:ns[n]?=some x)(hl:qw T w (d+1) (.slice ca o.content.length cc) o.content)(hN:N≤ns.length)(hc:ns.length+cnt (d+1) o.content≤1048576)(p k:Nat)(y:Nd)(hp:x.parent=(p:Int))(hy:ns[p]?=some y)(hk:Lib.idxOf y.kids (n:Int)=(k:Int))(hkl:k<y.kids.length)(hkb:y.kids.length≤1048576)(j:Nat)(x2 y2:Nd)(hx2:(zK d ns p k o.content)[n]?=some x2)(hp2:x2.parent=(p:Int))(hy2:(zK d ns p k o.content)[p]?=some y2)(hj:Lib.idxOf y2.kids (n:Int)=(j:Int))(hjl:j<y2.kids.length) :
 Calls Tryz.prog 68 #[.pointer (some ⟨bb,0,none⟩),.agg #[.int .i64 o.kind,.int .i64 o.target,.slice ca o.content.length cc,.string o.name,.string o.s]] w fun e w'=>e=.returned (.tuple #[])∧Did B T N bb w w' v ms ((zK d ns p k o.content).set p { y2 with kids:=y2.kids.take j++y2.kids.drop (j+1) }):=by
 obtain ⟨kd,tg,ct,nm,s⟩:=o;simp only at ho
 subst ho;have hb:=Below.alloc1 w (.cells #[.int .i64 kd,.int .i64 (n:Int),.slice ca ct.length cc,.string nm,.string s] 30);have HX:Hid (Bx B T N bb (w.alloc (.cells #[.int .i64 kd,.int .i64 (n:Int),.slice ca ct.length cc,.string nm,.string s] 30)) v ns ms):=hX.later hb;have HL:Hid (qw T (w.alloc (.cells #[.int .i64 kd,.int .i64 (n:Int),.slice ca ct.length cc,.string nm,.string s] 30)) (d+1) (.slice ca ct.length cc) ct):=qw.later hb (d+1) hl;have HB:Hid _:=xY B T N bb d n v ns ms x ⟨kd,n,ct,nm,s⟩ ca cc _ HX.out rfl hx HL.out hN hc p k y hp hy hk hkl hkb;have HT:Hid (∀ W v' ms',Bx B T N bb W v' (zK d ns p k ct) ms'→Calls Tryz.prog 69 #[.pointer (some ⟨bb,0,none⟩),.agg #[.int .i64 kd,.int .i64 (n:Int),.slice ca ct.length cc,.string nm,.string s]] W fun e w'=>e=.returned (.tuple #[])∧Did B T N bb W w' v' ms' ((zK d ns p k ct).set p { y2 with kids:=y2.kids.take j++y2.kids.drop (j+1) })):=fun W v' ms' h=>QE B T N bb n p j v' _ ms' x2 y2 ⟨kd,n,ct,nm,s⟩ _ W h rfl hx2 hp2 hy2 hj hjl
 have hox:=heap_alloc_new w (.cells #[.int .i64 kd,.int .i64 (n:Int),.slice ca ct.length cc,.string nm,.string s] 30)
 have HSK:Hid (∀ w1,Did B T N bb (w.alloc (.cells #[.int .i64 kd,.int .i64 (n:Int),.slice ca ct.length cc,.string nm,.string s] 30)) w1 v ms (zK d ns p k ct)→w1.heap[w.heap.size]?=some (.cells #[.int .i64 kd,.int .i64 (n:Int),.slice ca ct.length cc,.string nm,.string s] 30 (0,0))):=by
  rintro w1 ⟨v',ms',_,hst⟩;refine (hst.keep _ (qA hox) (fun e=>?_) (Tch.not HX.out.2.2 hox (by decide) (by decide) (by decide))).trans hox
  have h0:=HX.out.1;rw[←e,hox]at h0
  injection h0 with h0
  injection h0 with _ h0 _
  exact absurd h0 (by decide)
 clear hX HX HL hl hx hy hox hx2 hy2
 go_enter Tryz.func68,Tryz.ntmps68
 go_wp2_with fail;refine (Calls.mono HB.out ?_);rintro e w1 ⟨rfl,hD⟩;have hbx:=HSK.out w1 hD;have o0:w1.cell? ⟨w.heap.size,0,none⟩=some (.int .i64 kd):=by rw[cH9 hbx];rfl
 have o1:w1.cell? ⟨w.heap.size,1,none⟩=some (.int .i64 (n:Int)):=by rw[cH9 hbx];rfl
 have o2:w1.cell? ⟨w.heap.size,2,none⟩=some (.slice ca ct.length cc):=by rw[cH9 hbx];rfl
 have o3:w1.cell? ⟨w.heap.size,3,none⟩=some (.string nm):=by rw[cH9 hbx];rfl
 have o4:w1.cell? ⟨w.heap.size,4,none⟩=some (.string s):=by rw[cH9 hbx];rfl
 obtain ⟨v1,ms1,h1,h2⟩:=hD;have HS1:Hid _:=qR.before hb h2;have HT1:Hid _:=HT.out w1 v1 ms1 h1;clear hbx h1 h2;go_wp2_with fail;refine (Calls.mono HT1.out ?_);rintro e w2 ⟨rfl,v2,ms2,h1,h2⟩;have HD:Hid _:=And.intro h1 (HS1.out.trans h2);clear h1 h2;go_wp2_with fail
 go_returns
 exact ⟨rfl,v2,ms2,HD.out.1,HD.out.2⟩
end
end Go.Proofs.YtnppmdpmippcoaaGreatDoor
