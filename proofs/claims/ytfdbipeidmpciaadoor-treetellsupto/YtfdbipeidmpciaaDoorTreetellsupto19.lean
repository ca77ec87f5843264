/- topiarylaw.TreeTells, for all trees: true. Condition: at most 2^20 trees and letters. -/
import Derived.Test.YtfdbipeidmpciaaDoorTreetellsupto13
import Derived.Test.YtfdbipeidmpciaaDoorTreetellsupto18
namespace Go.Proofs.YtfdbipeidmpciaaDoor
open Go.ChangeShapes Go.WideShapes Go.ChangeAt Go.RowKit
set_option maxRecDepth 100000
theorem TexN.texts:∀ (n:Nat){ts:List Tr},TexN n ts→TextsN n ts
 | 0,_,_=>trivial
 | n + 1, _, h => fun t ht => by
   obtain ⟨h1,h2,h3⟩:=h t ht;exact ⟨⟨h1,h2⟩,TexN.texts n h3⟩
theorem Vy (n:Nat)(a b:Tr):likeB (n+1) [a] [b]=(zI a b&&likeB n a.kids b.kids):=by simp[likeB]
set_option maxHeartbeats 4000000 in
theorem V8 (S:Nat→Prop)(n:Nat)(va vk vb vj vl:Value)(a b:Tr)(ts:List Tr)(w:World)(ha:qe S w va a.attrs)(hk:qb S w n vk a.kids)(hb:qe S w vb b.attrs)(hj:qb S w n vj b.kids)(hl:qb S w (n+1) vl ts)
 (hca:cnt (n+1) [a]≤1048576) (hxa:TexN (n+1) [a]) (hsa:Small (n+1) [a]) (hcl:cnt (n+1) ts≤1048576) (hxl:TexN (n+1) ts) (hsl:Small (n+1) ts) :
 Calls Tryd.prog 3 #[.agg #[.bool a.text,.string a.s,va,vk],.agg #[.bool b.text,.string b.s,vb,vj],vl] w fun e w'=>e=.returned (.bool true)∧Below w.heap.size w w':=by
 obtain ⟨hs1,hx1,hk1⟩:=hxa a (by simp)
 obtain ⟨_,_,hs2⟩:=hsa;obtain ⟨hal,_,hsk⟩:=hs2 a (by simp)
 have hb0:∀ X Y,Below w.heap.size w ((w.alloc X).alloc Y):=fun X Y=>(Below.alloc1 w X).alloc (by simp) Y
 have HCT:Hid (∀ W,Below w.heap.size w W→Calls Tryd.prog 10 #[.agg #[.bool a.text,.string a.s,va,vk]] W fun e w'=>∃ va' vk',e=.returned (.agg #[.bool a.text,.string a.s,va',vk'])∧qe (fun b=>W.heap.size≤b) w' va' a.attrs∧qb (fun b=>W.heap.size≤b) w' n vk' a.kids∧Below W.heap.size W w') :=
  fun W hW=>jV n (Zb n) S va vk a W (ha.later hW) (qb.later hW n hk) hal hsk
 have HSO:Hid (∀ W,Below w.heap.size w W→Calls Tryd.prog 12 #[.agg #[.bool a.text,.string a.s,va,vk]] W fun e w'=>e=.returned (.tuple #[.int .i64 (dep (n+1) [a]:Int),.int .i64 (cnt (n+1) [a]:Int)])∧Below W.heap.size W w') :=
  fun W hW=>xQ S n va vk a W (ha.later hW) (qb.later hW n hk) hca
 have HSZ:Hid (∀ (S':Nat→Prop) (va' vk':Value) (W:World),qe S' W va' a.attrs→qb S' W n vk' a.kids→Calls Tryd.prog 11 #[.agg #[.bool a.text,.string a.s,va',vk']] W fun e w'=>e=.returned (.tuple #[.int .i64 (dep (n+1) [a]:Int),.int .i64 (cnt (n+1) [a]:Int)])∧Below W.heap.size W w') :=
  fun S' va' vk' W h1 h2=>Xn S' n va' vk' a W h1 h2 hca
 have HGD:Hid (∀ (S':Nat→Prop) (va' vk':Value) (W:World),qe S' W va' a.attrs→qb S' W n vk' a.kids→Calls Tryd.prog 19 #[.agg #[.bool a.text,.string a.s,va',vk']] W fun e w'=>e=.returned (.bool (qu a))∧Below W.heap.size W w') :=
  fun S' va' vk' W h1 h2=>zU S' n va' vk' a W h1 h2 (TexN.texts (n+1) hxa)
 have HGA:Hid (∀ (S':Nat→Prop) (va':Value) (W:World),qe S' W va' a.attrs→Calls Tryd.prog 17 #[va'] W fun e w'=>e=.returned (.bool (q6 a.attrs))∧Below W.heap.size W w') :=
  fun S' va' W h1=>xq S' va' a.attrs W h1 (fun x hx=>hx1 x hx)
 have HIA:Hid (∀ W,Below w.heap.size w W→Calls Tryd.prog 18 #[va] W fun e w'=>e=.returned (.bool (q6 a.attrs))∧Below W.heap.size W w') :=
  fun W hW=>QH S va a.attrs W (ha.later hW) hx1
 have HIT:Hid (∀ W,Below w.heap.size w W→Calls Tryd.prog 20 #[.agg #[.bool a.text,.string a.s,va,vk]] W fun e w'=>e=.returned (.bool (qu a))∧Below W.heap.size W w') :=
  fun W hW=>Zj S n va vk a W (ha.later hW) (qb.later hW n hk) hca hxa
 have HCP:Hid (∀ W,Below w.heap.size w W→Calls Tryd.prog 22 #[vl] W fun e w'=>∃ r,e=.returned r∧(qb (fun b=>W.heap.size≤b) w' (n+1) r ts∧Below W.heap.size W w')) :=
  fun W hW=>Zb (n+1) S vl ts W (qb.later hW (n+1) hl) hsl
 have HCN:Hid (∀ (S':Nat→Prop) (v:Value) (W:World),qb S' W (n+1) v ts→Calls Tryd.prog 21 #[v] W fun e w'=>e=.returned (.bool (qY ts))∧Below W.heap.size W w') :=
  fun S' v W h1=>jT S' (n+1) v ts W h1 (TexN.texts (n+1) hxl)
 have HIC:Hid (∀ W,Below w.heap.size w W→Calls Tryd.prog 23 #[vl] W fun e w'=>e=.returned (.bool (qY ts))∧Below W.heap.size W w') :=
  fun W hW=>ZQ S n vl ts W (qb.later hW (n+1) hl) hcl hxl
 have HSM:Hid (∀ W,Below w.heap.size w W→Calls Tryd.prog 24 #[.agg #[.bool a.text,.string a.s,va,vk],.agg #[.bool b.text,.string b.s,vb,vj]] W fun e w'=>e=.returned (.bool (likeB (n+1) [a] [b]))∧Below W.heap.size W w') :=
  fun W hW=>qaV S S n va vk vb vj a b W (ha.later hW) (qb.later hW n hk) (hb.later hW) (qb.later hW n hj) hca
 have HST:Hid (∀ W,Below w.heap.size w W→Calls Tryd.prog 25 #[.agg #[.bool a.text,.string a.s,va,vk],.agg #[.bool b.text,.string b.s,vb,vj]] W fun e w'=>e=.returned (.bool (likeB (n+1) [a] [b]))∧Below W.heap.size W w'):=by
  intro W hW;rw[Vy];exact qaG n S S va vb vk vj a b W (ha.later hW) (hb.later hW) (qb.later hW n hk) (qb.later hW n hj)
 have HNM:Hid (∀ W,Calls Tryd.prog 13 #[.string a.s] W fun e w'=>e=.returned (.bool (qF a.s))∧Below W.heap.size W w') :=
  fun W=>(zy a.s W hs1).mono (by rintro e w' ⟨rfl,rfl⟩;exact ⟨rfl,Below.refl _ _⟩)
 have HPL:Hid (∀ W,Calls Tryd.prog 15 #[.string a.s] W fun e w'=>e=.returned (.bool (qR a.s))∧Below W.heap.size W w') :=
  fun W=>(zA a.s W hs1).mono (by rintro e w' ⟨rfl,rfl⟩;exact ⟨rfl,Below.refl _ _⟩)
 have HIN:Hid (∀ W,Calls Tryd.prog 14 #[.string a.s] W fun e w'=>e=.returned (.bool (qF a.s))∧Below W.heap.size W w') :=
  fun W=>jy a.s W (hxa a List.mem_cons_self).1
 have HIP:Hid (∀ W,Calls Tryd.prog 16 #[.string a.s] W fun e w'=>e=.returned (.bool (qR a.s))∧Below W.heap.size W w') :=
  fun W=>j1 a.s W hs1
 have HTL:Hid (∀ W,Calls Tryd.prog 26 #[] W fun e w'=>e=.returned (.bool true)∧Below W.heap.size W w'):=fun W=>KB W
 obtain ⟨aa,ac,rfl⟩:=ha.shape;obtain ⟨ka,kc,rfl,_,_⟩:=qb.shape n hk;obtain ⟨ba,bc,rfl⟩:=hb.shape;obtain ⟨ja,jc,rfl,_,_⟩:=qb.shape n hj;obtain ⟨la,lc,rfl,_,_⟩:=qb.shape (n+1) hl;obtain ⟨D,hD⟩:∃ D,dep (n+1) [a]=D:=⟨_,rfl⟩;obtain ⟨C,hC⟩:∃ C,cnt (n+1) [a]=C:=⟨_,rfl⟩;obtain ⟨LK,hLK⟩:∃ q,likeB (n+1) [a] [b]=q:=⟨_,rfl⟩;obtain ⟨CB,hCB⟩:∃ q,qY ts=q:=⟨_,rfl⟩;rw[hD,hC]at HSO HSZ
 rw[hLK]at HSM HST
 rw[hCB]at HCN HIC
 clear hD hC hLK hCB ha hk hb hj hl hca hxa hcl hxl hsl hs1 hx1 hk1 hs2 hal hsk
 go_enter Tryd.func3,Tryd.ntmps3
 go_wp2_with fail;have hB1:=hb0 (.cells #[.bool a.text,.string a.s,.slice aa a.attrs.length ac,.slice ka a.kids.length kc] 25) (.cells #[.bool b.text,.string b.s,.slice ba b.attrs.length bc,.slice ja b.kids.length jc] 25);refine (Calls.mono (HCT.out _ hB1) ?_);rintro e W2 ⟨va',vk',rfl,hA2,hK2,hb2⟩;obtain ⟨aa',ac',rfl⟩:=hA2.shape;obtain ⟨ka',kc',rfl,_,_⟩:=qb.shape n hK2;have f0:W2.cell? ⟨w.heap.size,0,none⟩=some (.bool a.text):=by rw[hb2.cell (p:=⟨w.heap.size,0,none⟩) (by simp;omega)];simp[go_sem]
 have f1:W2.cell? ⟨w.heap.size,1,none⟩=some (.string a.s):=by rw[hb2.cell (p:=⟨w.heap.size,1,none⟩) (by simp;omega)];simp[go_sem]
 have f2:W2.cell? ⟨w.heap.size,2,none⟩=some (.slice aa a.attrs.length ac):=by rw[hb2.cell (p:=⟨w.heap.size,2,none⟩) (by simp;omega)];simp[go_sem]
 have f3:W2.cell? ⟨w.heap.size,3,none⟩=some (.slice ka a.kids.length kc):=by rw[hb2.cell (p:=⟨w.heap.size,3,none⟩) (by simp;omega)];simp[go_sem]
 have g0:W2.cell? ⟨w.heap.size+1,0,none⟩=some (.bool b.text):=by rw[hb2.cell (p:=⟨w.heap.size+1,0,none⟩) (by simp)];simp[go_sem]
 have g1:W2.cell? ⟨w.heap.size+1,1,none⟩=some (.string b.s):=by rw[hb2.cell (p:=⟨w.heap.size+1,1,none⟩) (by simp)];simp[go_sem]
 have g2:W2.cell? ⟨w.heap.size+1,2,none⟩=some (.slice ba b.attrs.length bc):=by rw[hb2.cell (p:=⟨w.heap.size+1,2,none⟩) (by simp)];simp[go_sem]
 have g3:W2.cell? ⟨w.heap.size+1,3,none⟩=some (.slice ja b.kids.length jc):=by rw[hb2.cell (p:=⟨w.heap.size+1,3,none⟩) (by simp)];simp[go_sem]
 have hB2:Below w.heap.size w W2:=hB1.trans (hb2.mono hB1.size);have hl2:w.heap.size+1<W2.heap.size:=Nat.lt_of_lt_of_le (by simp) hb2.size
 clear hb2 hB1 HCT;have hb3:=Below.alloc1 W2 (.cells #[.bool a.text,.string a.s,.slice aa' a.attrs.length ac',.slice ka' a.kids.length kc'] 25);have hY3:=xT.start W2 (.bool a.text) (.string a.s) (.slice aa' a.attrs.length ac') (.slice ka' a.kids.length kc') 25;go_wp2_with fail
 generalize W2.alloc (.cells #[.bool a.text,.string a.s,.slice aa' a.attrs.length ac',.slice ka' a.kids.length kc'] 25)=W3 at hb3 hY3 ⊢
 obtain ⟨cb,hcb⟩:∃ cb,W2.heap.size=cb:=⟨_,rfl⟩;have hB3:Below w.heap.size w W3:=hB2.trans (hb3.mono hB2.size);have HA3:Hid (∀ W,Below W3.heap.size W3 W→qe _ W _ _):=fun W h=>(hA2.later hb3).later h
 have HK3:Hid (∀ W,Below W3.heap.size W3 W→qb _ W n _ _):=fun W h=>qb.later h n (qb.later hb3 n hK2)
 have HW:Hid (∀ W,Below W3.heap.size W3 W→Below w.heap.size w W):=fun W h=>hB3.trans (h.mono hB3.size)
 have hl3:=hb3.size
 have HC3:Hid (∀ W,Below W3.heap.size W3 W→Below W3.heap.size W3 W ∧
  W.cell? ⟨w.heap.size,0,none⟩=some (.bool a.text)∧W.cell? ⟨w.heap.size,1,none⟩=some (.string a.s)∧W.cell? ⟨w.heap.size,2,none⟩=some (.slice aa a.attrs.length ac)∧W.cell? ⟨w.heap.size,3,none⟩=some (.slice ka a.kids.length kc) ∧
  W.cell? ⟨w.heap.size+1,0,none⟩=some (.bool b.text)∧W.cell? ⟨w.heap.size+1,1,none⟩=some (.string b.s)∧W.cell? ⟨w.heap.size+1,2,none⟩=some (.slice ba b.attrs.length bc)∧W.cell? ⟨w.heap.size+1,3,none⟩=some (.slice ja b.kids.length jc) ∧
  W.cell? ⟨W2.heap.size,0,none⟩=some (.bool a.text)∧W.cell? ⟨W2.heap.size,1,none⟩=some (.string a.s)∧W.cell? ⟨W2.heap.size,2,none⟩=some (.slice aa' a.attrs.length ac')∧W.cell? ⟨W2.heap.size,3,none⟩=some (.slice ka' a.kids.length kc')):=by
  intro W h;have hq:=hY3.later h hY3.lt
  have hcell:∀ p:Addr,p.block<W2.heap.size→W.cell? p=W2.cell? p:=fun p hp=>by
   rw[h.cell (p:=p) (Nat.lt_of_lt_of_le hp hl3),hb3.cell (p:=p) hp]
  refine ⟨h,?_,?_,?_,?_,?_,?_,?_,?_,hq.at0,hq.at1,hq.at2,hq.at3⟩
  · rw[hcell _ (by show w.heap.size<_;omega)];exact f0
  · rw[hcell _ (by show w.heap.size<_;omega)];exact f1
  · rw[hcell _ (by show w.heap.size<_;omega)];exact f2
  · rw[hcell _ (by show w.heap.size<_;omega)];exact f3
  · rw[hcell _ hl2];exact g0
  · rw[hcell _ hl2];exact g1
  · rw[hcell _ hl2];exact g2
  · rw[hcell _ hl2];exact g3
 clear f0 f1 f2 f3 g0 g1 g2 g3 hA2 hK2 hY3 hb3 hB2 hB3 hl2 hl3;rw[hcb]at HC3 ⊢
 clear hcb;refine (Calls.mono (HSZ.out _ _ _ _ (HA3.out _ (Below.refl _ _)) (HK3.out _ (Below.refl _ _))) ?_);rintro e W4 ⟨rfl,hb4⟩;obtain ⟨_,p0,p1,p2,p3,_,_,_,_,_,_,_,_⟩:=HC3.out _ hb4;go_wp2_with fail;refine (Calls.mono (HSO.out _ (HW.out _ hb4)) ?_);rintro e W5 ⟨rfl,hb5'⟩;have hb5:Below W3.heap.size W3 W5:=hb4.trans (hb5'.mono hb4.size);clear p0 p1 p2 p3 hb4 hb5';have hbn:=hb5.drew;have hDD:((D:Int)==(D:Int))=true:=by simp
 have hCC:((C:Int)==(C:Int))=true:=by simp
 go_wp2_with fail
 go_region_held3 (fun W:World=>Below W3.heap.size W3 W ∧
  W.cell? ⟨w.heap.size,0,none⟩=some (.bool a.text)∧W.cell? ⟨w.heap.size,1,none⟩=some (.string a.s)∧W.cell? ⟨w.heap.size,2,none⟩=some (.slice aa a.attrs.length ac)∧W.cell? ⟨w.heap.size,3,none⟩=some (.slice ka a.kids.length kc) ∧
  W.cell? ⟨w.heap.size+1,0,none⟩=some (.bool b.text)∧W.cell? ⟨w.heap.size+1,1,none⟩=some (.string b.s)∧W.cell? ⟨w.heap.size+1,2,none⟩=some (.slice ba b.attrs.length bc)∧W.cell? ⟨w.heap.size+1,3,none⟩=some (.slice ja b.kids.length jc) ∧
  W.cell? ⟨cb,0,none⟩=some (.bool a.text)∧W.cell? ⟨cb,1,none⟩=some (.string a.s)∧W.cell? ⟨cb,2,none⟩=some (.slice aa' a.attrs.length ac')∧W.cell? ⟨cb,3,none⟩=some (.slice ka' a.kids.length kc'))
  (first|exact HC3.out _ hbn|go_keep)
  (first
   | (go_at_call 13;refine (Calls.mono (HNM.out _) ?_);rintro e W6 ⟨rfl,hb6⟩;have hbn:=hbn.trans (hb6.mono hbn.size))
   | (go_at_call 14;refine (Calls.mono (HIN.out _) ?_);rintro e W6 ⟨rfl,hb6⟩;have hbn:=hbn.trans (hb6.mono hbn.size))
   | (go_at_call 15;refine (Calls.mono (HPL.out _) ?_);rintro e W6 ⟨rfl,hb6⟩;have hbn:=hbn.trans (hb6.mono hbn.size))
   | (go_at_call 16;refine (Calls.mono (HIP.out _) ?_);rintro e W6 ⟨rfl,hb6⟩;have hbn:=hbn.trans (hb6.mono hbn.size))
   | (go_at_call 17;refine (Calls.mono (HGA.out _ _ _ (HA3.out _ hbn)) ?_);rintro e W6 ⟨rfl,hb6⟩;have hbn:=hbn.trans (hb6.mono hbn.size))
   | (go_at_call 18;refine (Calls.mono (HIA.out _ (HW.out _ hbn)) ?_);rintro e W6 ⟨rfl,hb6⟩;have hbn:=hbn.trans (hb6.mono hbn.size))
   | (go_at_call 19;refine (Calls.mono (HGD.out _ _ _ _ (HA3.out _ hbn) (HK3.out _ hbn)) ?_);rintro e W6 ⟨rfl,hb6⟩;have hbn:=hbn.trans (hb6.mono hbn.size))
   | (go_at_call 20;refine (Calls.mono (HIT.out _ (HW.out _ hbn)) ?_);rintro e W6 ⟨rfl,hb6⟩;have hbn:=hbn.trans (hb6.mono hbn.size))
   | (go_at_call 22;refine (Calls.mono (HCP.out _ (HW.out _ hbn)) ?_);rintro e W6 ⟨r,rfl,hTr,hb6⟩;obtain ⟨ra,rc,rfl,_,_⟩:=qb.shape (n+1) hTr;have hbn:=hbn.trans (hb6.mono hbn.size))
   | (go_at_call 21;refine (Calls.mono (HCN.out _ _ _ hTr) ?_);rintro e W6 ⟨rfl,hb6⟩;have hbn:=hbn.trans (hb6.mono hbn.size))
   | (go_at_call 23;refine (Calls.mono (HIC.out _ (HW.out _ hbn)) ?_);rintro e W6 ⟨rfl,hb6⟩;have hbn:=hbn.trans (hb6.mono hbn.size))
   | (go_at_call 24;refine (Calls.mono (HSM.out _ (HW.out _ hbn)) ?_);rintro e W6 ⟨rfl,hb6⟩;have hbn:=hbn.trans (hb6.mono hbn.size))
   | (go_at_call 25;refine (Calls.mono (HST.out _ (HW.out _ hbn)) ?_);rintro e W6 ⟨rfl,hb6⟩;have hbn:=hbn.trans (hb6.mono hbn.size))
   | (go_at_call 26;refine (Calls.mono (HTL.out _) ?_);rintro e W6 ⟨rfl,hb6⟩;have hbn:=hbn.trans (hb6.mono hbn.size)))
 all_goals
  go_wp2_with fail;go_ret;exact ⟨rfl,HW.out _ hbn⟩
end Go.Proofs.YtfdbipeidmpciaaDoor
