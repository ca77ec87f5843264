/- Bundled: ContW CheckW IsDocR. What each says stands ahead of it. -/
import Derived.Test.YtnppmdpmippcoaaGreatDoorBundle20
import Derived.Test.YtnppmdpmippcoaaGreatDoorBundle21
namespace Go.Proofs.YtnppmdpmippcoaaGreatDoor
open Go.ChangeShapes Go.WideShapes Go.ChangeAt Go.RowKit
set_option maxRecDepth 100000
section
attribute [local go_sem] qk
instance:Inhabited Opn:=⟨⟨0,0,[],⟨#[]⟩,⟨#[]⟩⟩⟩
theorem Y9 (a o:Opn)(va vc:Value)(p:Nat)(w:World)(x0:w.cell? ⟨p,0,none⟩=some (.int .i64 o.kind))(x1:w.cell? ⟨p,1,none⟩=some (.int .i64 o.target))(x2:w.cell? ⟨p,2,none⟩=some vc)(x3:w.cell? ⟨p,3,none⟩=some (.string o.name))(x4:w.cell? ⟨p,4,none⟩=some (.string o.s)) :
 Calls Tryz.prog 28 #[.agg #[.int .i64 a.kind,.int .i64 a.target,va,.string a.name,.string a.s],.pointer (some ⟨p,0,none⟩)] w fun e w'=>e=.returned (.bool (agB a o))∧Below w.heap.size w w':=by
 have HA:Hid (∀ W,Calls Tryz.prog 9 #[.agg #[.int .i64 a.kind,.int .i64 a.target,va,.string a.name,.string a.s],.agg #[.int .i64 o.kind,.int .i64 o.target,vc,.string o.name,.string o.s]] W fun e w'=>e=.returned (.bool (agB a o))∧Below W.heap.size W w'):=fun W=>Qj a o va vc W
 have hb:=Below.alloc1 w (.cells #[.int .i64 a.kind,.int .i64 a.target,va,.string a.name,.string a.s] 30);have hpw:p<w.heap.size:=World.block_lt_of_cell? w _ x0;rw[←World.cell?_of_block (a:=⟨p,0,none⟩) (hb.block p hpw)]at x0
 rw[←World.cell?_of_block (a:=⟨p,1,none⟩) (hb.block p hpw)]at x1
 rw[←World.cell?_of_block (a:=⟨p,2,none⟩) (hb.block p hpw)]at x2
 rw[←World.cell?_of_block (a:=⟨p,3,none⟩) (hb.block p hpw)]at x3
 rw[←World.cell?_of_block (a:=⟨p,4,none⟩) (hb.block p hpw)]at x4
 go_enter Tryz.func28,Tryz.ntmps28
 go_wp2_with fail;refine (HA.out _).mono ?_;rintro e w1 ⟨rfl,hb1⟩;go_wp2_with fail;go_ret;exact ⟨rfl,hb.trans (hb1.mono hb.size)⟩
def Ji (z:Opn × Value):List Value:=[.int .i64 z.1.kind,.int .i64 z.1.target,z.2,.string z.1.name,.string z.1.s]
theorem ZH (S:Nat→Prop)(n:Nat)(b off cap m i:Nat)(l:List Opn)(o:Opn)(vc:Value)(p:Nat)(w:World)(h:Ops S w n (.slice (some ⟨b,off,none⟩) m cap) l)(hi:i≤l.length)(hl:l.length≤20)(hbw:b<w.heap.size)
 (x0:w.cell? ⟨p,0,none⟩=some (.int .i64 o.kind)) (x1:w.cell? ⟨p,1,none⟩=some (.int .i64 o.target)) (x2:w.cell? ⟨p,2,none⟩=some vc) (x3:w.cell? ⟨p,3,none⟩=some (.string o.name)) (x4:w.cell? ⟨p,4,none⟩=some (.string o.s)) (c:Nat) :
 Calls Tryz.prog 27 #[.slice (some ⟨b,off,none⟩) i c,.func (.func 28) #[] #[.pointer (some ⟨p,0,none⟩)]] w fun e w'=>e=.returned (.bool ((l.take i).any (fun e=>agB e o)))∧Below w.heap.size w w':=by
 obtain ⟨zs,hz,hc⟩:=h.pairs;have hlen:zs.length=l.length:=by rw[←hz];simp
 have hpw:p<w.heap.size:=World.block_lt_of_cell? w _ x0
 have e:(zs.take i).any (fun z=>agB z.1 o)=(l.take i).any (fun e=>agB e o):=by
  rw[←hz,←List.map_take,List.any_map];rfl
 rw[←e];refine AnyQ.slices_ContainsFunc Tryz.contO 5 (by exact Tryz.isAgg30) (by exact Tryz.sizeOf30) Ji (fun _=>rfl) (fun z=>agB z.1 o) 28 #[.pointer (some ⟨p,0,none⟩)] ?_ b off i c zs w ?_ (by omega) (by omega) hbw ?_
 · exact enters_of Tryz.func28 (by kernel_rfl) rfl
 · intro W z hW;have k:∀ q,W.cell? ⟨p,q,none⟩=w.cell? ⟨p,q,none⟩:=fun q=>World.cell?_of_block (a:=⟨p,q,none⟩) (hW.block p hpw)
   refine (Y9 z.1 o z.2 vc p W ((k 0).trans x0) ((k 1).trans x1) ((k 2).trans x2) ((k 3).trans x3) ((k 4).trans x4)).mono ?_;rintro e w1 ⟨rfl,hb1⟩;exact ⟨rfl,hW.trans (hb1.mono hW.size)⟩
 · intro j hj q v hv;have hzj:zs[j]?=some zs[j]!:=by simp[hj]
   obtain ⟨c0,c1,c2,c3,c4⟩:=hc j _ hzj
   rcases q with _|_|_|_|_|q
   · have : v = .int .i64 (zs[j]!).1.kind := by simpa[Ji] using hv.symm
     subst this;exact c0
   · have : v = .int .i64 (zs[j]!).1.target := by simpa[Ji] using hv.symm
     subst this;exact c1
   · have : v = (zs[j]!).2 := by simpa[Ji] using hv.symm
     subst this;exact c2
   · have : v = .string (zs[j]!).1.name := by simpa[Ji] using hv.symm
     subst this;exact c3
   · have : v = .string (zs[j]!).1.s := by simpa[Ji] using hv.symm
     subst this;exact c4
   · simp[Ji]at hv
end
section
attribute [local go_sem] qk
set_option maxHeartbeats 4000000 in
theorem Zn (S:Nat→Prop)(n:Nat)(vn v:Value)(ns:List Nd)(l:List Opn)(w:World)(hN:qv S w vn ns)(hS:∀ b,S b→b<w.heap.size)(ha:∀ x∈ns,x.attrs.length≤4398046511104)(hx:yR ns)(hO:Ops S w n v l)(ht:xm n l) :
 Calls Tryz.prog 11 #[.agg #[vn],v] w fun e w'=>e=.returned (.int .i64 (qJ ns l))∧Below w.heap.size w w':=by
 have HG:Hid (∀ W,Below w.heap.size w W→Calls Tryz.prog 19 #[.agg #[vn]] W fun e w'=>e=.returned (.bool (qu ns))∧Below W.heap.size W w'):=fun W hW=>Zo S vn ns W (hN.later hW) (fun b hb=>Nat.lt_of_lt_of_le (hS b hb) hW.size) ha hx
 have HN:Hid (qv S w vn ns):=hN;have HO:Hid (Ops S w n v l):=hO;have HT:Hid (xm n l):=ht;have HC:Hid (qJ ns l=if !qu ns then 1 else if 20<l.length then 2 else if qP ns l≠0 then qP ns l else if twiceB l then 5 else 0):=rfl
 obtain ⟨na,nc,rfl,hnl,hnc⟩:=hN.shape;obtain ⟨la,lc,rfl,hll,hlc⟩:=hO.shape;clear hN hO ht ha hx hS;unfold maxLen at hnc hlc
 have hb:=Below.alloc1 w (.cells #[.slice na ns.length nc] 24)
 generalize qJ ns l=R at *
 cases hg:qu ns with
 | false =>
   rw[hg]at HG HC
   have HR:Hid (R=1):=by show _=_;rw[HC.out];rfl
   clear HC hg
   go_enter Tryz.func11,Tryz.ntmps11
   go_wp2_with fail;refine (HG.out _ hb).mono ?_;rintro e w1 ⟨rfl,hb1⟩;go_wp2_with fail;go_ret;exact ⟨by rw[HR.out];rfl,hb.trans (hb1.mono hb.size)⟩
 | true =>
 rw[hg]at HG HC
 clear hg
 by_cases h20:20<l.length
 · have HR : Hid (R = 2) := by show _ = _;rw[HC.out];simp[h20]
   have h20i:(20:Int)<(l.length:Int):=by omega
   clear HC
   go_enter Tryz.func11,Tryz.ntmps11
   go_wp2_with fail;refine (HG.out _ hb).mono ?_;rintro e w1 ⟨rfl,hb1⟩;go_wp2_with fail;go_ret;exact ⟨by rw[HR.out];rfl,hb.trans (hb1.mono hb.size)⟩
 have HR:Hid (R=if qP ns l≠0 then qP ns l else if twiceB l then 5 else 0):=by show _=_;rw[HC.out];simp[h20]
 have h20i:¬ (20:Int)<(l.length:Int):=by omega
 clear HC
 go_enter Tryz.func11,Tryz.ntmps11
 go_wp2_with fail;refine (HG.out _ hb).mono ?_;rintro e w1 ⟨rfl,hb1⟩;have hB1:=hb.trans (hb1.mono hb.size);have hz1:w.heap.size<w1.heap.size:=by have:=hb1.size;simp at this;omega
 have HB1:Hid (w1.heap[w.heap.size]?=some (.cells #[.slice na ns.length nc] 24 (0,0))):=zI hb1;go_wp2_with fail
 go_loopg [18] l.length (fun g j wr=>∃ (i:Nat),i+g=l.length∧j=.int .i64 (i:Int)∧Below w.heap.size w wr∧w.heap.size<wr.heap.size∧wr.heap[w.heap.size]?=some (.cells #[.slice na ns.length nc] 24 (0,0))∧qP ns (l.take i)=0)
 case atStart => exact ⟨0,by omega,rfl,hB1,hz1,HB1.out,rfl⟩
 case round =>
  obtain ⟨i,hi,rfl,hB,hz,hbx,hF⟩:=hrel;have HF:Hid (qP ns (l.take i)=0):=hF;have HBX:Hid (wr.heap[w.heap.size]?=some (.cells #[.slice na ns.length nc] 24 (0,0))):=hbx;have hd0:wr.cell? ⟨w.heap.size,0,none⟩=some (.slice na ns.length nc):=by simp[World.cell?,hbx]
  clear hF hbx hB1 hz1 HB1 hb1
  by_cases hil:i<l.length
  · obtain ⟨x, hx⟩ : ∃ x, l[i]? = some x := ⟨l[i], by simp[hil]⟩
    obtain ⟨b,o,c2,ca,cc,hv,hSb,hbw,e0,e1,e2,e3,e4,hT⟩:=(HO.out.later hB).at hx
    injection hv with hv1 _ hv2
    subst hv1 hv2;have HX:=Ys HF.out hx;have hXT:=HT.out x (List.mem_of_getElem? hx);have hili:(i:Int)<(l.length:Int):=by omega
    have hb2:=hB.alloc (Nat.le_of_lt hz) (.cells #[.int .i64 x.kind,.int .i64 x.target,.slice ca x.content.length cc,.string x.name,.string x.s] 30)
    have HW:Hid (∀ W,Below wr.heap.size wr W→Calls Tryz.prog 20 #[.slice na ns.length nc,.agg #[.int .i64 x.kind,.int .i64 x.target,.slice ca x.content.length cc,.string x.name,.string x.s]] W fun e w'=>e=.returned (.int .i64 (qE ns x))∧Below W.heap.size W w') :=
     fun W hW=>xi S n _ ca cc ns x W ((HN.out.later hB).later hW) (hT.later hW) hXT.1 hXT.2.1 hXT.2.2
    have hba:=Below.alloc1 wr (.cells #[.int .i64 x.kind,.int .i64 x.target,.slice ca x.content.length cc,.string x.name,.string x.s] 30);have HX1:Hid (qP ns (l.take (i+1))=qE ns x):=HX.1;have HX2:Hid (qE ns x≠0→qP ns l=qE ns x):=HX.2;clear HX hXT hT hx
    generalize qE ns x=q at *
    by_cases hq:q=0
    · subst hq;go_wp2_with fail;refine (HW.out _ hba).mono ?_;rintro e w3 ⟨rfl,hb3⟩;have hB3:=hb2.trans (hb3.mono hb2.size);have hs3:=hb3.size;have hs3':(wr.alloc (.cells #[.int .i64 x.kind,.int .i64 x.target,.slice ca x.content.length cc,.string x.name,.string x.s] 30)).heap.size=wr.heap.size+1:=by simp
      have k3:w3.heap[w.heap.size]?=wr.heap[w.heap.size]?:=(hb3.block _ (by omega)).trans (hba.block _ hz)
      have HB3:Hid (w3.heap[w.heap.size]?=some (.cells #[.slice na ns.length nc] 24 (0,0))):=k3.trans HBX.out;have hz3:w.heap.size<w3.heap.size:=by omega
      clear k3 hs3 hs3';go_wp2_with fail
      go_roundg (l.length-(i+1))
      case measure => omega
      case rel => exact ⟨i+1,by omega,by go_num,hB3,hz3,HB3.out,HX1.out⟩
    · have b1 : (q == 0) = false := by simpa using hq
      have HE:Hid (R=q):=by
       show _=_
       rw[HR.out,HX2.out hq,if_pos hq]
      clear hq;go_wp2_with fail;refine (HW.out _ hba).mono ?_;rintro e w3 ⟨rfl,hb3⟩;have hB3:=hb2.trans (hb3.mono hb2.size);go_wp2_with fail;go_ret;exact ⟨by rw[HE.out];rfl,hB3⟩
  · have hili : ¬ (i : Int) < (l.length : Int) := by omega
    have HF2:Hid (qP ns l=0):=by
     show _=_
     have:=HF.out
     rwa [List.take_of_length_le (by omega)]at this
    have HR2:Hid (R=if twiceB l then 5 else 0):=by show _=_;rw[HR.out,HF2.out];simp
    clear HF HF2 HBX hd0;go_wp2_with fail
    go_loopg [32] l.length (fun g j wr=>∃ (i:Nat),i+g=l.length∧j=.int .i64 (i:Int)∧Below w.heap.size w wr∧twiceB (l.take i)=false)
    case atStart => exact ⟨0,by omega,rfl,hB,rfl⟩
    case round =>
     obtain ⟨i',hi',rfl,hB',hF'⟩:=hrel;have HF':Hid (twiceB (l.take i')=false):=hF';clear hF' hili hil hi
     by_cases hil:i'<l.length
     · obtain ⟨x, hx⟩ : ∃ x, l[i']? = some x := ⟨l[i'], by simp[hil]⟩
       have HO':Hid (Ops S _ n (.slice la l.length lc) l):=HO.out.later hB';obtain ⟨b,o,c2,ca,cc,hv,hSb,hbw,e0,e1,e2,e3,e4,hT⟩:=HO'.out.at hx
       injection hv with hv1 _ hv2
       subst hv1 hv2;have hili:(i':Int)<(l.length:Int):=by omega
       have hba:=Below.alloc1 wr (.cells #[.int .i64 x.kind,.int .i64 x.target,.slice ca x.content.length cc,.string x.name,.string x.s] 30);have hb2:=hB'.alloc hB'.size (.cells #[.int .i64 x.kind,.int .i64 x.target,.slice ca x.content.length cc,.string x.name,.string x.s] 30)
       have HK:Hid (∀ c,Calls Tryz.prog 27 #[.slice (some ⟨b,o,none⟩) i' c,.func (.func 28) #[] #[.pointer (some ⟨wr.heap.size,0,none⟩)]] (wr.alloc (.cells #[.int .i64 x.kind,.int .i64 x.target,.slice ca x.content.length cc,.string x.name,.string x.s] 30)) fun e w'=>e=.returned (.bool ((l.take i').any (fun e=>agB e x)))∧Below (wr.alloc (.cells #[.int .i64 x.kind,.int .i64 x.target,.slice ca x.content.length cc,.string x.name,.string x.s] 30)).heap.size (wr.alloc (.cells #[.int .i64 x.kind,.int .i64 x.target,.slice ca x.content.length cc,.string x.name,.string x.s] 30)) w') :=
        fun c=>ZH S n b o _ _ i' l x (.slice ca x.content.length cc) wr.heap.size _ (HO'.out.later hba) (by omega) (by omega) (Nat.lt_of_lt_of_le hbw hba.size) (by simp) (by simp) (by simp) (by simp) (by simp) c
       have HW2:Hid (twiceB (l.take (i'+1))=(l.take i').any (fun e=>agB e x)):=by show _=_;rw[twice_take l i' x hx,HF'.out];rfl
       clear hx HF'
       generalize (l.take i').any (fun e=>agB e x)=q at *
       have hi'l:(i':Int)≤(lc:Int):=by omega
       cases q with
       | true =>
         have HE:Hid (R=5):=by show _=_;rw[HR2.out,twice_mono l _ HW2.out];rfl
         go_wp2_with fail;refine (HK.out _).mono ?_;rintro e w3 ⟨rfl,hb3⟩;go_wp2_with fail;go_ret;exact ⟨by rw[HE.out];rfl,hb2.trans (hb3.mono hb2.size)⟩
       | false =>
         go_wp2_with fail;refine (HK.out _).mono ?_;rintro e w3 ⟨rfl,hb3⟩;go_wp2_with fail
         go_roundg (l.length-(i'+1))
         case measure => omega
         case rel => exact ⟨i'+1,by omega,by go_num,hb2.trans (hb3.mono hb2.size),HW2.out⟩
     · have hili : ¬ (i' : Int) < (l.length : Int) := by omega
       have HE:Hid (R=0):=by
        show _=_
        have:=HF'.out;rw[List.take_of_length_le (by omega)]at this
        rw[HR2.out,this];rfl
       go_wp2_with fail;go_ret;exact ⟨by rw[HE.out];rfl,hB'⟩
end
section
attribute [local go_sem] qk
def xV : Prop := ∀ (S : Nat → Prop)(n : Nat)(va vk : Value)(t : Tr)(w : World), qj S w va t.attrs → qd S w n vk t.kids → TextsN (n + 1) [t] → cnt (n + 1) [t] ≤ 1048576 → (∀ b, S b → b < w.heap.size) →
    Calls Tryz.prog 36 #[.agg #[.bool t.text,.string t.s,va,vk]] w fun e w'=>∃ v,e=.returned (.tuple #[.agg #[v],.int .i64 (y5 t)])∧qv (fun b=>w.heap.size≤b) w' v (yi n t)∧Below w.heap.size w w'
theorem JU {ns:List Nd}(h:yR ns):∀ (f n:Nat),Qu (treeF f ns n)∧TextsN f (treeF f ns n).kids:=by
 intro f
 induction f with
 | zero=>intro n;exact ⟨⟨nZ9 _,by intro y hy;simp[treeF]at hy⟩,trivial⟩
 | succ f ih =>
   intro n;rw[treeF];cases hx:ns[n]? with
   | none=>exact ⟨⟨nZ9 _,by intro y hy;simp at hy⟩,by intro t ht;simp at ht⟩
   | some x =>
     refine ⟨h x (List.mem_of_getElem? hx),fun t ht=>?_⟩
     simp only[List.mem_map]at ht
     obtain ⟨k,_,rfl⟩:=ht;exact ih _
theorem cnt_depR:∀ (d e:Nat)(ks:List Tr),Deep d ks→Deep e ks→cnt d ks=cnt e ks:=by
 intro d
 induction d with
 | zero=>intro e ks h _;have h:ks=[]:=h;subst h;rw[qx,qx]
 | succ d ih =>
   intro e ks h1 h2;cases e with
   | zero=>have h:ks=[]:=h2;subst h;rw[qx,qx]
   | succ e =>
     induction ks with
     | nil=>rw[qx,qx]
     | cons k r ihr =>
       rw[qO,qO,ih e k.kids (h1 k List.mem_cons_self) (h2 k List.mem_cons_self),ihr (fun t ht=>h1 t (List.mem_cons_of_mem _ ht)) (fun t ht=>h2 t (List.mem_cons_of_mem _ ht))]
theorem JM (d e:Nat):∀ (ks:List Tr)(a:Nat),(∀ k∈ks,Deep d k.kids∧Deep e k.kids)→qi d a ks=qi e a ks:=by
 intro ks
 induction ks with
 | nil=>intro a _;rfl
 | cons k r ih =>
   intro a h;have hk:=h k List.mem_cons_self;rw[qi,qi,qt,qt,cnt_depR d e _ hk.1 hk.2,ih _ (fun t ht=>h t (List.mem_cons_of_mem _ ht))]
theorem Kx (d e:Nat)(f g:Tr→Int→Nat→List Nd)(par:Nat):∀ (ks:List Tr)(a:Nat),(∀ k∈ks,Deep d k.kids∧Deep e k.kids)→(∀ k∈ks,∀ p a,f k p a=g k p a)→qp d f par a ks=qp e g par a ks:=by
 intro ks
 induction ks with
 | nil=>intro a _ _;rfl
 | cons k r ih =>
   intro a h hfg;have hk:=h k List.mem_cons_self;rw[qp,qp,qt,qt,cnt_depR d e _ hk.1 hk.2,hfg k List.mem_cons_self,ih _ (fun t ht=>h t (List.mem_cons_of_mem _ ht)) (fun t ht=>hfg t (List.mem_cons_of_mem _ ht))]
theorem lay_dep:∀ (d e:Nat)(t:Tr)(par:Int)(a:Nat),Deep d t.kids→Deep e t.kids→layF d t par a=layF e t par a:=by
 intro d
 induction d with
 | zero =>
   intro e t par a h1 h2;have h:t.kids=[]:=h1;cases e with
   | zero=>rfl
   | succ e=>rw[layF,layF,h];rfl
 | succ d ih =>
   intro e t par a h1 h2;cases e with
   | zero =>
     have h:t.kids=[]:=h2;rw[layF,layF,h];rfl
   | succ e =>
     rw[layF,layF,JM d e _ _ (fun k hk=>⟨h1 k hk,h2 k hk⟩),Kx d e (layF d) (layF e) a _ _ (fun k hk=>⟨h1 k hk,h2 k hk⟩) (fun k hk p q=>ih e k p q (h1 k hk) (h2 k hk))]
theorem YF {ns:List Nd}{x:Nd}{t:Tr}{n:Nat}(hx:ns[0]?=some x)(h80:ns.length≤80)(hp:x.parent=-1)(hps:yr ns ns.length=true)(ht:treeF ns.length ns 0=t)(hd:Deep n t.kids) :
 qu ns=(qR t&&ndsB (layF n t (-1) 0) ns):=by
 have hpos:0<ns.length:=qg hx;rw[Bool.eq_iff_iff,Zq,Bool.and_eq_true,ndsB_iff,ht]
 constructor
 · rintro ⟨_, _, _, _, hg, d, hd2, hl⟩;exact ⟨hg,by rw[lay_dep n d t (-1) 0 hd hd2];exact hl⟩
 · rintro ⟨hg, hl⟩;exact ⟨hpos,h80,⟨x,hx,hp⟩,hps,hg,n,hd,hl⟩
theorem yF {ns:List Nd}(h:¬ (0<ns.length∧ns.length≤80∧(∃ x,ns[0]?=some x∧x.parent=-1)∧yr ns ns.length=true)):qu ns=false:=by
 cases hg:qu ns with
 | false=>rfl
 | true =>
   have:=Zq.1 hg;exact absurd ⟨this.1,this.2.1,this.2.2.1,this.2.2.2.1⟩ h
theorem QP {ns:List Nd}{k:Nat}(h:yr ns k=false):∀ m,k≤m→yr ns m=false:=by
  intro m
  induction m with
  | zero => intro hm;have : k = 0 := by omega
            subst this;exact h
  | succ m ih =>
    intro hm
    by_cases hk:k=m+1
    · rw[←hk];exact h
    · rw[yr,ih (by omega)];rfl
set_option maxHeartbeats 2000000 in
theorem Xz (hM:xV):IsDocOk:=by
 intro S v ns w hD;have hb1:=Below.alloc1 w (.cells #[v] 24);have hx1:=heap_alloc_new w (.cells #[v] 24);have HD:Hid (Qn S w v ns):=hD;have HM:Hid xV:=hM;have HN1:Hid (qv S (w.alloc (.cells #[v] 24)) v ns):=hD.nodes.later hb1;obtain ⟨a,cap,rfl,hlc,hcm⟩:=hD.nodes.shape;unfold maxLen at hcm
 clear hD hM
 by_cases h0:ns.length=0
 · have hn : ns = [] := List.eq_nil_of_length_eq_zero h0;subst hn;have HE:Hid (qu []=false):=yF (by simp)
   clear hx1
   go_enter Tryz.func21,Tryz.ntmps21
   go_wp2_with fail;go_ret;exact ⟨by rw[HE.out];rfl,hb1⟩
 obtain ⟨x0,hx0⟩:∃ x,ns[0]?=some x:=⟨ns[0]'(by omega),by simp[show 0<ns.length by omega]⟩
 obtain ⟨b,o,cap2,xva,xvk,hv,_,_,hSb,hbw,_,_,_,c3,_,_,_⟩:=HN1.out.at hx0
 injection hv with hv1 hvl hv2
 subst hv1 hv2;clear hvl;have h0b:((ns.length:Int)==0)=false:=by simpa using h0
 have hpos:(0:Int)<(ns.length:Int):=by omega
 have c3z:(w.alloc (.cells #[.slice (some ⟨b,o,none⟩) ns.length cap] 24)).cell? ⟨b,o+3,none⟩=some (.int .i64 x0.parent):=by simpa using c3
 clear c3
 go_enter Tryz.func21,Tryz.ntmps21
 by_cases h80:ns.length≤80
 · have h80i : ¬ (80 : Int) < (ns.length : Int) := by omega
   by_cases hp0:x0.parent=-1
   · rw[hp0]at c3z
     go_wp2_with fail;have HN2:Hid (qv S (w.alloc (.cells #[.slice (some ⟨b,o,none⟩) ns.length cap] 24)) (.slice (some ⟨b,o,none⟩) ns.length cap) ns):=HN1.out
     generalize w.alloc (.cells #[.slice (some ⟨b,o,none⟩) ns.length cap] 24)=W1 at hb1 hx1 HN2 ⊢
     have hz1:=qh hx1;clear c3z HN1
     go_loopg [28] ns.length (fun g j wr=>∃ (k:Nat),k+g=ns.length∧j=.int .i64 (k:Int)∧Below W1.heap.size W1 wr∧yr ns k=true)
     case atStart => exact ⟨0,by omega,rfl,Below.refl _ _,rfl⟩
     case round =>
      obtain ⟨k,hk,rfl,hB,hpk⟩:=hrel;have HPK:Hid (yr ns k=true):=hpk;clear hpk;have hxr:=(hB.block _ hz1).trans hx1;have hBw:Below w.heap.size w wr:=hb1.trans (hB.mono hb1.size);have dr:wr.cell? ⟨w.heap.size,0,none⟩=some (.slice (some ⟨b,o,none⟩) ns.length cap):=by rw[cH9 hxr];rfl
      by_cases hkl:k<ns.length
      · have hkli : (k : Int) < (ns.length : Int) := by omega
        obtain ⟨y,hy⟩:∃ y,ns[k]?=some y:=⟨ns[k],by simp[hkl]⟩
        have HPS:Hid (yr ns (k+1)=(decide (k=0)||(decide (0≤y.parent)&&decide (y.parent<(k:Int))))):=by show _=_;rw[yr,HPK.out,hy];rfl
        obtain ⟨b',o',cap3,yva,yvk,hv,_,_,_,hbw2,c0,c1,c2,c3,c4,hAt,hKi⟩:=(HN2.out.later hB).at hy
        cases hv;obtain ⟨aa,ac,rfl⟩:=hAt.shape;obtain ⟨ka,kc,rfl,_,_⟩:=hKi.shape;have hBa:∀ X,Below W1.heap.size W1 (wr.alloc X):=fun X=>hB.alloc hB.size X
        have hBwa:∀ X,Below w.heap.size w (wr.alloc X):=fun X=>hBw.alloc hBw.size X
        clear hAt hKi hy hxr
        by_cases hk0:k=0
        · have HP2 : Hid (yr ns (k + 1) = true) := by show _ = _;rw[HPS.out];simp[hk0]
          have hk0i:¬ (0:Int)<(k:Int):=by omega
          clear hk0 HPS;go_wp2_with fail
          go_roundg (ns.length-(k+1))
          case measure => omega
          case rel => exact ⟨k+1,by omega,by go_num,hBa _,HP2.out⟩
        · have hk0i : (0 : Int) < (k : Int) := by omega
          by_cases hneg:y.parent<0
          · have HE:Hid (qu ns=false):=yF (fun h=>by
             have h1:yr ns (k+1)=false:=by rw[HPS.out];simp[hk0];omega
             have h2:=QP h1 ns.length (by omega)
             rw[h2]at h;exact absurd h.2.2.2 (by simp))
            clear hk0 HPS;go_wp2_with fail;go_ret;exact ⟨by rw[HE.out];rfl,hBwa _⟩
          · by_cases hge : (k : Int) ≤ y.parent
            · have HE:Hid (qu ns=false):=yF (fun h=>by
               have h1:yr ns (k+1)=false:=by rw[HPS.out];simp[hk0];omega
               have h2:=QP h1 ns.length (by omega)
               rw[h2]at h;exact absurd h.2.2.2 (by simp))
              clear hk0 HPS;go_wp2_with fail;go_ret;exact ⟨by rw[HE.out];rfl,hBwa _⟩
            · have HP2 : Hid (yr ns (k + 1) = true) := by show _ = _;rw[HPS.out];simp[hk0];omega
              clear hk0 HPS;go_wp2_with fail
              go_roundg (ns.length-(k+1))
              case measure => omega
              case rel => exact ⟨k+1,by omega,by go_num,hBa _,HP2.out⟩
      · have hkli : ¬ ((k : Int) < (ns.length : Int)) := by omega
        have hkk:k=ns.length:=by omega
        have HPA:Hid (yr ns ns.length=true):=by show _=_;rw[←hkk];exact HPK.out
        have HT:Hid _:=JT ns.length S _ ns 0 wr (HD.out.later hBw).nodes HD.out.few h80 (by omega) (by omega)
        rw[show ((0:Nat):Int)=0 from rfl]at HT
        obtain ⟨t,ht⟩:∃ t,treeF ns.length ns 0=t:=⟨_,rfl⟩
        have HX:Hid (TextsN (ns.length+1) [t]):=by
         show TextsN (ns.length+1) [t]
         intro u hu;rw[List.mem_singleton]at hu
         rw[hu,←ht];exact JU HD.out.short _ _
        have HCT:Hid (cnt (ns.length+1) [t]≤1048576):=by show cnt (ns.length+1) [t]≤1048576;rw[←ht];exact KW (by omega) h80 h80
        rw[ht]at HT
        have HPT:Hid (∀ n,Deep n t.kids→qu ns=(qR t&&ndsB (layF n t (-1) 0) ns)):=fun n hd=>YF hx0 h80 hp0 HPA.out ht hd
        clear hkk ht hx0;go_wp2_with fail;refine (Calls.mono HT.out ?_);rintro e w3 ⟨va,vk,rfl,hA,hK,hb3⟩;have HTD:Hid _:=HPT.out _ (qd.deep _ hK);have HMM:Hid _:=HM.out _ _ _ _ t w3 hA.bounded (qd.bounded _ hK) HX.out HCT.out (fun b hb=>hb.2)
        obtain ⟨aa,ac,rfl⟩:=hA.shape;obtain ⟨ka,kc,rfl,_,_⟩:=qd.shape _ hK;have hB3:Below w.heap.size w w3:=hBw.trans (hb3.mono hBw.size);have hx3:=(hb3.block _ (qh hxr)).trans hxr;have d3:w3.cell? ⟨w.heap.size,0,none⟩=some (.slice (some ⟨b,o,none⟩) ns.length cap):=by rw[cH9 hx3];rfl
        clear hA hK HT;go_wp2_with fail;refine (Calls.mono HMM.out ?_);rintro e w4 ⟨v4,rfl,hN4,hb4⟩;have hB4:Below w.heap.size w w4:=hB3.trans (hb4.mono hB3.size);have hx4:=(hb4.block _ (qh hx3)).trans hx3;have d4:w4.cell? ⟨w.heap.size,0,none⟩=some (.slice (some ⟨b,o,none⟩) ns.length cap):=by rw[cH9 hx4];rfl
        have hb5:=Below.alloc1 w4 (.cells #[v4] 24);have HSD:Hid _:=QR _ S _ _ _ ns _ (hN4.later hb5) (HD.out.later (hB4.alloc hB4.size (.cells #[v4] 24))).nodes;have hx5:=(hb5.block _ (qh hx4)).trans hx4;have d5:(w4.alloc (.cells #[v4] 24)).cell? ⟨w.heap.size,0,none⟩=some (.slice (some ⟨b,o,none⟩) ns.length cap):=by rw[cH9 hx5];rfl
        have hB5:Below w.heap.size w (w4.alloc (.cells #[v4] 24)):=hB4.alloc hB4.size _;obtain ⟨a4,cap4,rfl,_,_⟩:=hN4.shape;obtain ⟨g,hg⟩:∃ g,qR t=g:=⟨_,rfl⟩;obtain ⟨q,hq⟩:∃ q,(yi ns.length t).length=q:=⟨_,rfl⟩;rw[hq]at HSD hB5 d5 ⊢
        unfold y5;unfold yi at HSD
        rw[hg]at HTD HSD ⊢
        clear hN4 HMM hg hxr hx3 hx4 hx5 hb5 hq;cases g with
        | false =>
          have HE:Hid (qu ns=false):=by show _=_;rw[HTD.out];rfl
          clear HTD HSD;go_wp2_with fail;go_ret;exact ⟨by rw[HE.out];rfl,hB5⟩
        | true =>
          have HE:Hid (qu ns=ndsB (layF ns.length t (-1) 0) ns):=by show _=_;rw[HTD.out];rfl
          clear HTD;simp only[if_true]at HSD
          go_wp2_with fail;refine (Calls.mono HSD.out ?_);rintro e w6 ⟨rfl,hb6⟩;go_wp2_with fail;go_ret;exact ⟨by rw[HE.out];rfl,hB5.trans (hb6.mono hB5.size)⟩
   · have hpb : (x0.parent == -1) = false := by simpa using hp0
     have HE:Hid (qu ns=false):=yF (fun h=>by obtain ⟨_,_,⟨x,hx,hp⟩,_⟩:=h;rw[hx0]at hx;cases hx;exact hp0 hp)
     clear hp0 hx0 HN1;go_wp2_with fail;go_ret;exact ⟨by rw[HE.out];rfl,hb1⟩
 · have h80i : (80 : Int) < (ns.length : Int) := by omega
   have HE:Hid (qu ns=false):=yF (fun h=>h80 h.2.1)
   clear h80 hx0 HN1;go_wp2_with fail;go_ret;exact ⟨by rw[HE.out];rfl,hb1⟩
end
end Go.Proofs.YtnppmdpmippcoaaGreatDoor
