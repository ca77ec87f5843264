/- Bundled: ContL ContW CheckW. What each says stands ahead of it. -/
import Derived.Shelf.SlicesQ.IndexFunc
import Derived.Test.YtfplhcicbbhljaaGreatDoorBundle20
/- laid -/
namespace Go.Proofs
open Go.Shelf
shelf_try shelf_lay_g SlLaysH0.n8 Slgf 8 at Tryz 143 as Tryz.contO
shelf_tried
end Go.Proofs
namespace Go.Proofs.YtfplhcicbbhljaaGreatDoor
open Go.ChangeShapes Go.WideShapes Go.ChangeAt Go.RowKit
set_option maxRecDepth 100000
section
attribute [local go_sem] qd
instance:Inhabited Opn:=⟨⟨0,0,[],⟨#[]⟩,⟨#[]⟩⟩⟩
theorem V6 (a o:Opn)(va vc:Value)(p:Nat)(w:World)(x0:w.cell? ⟨p,0,none⟩=some (.int .i64 o.kind))(x1:w.cell? ⟨p,1,none⟩=some (.int .i64 o.target))(x2:w.cell? ⟨p,2,none⟩=some vc)(x3:w.cell? ⟨p,3,none⟩=some (.string o.name))(x4:w.cell? ⟨p,4,none⟩=some (.string o.s)) :
 Calls Tryz.prog 144 #[.agg #[.int .i64 a.kind,.int .i64 a.target,va,.string a.name,.string a.s],.pointer (some ⟨p,0,none⟩)] w fun e w'=>e=.returned (.bool (agB a o))∧Below w.heap.size w w':=by
 have HA:Hid (∀ W,Calls Tryz.prog 145 #[.agg #[.int .i64 a.kind,.int .i64 a.target,va,.string a.name,.string a.s],.agg #[.int .i64 o.kind,.int .i64 o.target,vc,.string o.name,.string o.s]] W fun e w'=>e=.returned (.bool (agB a o))∧Below W.heap.size W w'):=fun W=>Ks a o va vc W
 have hb:=Below.alloc1 w (.cells #[.int .i64 a.kind,.int .i64 a.target,va,.string a.name,.string a.s] 24);have hpw:p<w.heap.size:=World.block_lt_of_cell? w _ x0;rw[←World.cell?_of_block (a:=⟨p,0,none⟩) (hb.block p hpw)]at x0
 rw[←World.cell?_of_block (a:=⟨p,1,none⟩) (hb.block p hpw)]at x1
 rw[←World.cell?_of_block (a:=⟨p,2,none⟩) (hb.block p hpw)]at x2
 rw[←World.cell?_of_block (a:=⟨p,3,none⟩) (hb.block p hpw)]at x3
 rw[←World.cell?_of_block (a:=⟨p,4,none⟩) (hb.block p hpw)]at x4
 go_enter Tryz.func144,Tryz.ntmps144
 go_wp2_with fail;refine (HA.out _).mono ?_;rintro e w1 ⟨rfl,hb1⟩;go_wp2_with fail;go_ret;exact ⟨rfl,hb.trans (hb1.mono hb.size)⟩
def qaf (z:Opn × Value):List Value:=[.int .i64 z.1.kind,.int .i64 z.1.target,z.2,.string z.1.name,.string z.1.s]
theorem XQ (S:Nat→Prop)(n:Nat)(b off cap m i:Nat)(l:List Opn)(o:Opn)(vc:Value)(p:Nat)(w:World)(h:Ops S w n (.slice (some ⟨b,off,none⟩) m cap) l)(hi:i≤l.length)(hl:l.length≤20)(hbw:b<w.heap.size)
 (x0:w.cell? ⟨p,0,none⟩=some (.int .i64 o.kind)) (x1:w.cell? ⟨p,1,none⟩=some (.int .i64 o.target)) (x2:w.cell? ⟨p,2,none⟩=some vc) (x3:w.cell? ⟨p,3,none⟩=some (.string o.name)) (x4:w.cell? ⟨p,4,none⟩=some (.string o.s)) (c:Nat) :
 Calls Tryz.prog 143 #[.slice (some ⟨b,off,none⟩) i c,.func (.func 144) #[] #[.pointer (some ⟨p,0,none⟩)]] w fun e w'=>e=.returned (.bool ((l.take i).any (fun e=>agB e o)))∧Below w.heap.size w w':=by
 obtain ⟨zs,hz,hc⟩:=h.pairs;have hlen:zs.length=l.length:=by rw[←hz];simp
 have hpw:p<w.heap.size:=World.block_lt_of_cell? w _ x0
 have e:(zs.take i).any (fun z=>agB z.1 o)=(l.take i).any (fun e=>agB e o):=by
  rw[←hz,←List.map_take,List.any_map];rfl
 rw[←e];refine AnyQ.slices_ContainsFunc Tryz.contO 5 (by exact Tryz.isAgg24) (by exact Tryz.sizeOf24) qaf (fun _=>rfl) (fun z=>agB z.1 o) 144 #[.pointer (some ⟨p,0,none⟩)] ?_ b off i c zs w ?_ (by omega) (by omega) hbw ?_
 · exact enters_of Tryz.func144 (by kernel_rfl) rfl
 · intro W z hW;have k:∀ q,W.cell? ⟨p,q,none⟩=w.cell? ⟨p,q,none⟩:=fun q=>World.cell?_of_block (a:=⟨p,q,none⟩) (hW.block p hpw)
   refine (V6 z.1 o z.2 vc p W ((k 0).trans x0) ((k 1).trans x1) ((k 2).trans x2) ((k 3).trans x3) ((k 4).trans x4)).mono ?_;rintro e w1 ⟨rfl,hb1⟩;exact ⟨rfl,hW.trans (hb1.mono hW.size)⟩
 · intro j hj q v hv;have hzj:zs[j]?=some zs[j]!:=by simp[hj]
   obtain ⟨c0,c1,c2,c3,c4⟩:=hc j _ hzj
   rcases q with _|_|_|_|_|q
   · have : v = .int .i64 (zs[j]!).1.kind := by simpa[qaf] using hv.symm
     subst this;exact c0
   · have : v = .int .i64 (zs[j]!).1.target := by simpa[qaf] using hv.symm
     subst this;exact c1
   · have : v = (zs[j]!).2 := by simpa[qaf] using hv.symm
     subst this;exact c2
   · have : v = .string (zs[j]!).1.name := by simpa[qaf] using hv.symm
     subst this;exact c3
   · have : v = .string (zs[j]!).1.s := by simpa[qaf] using hv.symm
     subst this;exact c4
   · simp[qaf]at hv
end
section
attribute [local go_sem] qd
set_option maxHeartbeats 4000000 in
theorem qbR (S:Nat→Prop)(n:Nat)(vn v:Value)(ns:List Nd)(l:List Opn)(w:World)(hN:qB S w vn ns)(hS:∀ b,S b→b<w.heap.size)(ha:∀ x∈ns,x.attrs.length≤4398046511104)(hx:Qq ns)(hO:Ops S w n v l)(ht:XJ n l) :
 Calls Tryz.prog 110 #[.agg #[vn],v] w fun e w'=>e=.returned (.int .i64 (YK ns l))∧Below w.heap.size w w':=by
 have HG:Hid (∀ W,Below w.heap.size w W→Calls Tryz.prog 115 #[.agg #[vn]] W fun e w'=>e=.returned (.bool (qG ns))∧Below W.heap.size W w'):=fun W hW=>Xi S vn ns W (hN.later hW) (fun b hb=>Nat.lt_of_lt_of_le (hS b hb) hW.size) ha hx
 have HN:Hid (qB S w vn ns):=hN;have HO:Hid (Ops S w n v l):=hO;have HT:Hid (XJ n l):=ht;have HC:Hid (YK ns l=if !qG ns then 1 else if 20<l.length then 2 else if z8 ns l≠0 then z8 ns l else if twiceB l then 5 else 0):=rfl
 obtain ⟨na,nc,rfl,hnl,hnc⟩:=hN.shape;obtain ⟨la,lc,rfl,hll,hlc⟩:=hO.shape;clear hN hO ht ha hx hS;unfold maxLen at hnc hlc
 have hb:=Below.alloc1 w (.cells #[.slice na ns.length nc] 60)
 generalize YK ns l=R at *
 cases hg:qG ns with
 | false =>
   rw[hg]at HG HC
   have HR:Hid (R=1):=by show _=_;rw[HC.out];rfl
   clear HC hg
   go_enter Tryz.func110,Tryz.ntmps110
   go_wp2_with fail;refine (HG.out _ hb).mono ?_;rintro e w1 ⟨rfl,hb1⟩;go_wp2_with fail;go_ret;exact ⟨by rw[HR.out];rfl,hb.trans (hb1.mono hb.size)⟩
 | true =>
 rw[hg]at HG HC
 clear hg
 by_cases h20:20<l.length
 · have HR : Hid (R = 2) := by show _ = _;rw[HC.out];simp[h20]
   have h20i:(20:Int)<(l.length:Int):=by omega
   clear HC
   go_enter Tryz.func110,Tryz.ntmps110
   go_wp2_with fail;refine (HG.out _ hb).mono ?_;rintro e w1 ⟨rfl,hb1⟩;go_wp2_with fail;go_ret;exact ⟨by rw[HR.out];rfl,hb.trans (hb1.mono hb.size)⟩
 have HR:Hid (R=if z8 ns l≠0 then z8 ns l else if twiceB l then 5 else 0):=by show _=_;rw[HC.out];simp[h20]
 have h20i:¬ (20:Int)<(l.length:Int):=by omega
 clear HC
 go_enter Tryz.func110,Tryz.ntmps110
 go_wp2_with fail;refine (HG.out _ hb).mono ?_;rintro e w1 ⟨rfl,hb1⟩;have hB1:=hb.trans (hb1.mono hb.size);have hz1:w.heap.size<w1.heap.size:=by have:=hb1.size;simp at this;omega
 have HB1:Hid (w1.heap[w.heap.size]?=some (.cells #[.slice na ns.length nc] 60 (0,0))):=yn hb1;go_wp2_with fail
 go_loopg [18] l.length (fun g j wr=>∃ (i:Nat),i+g=l.length∧j=.int .i64 (i:Int)∧Below w.heap.size w wr∧w.heap.size<wr.heap.size∧wr.heap[w.heap.size]?=some (.cells #[.slice na ns.length nc] 60 (0,0))∧z8 ns (l.take i)=0)
 case atStart => exact ⟨0,by omega,rfl,hB1,hz1,HB1.out,rfl⟩
 case round =>
  obtain ⟨i,hi,rfl,hB,hz,hbx,hF⟩:=hrel;have HF:Hid (z8 ns (l.take i)=0):=hF;have HBX:Hid (wr.heap[w.heap.size]?=some (.cells #[.slice na ns.length nc] 60 (0,0))):=hbx;have hd0:wr.cell? ⟨w.heap.size,0,none⟩=some (.slice na ns.length nc):=by simp[World.cell?,hbx]
  clear hF hbx hB1 hz1 HB1 hb1
  by_cases hil:i<l.length
  · obtain ⟨x, hx⟩ : ∃ x, l[i]? = some x := ⟨l[i], by simp[hil]⟩
    obtain ⟨b,o,c2,ca,cc,hv,hSb,hbw,e0,e1,e2,e3,e4,hT⟩:=(HO.out.later hB).at hx
    injection hv with hv1 _ hv2
    subst hv1 hv2;have HX:=qdn HF.out hx;have hXT:=HT.out x (List.mem_of_getElem? hx);have hili:(i:Int)<(l.length:Int):=by omega
    have hb2:=hB.alloc (Nat.le_of_lt hz) (.cells #[.int .i64 x.kind,.int .i64 x.target,.slice ca x.content.length cc,.string x.name,.string x.s] 24)
    have HW:Hid (∀ W,Below wr.heap.size wr W→Calls Tryz.prog 142 #[.slice na ns.length nc,.agg #[.int .i64 x.kind,.int .i64 x.target,.slice ca x.content.length cc,.string x.name,.string x.s]] W fun e w'=>e=.returned (.int .i64 (yU ns x))∧Below W.heap.size W w') :=
     fun W hW=>J4 S n _ ca cc ns x W ((HN.out.later hB).later hW) (hT.later hW) hXT.1 hXT.2.1 hXT.2.2
    have hba:=Below.alloc1 wr (.cells #[.int .i64 x.kind,.int .i64 x.target,.slice ca x.content.length cc,.string x.name,.string x.s] 24);have HX1:Hid (z8 ns (l.take (i+1))=yU ns x):=HX.1;have HX2:Hid (yU ns x≠0→z8 ns l=yU ns x):=HX.2;clear HX hXT hT hx
    generalize yU ns x=q at *
    by_cases hq:q=0
    · subst hq;go_wp2_with fail;refine (HW.out _ hba).mono ?_;rintro e w3 ⟨rfl,hb3⟩;have hB3:=hb2.trans (hb3.mono hb2.size);have hs3:=hb3.size;have hs3':(wr.alloc (.cells #[.int .i64 x.kind,.int .i64 x.target,.slice ca x.content.length cc,.string x.name,.string x.s] 24)).heap.size=wr.heap.size+1:=by simp
      have k3:w3.heap[w.heap.size]?=wr.heap[w.heap.size]?:=(hb3.block _ (by omega)).trans (hba.block _ hz)
      have HB3:Hid (w3.heap[w.heap.size]?=some (.cells #[.slice na ns.length nc] 60 (0,0))):=k3.trans HBX.out;have hz3:w.heap.size<w3.heap.size:=by omega
      clear k3 hs3 hs3';go_wp2_with fail
      go_roundg (l.length-(i+1))
      case measure => omega
      case rel => exact ⟨i+1,by omega,by go_num,hB3,hz3,HB3.out,HX1.out⟩
    · have b1 : (q == 0) = false := by simpa using hq
      have HE:Hid (R=q):=by
       show _=_
       rw[HR.out,HX2.out hq,if_pos hq]
      clear hq;go_wp2_with fail;refine (HW.out _ hba).mono ?_;rintro e w3 ⟨rfl,hb3⟩;have hB3:=hb2.trans (hb3.mono hb2.size);go_wp2_with fail;go_ret;exact ⟨by rw[HE.out];rfl,hB3⟩
  · have hili : ¬ (i : Int) < (l.length : Int) := by omega
    have HF2:Hid (z8 ns l=0):=by
     show _=_
     have:=HF.out
     rwa [List.take_of_length_le (by omega)]at this
    have HR2:Hid (R=if twiceB l then 5 else 0):=by show _=_;rw[HR.out,HF2.out];simp
    clear HF HF2 HBX hd0;go_wp2_with fail
    go_loopg [32] l.length (fun g j wr=>∃ (i:Nat),i+g=l.length∧j=.int .i64 (i:Int)∧Below w.heap.size w wr∧twiceB (l.take i)=false)
    case atStart => exact ⟨0,by omega,rfl,hB,rfl⟩
    case round =>
     obtain ⟨i',hi',rfl,hB',hF'⟩:=hrel;have HF':Hid (twiceB (l.take i')=false):=hF';clear hF' hili hil hi
     by_cases hil:i'<l.length
     · obtain ⟨x, hx⟩ : ∃ x, l[i']? = some x := ⟨l[i'], by simp[hil]⟩
       have HO':Hid (Ops S _ n (.slice la l.length lc) l):=HO.out.later hB';obtain ⟨b,o,c2,ca,cc,hv,hSb,hbw,e0,e1,e2,e3,e4,hT⟩:=HO'.out.at hx
       injection hv with hv1 _ hv2
       subst hv1 hv2;have hili:(i':Int)<(l.length:Int):=by omega
       have hba:=Below.alloc1 wr (.cells #[.int .i64 x.kind,.int .i64 x.target,.slice ca x.content.length cc,.string x.name,.string x.s] 24);have hb2:=hB'.alloc hB'.size (.cells #[.int .i64 x.kind,.int .i64 x.target,.slice ca x.content.length cc,.string x.name,.string x.s] 24)
       have HK:Hid (∀ c,Calls Tryz.prog 143 #[.slice (some ⟨b,o,none⟩) i' c,.func (.func 144) #[] #[.pointer (some ⟨wr.heap.size,0,none⟩)]] (wr.alloc (.cells #[.int .i64 x.kind,.int .i64 x.target,.slice ca x.content.length cc,.string x.name,.string x.s] 24)) fun e w'=>e=.returned (.bool ((l.take i').any (fun e=>agB e x)))∧Below (wr.alloc (.cells #[.int .i64 x.kind,.int .i64 x.target,.slice ca x.content.length cc,.string x.name,.string x.s] 24)).heap.size (wr.alloc (.cells #[.int .i64 x.kind,.int .i64 x.target,.slice ca x.content.length cc,.string x.name,.string x.s] 24)) w') :=
        fun c=>XQ S n b o _ _ i' l x (.slice ca x.content.length cc) wr.heap.size _ (HO'.out.later hba) (by omega) (by omega) (Nat.lt_of_lt_of_le hbw hba.size) (by simp) (by simp) (by simp) (by simp) (by simp) c
       have HW2:Hid (twiceB (l.take (i'+1))=(l.take i').any (fun e=>agB e x)):=by show _=_;rw[twice_take l i' x hx,HF'.out];rfl
       clear hx HF'
       generalize (l.take i').any (fun e=>agB e x)=q at *
       have hi'l:(i':Int)≤(lc:Int):=by omega
       cases q with
       | true =>
         have HE:Hid (R=5):=by show _=_;rw[HR2.out,twice_mono l _ HW2.out];rfl
         go_wp2_with fail;refine (HK.out _).mono ?_;rintro e w3 ⟨rfl,hb3⟩;go_wp2_with fail;go_ret;exact ⟨by rw[HE.out];rfl,hb2.trans (hb3.mono hb2.size)⟩
       | false =>
         go_wp2_with fail;refine (HK.out _).mono ?_;rintro e w3 ⟨rfl,hb3⟩;go_wp2_with fail
         go_roundg (l.length-(i'+1))
         case measure => omega
         case rel => exact ⟨i'+1,by omega,by go_num,hb2.trans (hb3.mono hb2.size),HW2.out⟩
     · have hili : ¬ (i' : Int) < (l.length : Int) := by omega
       have HE:Hid (R=0):=by
        show _=_
        have:=HF'.out;rw[List.take_of_length_le (by omega)]at this
        rw[HR2.out,this];rfl
       go_wp2_with fail;go_ret;exact ⟨by rw[HE.out];rfl,hB'⟩
end
end Go.Proofs.YtfplhcicbbhljaaGreatDoor
