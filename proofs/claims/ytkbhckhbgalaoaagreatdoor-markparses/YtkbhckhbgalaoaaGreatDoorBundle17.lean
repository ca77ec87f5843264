/- Bundled: GoodA SameR RefSame Same. What each says stands ahead of it. -/
import Derived.Test.YtkbhckhbgalaoaaGreatDoorBundle02
import Derived.Test.YtkbhckhbgalaoaaGreatDoorBundle10
import Derived.Deep.RegionWith
import Derived.BigQuiet
import Derived.WalkSmall
namespace Go.Proofs.YtkbhckhbgalaoaaGreatDoor
open Go.ChangeShapes Go.WideShapes Go.ChangeAt Go.RowKit
set_option maxRecDepth 100000
section
theorem Xf (t:TypeId)(a b:ByteArray):binOp .geq t (.string a) (.string b)=pure (.bool (!(Op.bytesLess a.toList b.toList))):=by simp[binOp,Op.stringOp]
attribute [local go_sem] Xf
def okA (l:List (ByteArray × ByteArray))(i:Nat):Bool :=
 match l[i]? with
 | none=>true
 | some x => qK x.1 && qA x.2 && (match i with
   | 0=>true
   | j + 1 => match l[j]? with
     | none=>true
     | some y=>Op.bytesLess y.1.toList x.1.toList)
def qD (l:List (ByteArray × ByteArray)):Bool:=decide (l.length≤4)&&(List.range l.length).all (okA l)
theorem z7 {l:List (ByteArray × ByteArray)}{k:Nat}(h:k<l.length)(hk:okA l k=false):qD l=false:=by
 unfold qD
 have:(List.range l.length).all (okA l)=false:=by
  rw[List.all_eq_false];exact ⟨k,by simpa using h,by simp[hk]⟩
 rw[this];simp
theorem x8 (S:Nat→Prop)(v:Value)(l:List (ByteArray × ByteArray))(w:World)(h:qf S w v l)(hl:∀ x∈l,x.1.size≤maxLen∧x.2.size≤maxLen) :
 Calls Tryz.prog 95 #[v] w fun e w'=>e=.returned (.bool (qD l))∧Below w.heap.size w w':=by
 obtain ⟨a,cap,rfl,_,hm,h5⟩:=h;unfold maxLen at hm
 by_cases h4:4<l.length
 · go_enter Tryz.func95, Tryz.ntmps95
   go_wp2_with fail;go_ret;exact ⟨by simp[qD];omega,Below.refl _ _⟩
 · have h4' : l.length ≤ 4 := by omega
   clear h4
   go_enter Tryz.func95,Tryz.ntmps95
   go_wp2_with fail
   go_loopg [10] l.length (fun g i wr=>∃ k:Nat,k+g=l.length∧i=.int .i64 k∧(∀ i,i<k→okA l i=true)∧Below w.heap.size w wr)
   case atStart => exact ⟨0,by omega,rfl,fun i hi=>by omega,Below.refl _ _⟩
   case round =>
    obtain ⟨k,hk,rfl,hok,hB⟩:=hrel;have HO:Hid (∀ i,i<k→okA l i=true):=hok;clear hok
    by_cases hlt:k<l.length
    · have hne : l ≠ [] := by intro e;subst e;simp at hlt
      obtain ⟨b,o,rfl,hs,hcc⟩:=h5 hne;obtain ⟨x,hx⟩:∃ x,l[k]?=some x:=⟨l[k],by simp[hlt]⟩
      obtain ⟨c0,c1⟩:=hcc k x hx;have hbl:b<w.heap.size:=World.block_lt_of_cell? w _ c0;rw[←hB.cell (p:=⟨b,o+k*2,none⟩) hbl]at c0
      rw[←hB.cell (p:=⟨b,o+k*2+1,none⟩) hbl]at c1
      have hsz:=hB.size;have hblr:b<wr.heap.size:=by omega
      have hxl:=hl x (List.mem_of_getElem? hx);have HX:Hid (l[k]?=some x):=hx
      have next:okA l k=true→∀ i,i<k+1→okA l i=true:=by
       intro h i hi
       by_cases hik:i=k
       · rw[hik];exact h
       · exact HO.out i (by omega)
      have HN:Hid (okA l k=true→∀ i,i<k+1→okA l i=true):=next;clear hx next;cases hn:qK x.1 with
      | false =>
        have HK:Hid (okA l k=false):=by show _=_;unfold okA;rw[HX.out];simp[hn]
        clear h5 hcc;go_wp2_with fail;refine (zI x.1 _ hxl.1).mono ?_;rintro e w' ⟨rfl,rfl⟩;rw[hn];go_wp2_with fail;go_ret;exact ⟨by rw[z7 hlt HK.out];rfl,hB.alloc hsz _⟩
      | true =>
        cases hp:qA x.2 with
        | false =>
          have HK:Hid (okA l k=false):=by show _=_;unfold okA;rw[HX.out];simp[hp]
          clear h5 hcc;go_wp2_with fail;refine (zI x.1 _ hxl.1).mono ?_;rintro e w' ⟨rfl,rfl⟩;rw[hn];go_wp2_with fail;refine (zj x.2 _ hxl.2).mono ?_;rintro e w' ⟨rfl,rfl⟩;rw[hp];go_wp2_with fail;go_ret;exact ⟨by rw[z7 hlt HK.out];rfl,hB.alloc hsz _⟩
        | true =>
          by_cases h0:k=0
          · subst h0;have HK:Hid (okA l 0=true):=by show _=_;unfold okA;rw[HX.out];simp[hn,hp]
            have hkb:decide ((0:Int)<(0:Int))=false:=by simp
            clear h5 hcc;simp only[Nat.zero_mul,Nat.add_zero]at c0 c1
            rw[show ((0:Nat):Int)=0 from rfl]
            go_wp2_with fail;refine (zI x.1 _ hxl.1).mono ?_;rintro e w' ⟨rfl,rfl⟩;rw[hn];go_wp2_with fail;refine (zj x.2 _ hxl.2).mono ?_;rintro e w' ⟨rfl,rfl⟩;rw[hp];go_wp2_with fail
            go_quiet (fail)
            go_wp2_with fail
            go_roundg (l.length-1)
            case measure => omega
            case rel => exact ⟨1,by omega,by go_num,HN.out HK.out,below_drewN (hB.alloc hsz _) nq⟩
          · obtain ⟨j, rfl⟩ : ∃ j, k = j + 1 := ⟨k - 1, by omega⟩
            obtain ⟨y,hy⟩:∃ y,l[j]?=some y:=⟨l[j]'(by omega),by simp⟩
            have d0:=(hcc j y hy).1;rw[←hB.cell (p:=⟨b,o+j*2,none⟩) hbl]at d0
            have hj1:(j:Int)<(l.length:Int):=by omega
            have hj2:(j:Int)+1<(l.length:Int):=by omega
            have hkb:decide ((0:Int)<(j:Int)+1)=true:=by simp
            have hk0:(0:Int)<(j:Int)+1:=by omega
            have hwj:IntKind.i64.wrap (j:Int)=(j:Int):=IntWalk.i64_in _ (by omega)
            have HY:Hid (l[j]?=some y):=hy;clear h5 hcc hy;cases hlss:Op.bytesLess y.1.toList x.1.toList with
            | false =>
              have HK:Hid (okA l (j+1)=false):=by show _=_;unfold okA;rw[HX.out];simp only[];rw[HY.out];simp[hlss]
              go_wp2_with fail;refine (zI x.1 _ hxl.1).mono ?_;rintro e w' ⟨rfl,rfl⟩;rw[hn];go_wp2_with fail;refine (zj x.2 _ hxl.2).mono ?_;rintro e w' ⟨rfl,rfl⟩;rw[hp];go_wp2_with fail
              go_quiet (fail)
              go_wp2_with fail;go_ret;exact ⟨by rw[z7 hlt HK.out];rfl,below_drewN (hB.alloc hsz _) nq⟩
            | true =>
              have HK:Hid (okA l (j+1)=true):=by show _=_;unfold okA;rw[HX.out];simp only[];rw[HY.out];simp[hlss,hn,hp]
              go_wp2_with fail;refine (zI x.1 _ hxl.1).mono ?_;rintro e w' ⟨rfl,rfl⟩;rw[hn];go_wp2_with fail;refine (zj x.2 _ hxl.2).mono ?_;rintro e w' ⟨rfl,rfl⟩;rw[hp];go_wp2_with fail
              go_quiet (fail)
              go_wp2_with fail
              go_roundg (l.length-(j+2))
              case measure => omega
              case rel => exact ⟨j+2,by omega,by go_num,HN.out HK.out,below_drewN (hB.alloc hsz _) nq⟩
    · go_wp2_with fail;go_ret;refine ⟨?_,hB⟩
      have:qD l=true:=by
       unfold qD;simp only[Bool.and_eq_true,decide_eq_true_eq,List.all_eq_true,List.mem_range];exact ⟨h4',fun i hi=>HO.out i (by omega)⟩
      rw[this];rfl
end
end Go.Proofs.YtkbhckhbgalaoaaGreatDoor
/- topiaryref.SameTrees, SameTree and sameAttrs: what is the same is told to be the same. No condition. -/
namespace Go.Proofs.YtkbhckhbgalaoaaGreatDoor
open Go.ChangeShapes Go.WideShapes Go.ChangeAt Go.RowKit
set_option maxRecDepth 100000
end Go.Proofs.YtkbhckhbgalaoaaGreatDoor
namespace Go.Proofs.YtkbhckhbgalaoaaGreatDoor
open Go.ChangeShapes Go.WideShapes Go.ChangeAt Go.RowKit
set_option maxRecDepth 100000
theorem JP {α:Type}{l m:List α}(hl:l.length=m.length)(h:l.take l.length=m.take l.length):l=m:=by
 rw[List.take_length,hl,List.take_length]at h;exact h
theorem Q4 (S S':Nat→Prop)(v v':Value)(l m:List (ByteArray × ByteArray))(w:World)(h1:qf S w v l)(h2:qf S' w v' m) :
 Calls Tryz.prog 19 #[v,v'] w fun e w'=>e=.returned (.bool (decide (l=m)))∧Below w.heap.size w w':=by
 obtain ⟨a,cap,rfl,_,hm,h5⟩:=h1;obtain ⟨a',cap',rfl,_,_,h5'⟩:=h2;unfold maxLen at hm
 by_cases hlen:l.length=m.length
 · have hne : ((l.length : Int) != m.length) = false := by simp[hlen]
   have HL:Hid (l.length=m.length):=hlen;clear hlen
   go_enter Tryz.func19,Tryz.ntmps19
   go_wp2_with fail
   go_loopg [13] l.length (fun g i wr=>∃ k:Nat,k+g=l.length∧i=.int .i64 k∧Below w.heap.size w wr∧l.take k=m.take k)
   case atStart => exact ⟨0,by omega,rfl,Below.refl _ _,by simp⟩
   case round =>
    obtain ⟨k,hk,rfl,hB,htk⟩:=hrel;have HTK:Hid (l.take k=m.take k):=htk;clear htk
    by_cases hlt:k<l.length
    · have hne1 : l ≠ [] := by intro e;subst e;simp at hlt
      have hlt':k<m.length:=by have:=HL.out;omega
      have hne2:m≠[]:=by intro e;subst e;simp at hlt'
      obtain ⟨b,o,rfl,hs,hcc⟩:=h5 hne1;obtain ⟨b',o',rfl,hs',hcc'⟩:=h5' hne2;obtain ⟨x,hx⟩:∃ x,l[k]?=some x:=⟨l[k],by simp[hlt]⟩
      obtain ⟨y,hy⟩:∃ y,m[k]?=some y:=⟨m[k],by simp[hlt']⟩
      obtain ⟨c0,c1⟩:=hcc k x hx;obtain ⟨c0',c1'⟩:=hcc' k y hy;have hbl:b<w.heap.size:=World.block_lt_of_cell? w _ c0;have hbl':b'<w.heap.size:=World.block_lt_of_cell? w _ c0';rw[←hB.cell (p:=⟨b,o+k*2,none⟩) hbl]at c0
      rw[←hB.cell (p:=⟨b,o+k*2+1,none⟩) hbl]at c1
      rw[←hB.cell (p:=⟨b',o'+k*2,none⟩) hbl']at c0'
      rw[←hB.cell (p:=⟨b',o'+k*2+1,none⟩) hbl']at c1'
      have hlti:(k:Int)<(l.length:Int):=by omega
      have hlti':(k:Int)<(m.length:Int):=by omega
      have hstep:x=y→l.take (k+1)=m.take (k+1):=by
       intro e;have e1:l.take (k+1)=l.take k++[x]:=by rw[List.take_succ_eq_append_getElem hlt];congr 2;simpa[hlt] using hx
       have e2:m.take (k+1)=m.take k++[y]:=by rw[List.take_succ_eq_append_getElem hlt'];congr 2;simpa[hlt'] using hy
       rw[e1,e2,HTK.out,e]
      have hno:x≠y→decide (l=m)=false:=by
       intro e;simp only[decide_eq_false_iff_not];rintro rfl;rw[hx]at hy;exact e (by cases hy;rfl)
      have HSTEP:Hid (x=y→l.take (k+1)=m.take (k+1)):=hstep;have HNO:Hid (x≠y→decide (l=m)=false):=hno;clear hcc hcc' h5 h5' hx hy hstep hno;obtain ⟨x1,x2⟩:=x;obtain ⟨y1,y2⟩:=y;simp only at c0 c1 c0' c1'
      by_cases he:x1=y1
      · by_cases he2 : x2 = y2
        · subst he;subst he2;have HS2:Hid (l.take (k+1)=m.take (k+1)):=HSTEP.out rfl;clear HSTEP HNO;go_wp2_with fail
          go_quiet (fail)
          go_wp2_with fail
          go_roundg (l.length-(k+1))
          case measure => omega
          case rel => exact ⟨k+1,by omega,by go_num,below_drewN hB nq,HS2.out⟩
        · have hb : (x2.toList == y2.toList) = false := xv he2;have HQ:Hid (decide (l=m)=false):=HNO.out (by intro e;cases e;exact he2 rfl)
          subst he;clear HSTEP HNO he2;go_wp2_with fail
          go_quiet (fail)
          go_wp2_with fail;go_ret;exact ⟨by rw[HQ.out];rfl,below_drewN hB nq⟩
      · have hb : (x1.toList == y1.toList) = false := xv he;have HQ:Hid (decide (l=m)=false):=HNO.out (by intro e;cases e;exact he rfl)
        clear HSTEP HNO he;go_wp2_with fail
        go_quiet (fail)
        go_wp2_with fail;go_ret;exact ⟨by rw[HQ.out];rfl,below_drewN hB nq⟩
    · have hkk : k = l.length := by omega
      subst hkk;have HQ:Hid (decide (l=m)=true):=decide_eq_true (JP HL.out HTK.out);go_wp2_with fail;go_ret;exact ⟨by rw[HQ.out];rfl,hB⟩
 · have hne:((l.length:Int) != m.length)=true:=by
    have:(l.length:Int)≠m.length:=by omega
    simpa using this
   have hq:decide (l=m)=false:=by
    simp only[decide_eq_false_iff_not];rintro rfl;exact hlen rfl
   rw[hq]
   go_enter Tryz.func19,Tryz.ntmps19
   go_wp2_with fail;go_ret;exact ⟨rfl,Below.refl _ _⟩
def jv (n:Nat):Prop:=∀ (S S':Nat→Prop)(v v':Value)(ts us:List Tr)(w:World),qb S w n v ts→qb S' w n v' us →
 Calls Tryz.prog 13 #[v,v'] w fun e w'=>e=.returned (.bool (likeB n ts us))∧Below w.heap.size w w'
def QP (n:Nat):Prop:=∀ (S S':Nat→Prop)(va va' vk vk':Value)(t u:Tr)(w:World),qf S w va t.attrs→qf S' w va' u.attrs→qb S w n vk t.kids→qb S' w n vk' u.kids →
 Calls Tryz.prog 7 #[.agg #[.bool t.text,.string t.s,va,vk],.agg #[.bool u.text,.string u.s,va',vk']] w fun e w'=>e=.returned (.bool (zT t u&&likeB n t.kids u.kids))∧Below w.heap.size w w'
theorem JC (n:Nat)(h:QP n):jv (n+1):=by
 intro S S' v v' ts us w h1 h2;obtain ⟨a,cap,rfl,_,hm,h4⟩:=h1;obtain ⟨a',cap',rfl,_,_,h4'⟩:=h2;unfold maxLen at hm
 have H:Hid (QP n):=h;clear h
 by_cases hlen:ts.length=us.length
 · have hne : ((ts.length : Int) != us.length) = false := by simp[hlen]
   have HL:Hid (ts.length=us.length):=hlen;clear hlen
   go_enter Tryz.func13,Tryz.ntmps13
   go_wp2_with fail
   go_loopg [13] ts.length (fun g i wr=>∃ k:Nat,k+g=ts.length∧i=.int .i64 k∧Below w.heap.size w wr∧xh n ts us k=true)
   case atStart => exact ⟨0,by omega,rfl,Below.refl _ _,Y2 n ts us⟩
   case round =>
    obtain ⟨k,hk,rfl,hB,htk⟩:=hrel;have HTK:Hid (xh n ts us k=true):=htk;clear htk
    by_cases hlt:k<ts.length
    · have hlt' : k < us.length := by have := HL.out;omega
      have hne1:ts≠[]:=by intro e;subst e;simp at hlt
      have hne2:us≠[]:=by intro e;subst e;simp at hlt'
      obtain ⟨b,o,rfl,hs,hcc⟩:=h4 hne1;obtain ⟨b',o',rfl,hs',hcc'⟩:=h4' hne2;obtain ⟨t,ht⟩:∃ t,ts[k]?=some t:=⟨ts[k],by simp[hlt]⟩
      obtain ⟨u,hu⟩:∃ u,us[k]?=some u:=⟨us[k],by simp[hlt']⟩
      obtain ⟨va,vk,c0,c1,c2,c3,hat,hkt⟩:=hcc k t ht;obtain ⟨va',vk',c0',c1',c2',c3',hat',hkt'⟩:=hcc' k u hu;have hbl:b<w.heap.size:=World.block_lt_of_cell? w _ c0;have hbl':b'<w.heap.size:=World.block_lt_of_cell? w _ c0';rw[←hB.cell (p:=⟨b,o+k*4,none⟩) hbl]at c0
      rw[←hB.cell (p:=⟨b,o+k*4+1,none⟩) hbl]at c1
      rw[←hB.cell (p:=⟨b,o+k*4+2,none⟩) hbl]at c2
      rw[←hB.cell (p:=⟨b,o+k*4+3,none⟩) hbl]at c3
      rw[←hB.cell (p:=⟨b',o'+k*4,none⟩) hbl']at c0'
      rw[←hB.cell (p:=⟨b',o'+k*4+1,none⟩) hbl']at c1'
      rw[←hB.cell (p:=⟨b',o'+k*4+2,none⟩) hbl']at c2'
      rw[←hB.cell (p:=⟨b',o'+k*4+3,none⟩) hbl']at c3'
      have hlti:(k:Int)<(ts.length:Int):=by omega
      have hlti':(k:Int)<(us.length:Int):=by omega
      have HSTEP:Hid (xh n ts us (k+1)=(xh n ts us k&&(zT t u&&likeB n t.kids u.kids))):=Y1 ht hu;have HNO:Hid ((zT t u&&likeB n t.kids u.kids)=false→likeB (n+1) ts us=false):=JA ht hu;have HC:Hid _:=H.out S S' va va' vk vk' t u wr.drew (hat.later hB.drew) (hat'.later hB.drew) (qb.later hB.drew n hkt) (qb.later hB.drew n hkt');clear hcc hcc' h4 h4' ht hu hat hat' hkt hkt';obtain ⟨q,hq⟩:∃ q,(zT t u&&likeB n t.kids u.kids)=q:=⟨_,rfl⟩;rw[hq]at HC HNO HSTEP
      clear hq;cases q with
      | true =>
        go_wp2_with fail
        go_region_with (go_at_call 7;refine (Calls.mono HC.out ?_);rintro e w1 ⟨rfl,hb1⟩)
        all_goals
         go_wp2_with fail
         go_roundg (ts.length-(k+1))
         case measure => omega
         case rel => exact ⟨k+1,by omega,by go_num,hB.drew.trans (hb1.mono hB.size),by rw[HSTEP.out,HTK.out];rfl⟩
      | false =>
        have HQ:Hid (likeB (n+1) ts us=false):=HNO.out rfl;clear HNO HSTEP;go_wp2_with fail
        go_region_with (go_at_call 7;refine (Calls.mono HC.out ?_);rintro e w1 ⟨rfl,hb1⟩)
        all_goals
         go_wp2_with fail;go_ret;exact ⟨by rw[HQ.out];rfl,hB.drew.trans (hb1.mono hB.size)⟩
    · have hkk : k = ts.length := by omega
      subst hkk;have HQ:Hid (likeB (n+1) ts us=true):=by show _=_;rw[Qu HL.out];exact HTK.out
      go_wp2_with fail;go_ret;exact ⟨by rw[HQ.out];rfl,hB⟩
 · have hne:((ts.length:Int) != us.length)=true:=by
    have:(ts.length:Int)≠us.length:=by omega
    simpa using this
   rw[YQ hlen];clear h4 h4'
   go_enter Tryz.func13,Tryz.ntmps13
   go_wp2_with fail;go_ret;exact ⟨rfl,Below.refl _ _⟩
theorem Yy (n:Nat)(h:jv n):QP n:=by
 intro S S' va va' vk vk' t u w h1 h2 h3 h4;have H:Hid (jv n):=h;clear h;obtain ⟨ka,kc,rfl,_,_⟩:=qb.shape n h3;obtain ⟨ka',kc',rfl,_,_⟩:=qb.shape n h4;obtain ⟨aa,ac,rfl⟩:=h1.shape;obtain ⟨aa',ac',rfl⟩:=h2.shape;obtain ⟨tx,s,l,ts⟩:=t;obtain ⟨tx',s',l',ts'⟩:=u;simp only at h1 h2 h3 h4 ⊢
 unfold zT;simp only;rw[YH s];have hb0:∀ X Y,Below w.heap.size w ((w.alloc X).alloc Y):=fun X Y=>(Below.alloc1 w X).alloc (by simp) Y
 cases htx:(tx==tx') with
 | false =>
   simp only[Bool.false_and]
   go_enter Tryz.func7,Tryz.ntmps7
   go_wp2_with fail;go_ret;exact ⟨rfl,hb0 _ _⟩
 | true =>
   cases hs:(s.toList==s'.toList) with
   | false =>
     simp only[Bool.true_and,Bool.false_and]
     go_enter Tryz.func7,Tryz.ntmps7
     go_wp2_with fail;go_ret;exact ⟨rfl,hb0 _ _⟩
   | true =>
     simp only[Bool.true_and];have HA:Hid (∀ X Y,Calls Tryz.prog 19 #[.slice aa l.length ac,.slice aa' l'.length ac'] ((w.alloc X).alloc Y) fun e w'=>e=.returned (.bool (decide (l=l')))∧Below ((w.alloc X).alloc Y).heap.size ((w.alloc X).alloc Y) w'):=fun X Y=>Q4 S S' _ _ l l' _ (h1.later (hb0 _ _)) (h2.later (hb0 _ _))
     have HT:Hid (∀ W,Below w.heap.size w W→Calls Tryz.prog 13 #[.slice ka ts.length kc,.slice ka' ts'.length kc'] W fun e w'=>e=.returned (.bool (likeB n ts ts'))∧Below W.heap.size W w'):=fun W hW=>H.out S S' _ _ ts ts' W (qb.later hW n h3) (qb.later hW n h4)
     clear h1 h2 h3 h4 H;obtain ⟨q1,hq1⟩:∃ q,decide (l=l')=q:=⟨_,rfl⟩;obtain ⟨q2,hq2⟩:∃ q,likeB n ts ts'=q:=⟨_,rfl⟩;rw[hq1]at HA ⊢
     rw[hq2]at HT ⊢
     clear hq1 hq2
     go_enter Tryz.func7,Tryz.ntmps7
     go_wp2_with fail;refine (Calls.mono (HA.out _ _) ?_);rintro e w1 ⟨rfl,hb1⟩
     have q3:w1.cell? ⟨w.heap.size,3,none⟩=some (.slice ka ts.length kc):=by
      rw[hb1.cell (p:=⟨w.heap.size,3,none⟩) (by simp;omega)];simp[go_sem]
     have q3':w1.cell? ⟨w.heap.size+1,3,none⟩=some (.slice ka' ts'.length kc'):=by
      rw[hb1.cell (p:=⟨w.heap.size+1,3,none⟩) (by simp)];simp[go_sem]
     have hB1:Below w.heap.size w w1:=(hb0 _ _).trans (hb1.mono (by simp;omega))
     cases q1 with
     | false =>
       go_wp2_with fail;go_ret;exact ⟨rfl,hB1⟩
     | true =>
       go_wp2_with fail;refine (Calls.mono (HT.out _ hB1) ?_);rintro e w2 ⟨rfl,hb2⟩;go_wp2_with fail;go_ret;exact ⟨by rw[Bool.true_and];rfl,hB1.trans (hb2.mono hB1.size)⟩
theorem likes_zero:jv 0:=by
 intro S S' v v' ts us w h1 h2;obtain ⟨rfl,a,cap,rfl,_⟩:=h1;obtain ⟨rfl,a',cap',rfl,_⟩:=h2;rw[Qt]
 go_enter Tryz.func13,Tryz.ntmps13
 go_wp2_with fail;go_rounds 1;go_ret;exact ⟨rfl,Below.refl _ _⟩
theorem Qv (n:Nat):jv n:=by
 induction n with
 | zero=>exact likes_zero
 | succ n ih=>exact JC n (Yy n ih)
theorem JB (n:Nat):QP n:=Yy n (Qv n)
end Go.Proofs.YtkbhckhbgalaoaaGreatDoor
/- topiarykeep.sames and same: lists of trees that are the same are told to be the same. Condition: at most 2^20 trees and attributes in each list. -/
namespace Go.Proofs.YtkbhckhbgalaoaaGreatDoor
open Go.ChangeShapes Go.WideShapes Go.ChangeAt Go.RowKit
set_option maxRecDepth 100000
end Go.Proofs.YtkbhckhbgalaoaaGreatDoor
