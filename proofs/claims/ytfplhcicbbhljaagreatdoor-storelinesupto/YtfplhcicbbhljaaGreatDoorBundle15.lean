/- Bundled: GoodA SameR. What each says stands ahead of it. -/
import Derived.Test.YtfplhcicbbhljaaGreatDoorBundle02
import Derived.Test.YtfplhcicbbhljaaGreatDoorBundle08
import Derived.Deep.RegionWith
import Derived.BigQuiet
import Derived.WalkSmall
namespace Go.Proofs.YtfplhcicbbhljaaGreatDoor
open Go.ChangeShapes Go.WideShapes Go.ChangeAt Go.RowKit
set_option maxRecDepth 100000
section
theorem qfe (t:TypeId)(a b:ByteArray):binOp .geq t (.string a) (.string b)=pure (.bool (!(Op.bytesLess a.toList b.toList))):=by simp[binOp,Op.stringOp]
attribute [local go_sem] qfe
def okA (l:List (ByteArray × ByteArray))(i:Nat):Bool :=
 match l[i]? with
 | none=>true
 | some x => qM x.1 && qN x.2 && (match i with
   | 0=>true
   | j + 1 => match l[j]? with
     | none=>true
     | some y=>Op.bytesLess y.1.toList x.1.toList)
def q7 (l:List (ByteArray × ByteArray)):Bool:=decide (l.length≤4)&&(List.range l.length).all (okA l)
theorem jY {l:List (ByteArray × ByteArray)}{k:Nat}(h:k<l.length)(hk:okA l k=false):q7 l=false:=by
 unfold q7
 have:(List.range l.length).all (okA l)=false:=by
  rw[List.all_eq_false];exact ⟨k,by simpa using h,by simp[hk]⟩
 rw[this];simp
theorem JH (S:Nat→Prop)(v:Value)(l:List (ByteArray × ByteArray))(w:World)(h:qm S w v l)(hl:∀ x∈l,x.1.size≤maxLen∧x.2.size≤maxLen) :
 Calls Tryz.prog 179 #[v] w fun e w'=>e=.returned (.bool (q7 l))∧Below w.heap.size w w':=by
 obtain ⟨a,cap,rfl,_,hm,h5⟩:=h;unfold maxLen at hm
 by_cases h4:4<l.length
 · go_enter Tryz.func179, Tryz.ntmps179
   go_wp2_with fail;go_ret;exact ⟨by simp[q7];omega,Below.refl _ _⟩
 · have h4' : l.length ≤ 4 := by omega
   clear h4
   go_enter Tryz.func179,Tryz.ntmps179
   go_wp2_with fail
   go_loopg [10] l.length (fun g i wr=>∃ k:Nat,k+g=l.length∧i=.int .i64 k∧(∀ i,i<k→okA l i=true)∧Below w.heap.size w wr)
   case atStart => exact ⟨0,by omega,rfl,fun i hi=>by omega,Below.refl _ _⟩
   case round =>
    obtain ⟨k,hk,rfl,hok,hB⟩:=hrel;have HO:Hid (∀ i,i<k→okA l i=true):=hok;clear hok
    by_cases hlt:k<l.length
    · have hne : l ≠ [] := by intro e;subst e;simp at hlt
      obtain ⟨b,o,rfl,hs,hcc⟩:=h5 hne;obtain ⟨x,hx⟩:∃ x,l[k]?=some x:=⟨l[k],by simp[hlt]⟩
      obtain ⟨c0,c1⟩:=hcc k x hx;have hbl:b<w.heap.size:=World.block_lt_of_cell? w _ c0;rw[←hB.cell (p:=⟨b,o+k*2,none⟩) hbl]at c0
      rw[←hB.cell (p:=⟨b,o+k*2+1,none⟩) hbl]at c1
      have hsz:=hB.size;have hblr:b<wr.heap.size:=by omega
      have hxl:=hl x (List.mem_of_getElem? hx);have HX:Hid (l[k]?=some x):=hx
      have next:okA l k=true→∀ i,i<k+1→okA l i=true:=by
       intro h i hi
       by_cases hik:i=k
       · rw[hik];exact h
       · exact HO.out i (by omega)
      have HN:Hid (okA l k=true→∀ i,i<k+1→okA l i=true):=next;clear hx next;cases hn:qM x.1 with
      | false =>
        have HK:Hid (okA l k=false):=by show _=_;unfold okA;rw[HX.out];simp[hn]
        clear h5 hcc;go_wp2_with fail;refine (yD x.1 _ hxl.1).mono ?_;rintro e w' ⟨rfl,rfl⟩;rw[hn];go_wp2_with fail;go_ret;exact ⟨by rw[jY hlt HK.out];rfl,hB.alloc hsz _⟩
      | true =>
        cases hp:qN x.2 with
        | false =>
          have HK:Hid (okA l k=false):=by show _=_;unfold okA;rw[HX.out];simp[hp]
          clear h5 hcc;go_wp2_with fail;refine (yD x.1 _ hxl.1).mono ?_;rintro e w' ⟨rfl,rfl⟩;rw[hn];go_wp2_with fail;refine (yp x.2 _ hxl.2).mono ?_;rintro e w' ⟨rfl,rfl⟩;rw[hp];go_wp2_with fail;go_ret;exact ⟨by rw[jY hlt HK.out];rfl,hB.alloc hsz _⟩
        | true =>
          by_cases h0:k=0
          · subst h0;have HK:Hid (okA l 0=true):=by show _=_;unfold okA;rw[HX.out];simp[hn,hp]
            have hkb:decide ((0:Int)<(0:Int))=false:=by simp
            clear h5 hcc;simp only[Nat.zero_mul,Nat.add_zero]at c0 c1
            rw[show ((0:Nat):Int)=0 from rfl]
            go_wp2_with fail;refine (yD x.1 _ hxl.1).mono ?_;rintro e w' ⟨rfl,rfl⟩;rw[hn];go_wp2_with fail;refine (yp x.2 _ hxl.2).mono ?_;rintro e w' ⟨rfl,rfl⟩;rw[hp];go_wp2_with fail
            go_quiet (fail)
            go_wp2_with fail
            go_roundg (l.length-1)
            case measure => omega
            case rel => exact ⟨1,by omega,by go_num,HN.out HK.out,below_drewN (hB.alloc hsz _) nq⟩
          · obtain ⟨j, rfl⟩ : ∃ j, k = j + 1 := ⟨k - 1, by omega⟩
            obtain ⟨y,hy⟩:∃ y,l[j]?=some y:=⟨l[j]'(by omega),by simp⟩
            have d0:=(hcc j y hy).1;rw[←hB.cell (p:=⟨b,o+j*2,none⟩) hbl]at d0
            have hj1:(j:Int)<(l.length:Int):=by omega
            have hj2:(j:Int)+1<(l.length:Int):=by omega
            have hkb:decide ((0:Int)<(j:Int)+1)=true:=by simp
            have hk0:(0:Int)<(j:Int)+1:=by omega
            have hwj:IntKind.i64.wrap (j:Int)=(j:Int):=IntWalk.i64_in _ (by omega)
            have HY:Hid (l[j]?=some y):=hy;clear h5 hcc hy;cases hlss:Op.bytesLess y.1.toList x.1.toList with
            | false =>
              have HK:Hid (okA l (j+1)=false):=by show _=_;unfold okA;rw[HX.out];simp only[];rw[HY.out];simp[hlss]
              go_wp2_with fail;refine (yD x.1 _ hxl.1).mono ?_;rintro e w' ⟨rfl,rfl⟩;rw[hn];go_wp2_with fail;refine (yp x.2 _ hxl.2).mono ?_;rintro e w' ⟨rfl,rfl⟩;rw[hp];go_wp2_with fail
              go_quiet (fail)
              go_wp2_with fail;go_ret;exact ⟨by rw[jY hlt HK.out];rfl,below_drewN (hB.alloc hsz _) nq⟩
            | true =>
              have HK:Hid (okA l (j+1)=true):=by show _=_;unfold okA;rw[HX.out];simp only[];rw[HY.out];simp[hlss,hn,hp]
              go_wp2_with fail;refine (yD x.1 _ hxl.1).mono ?_;rintro e w' ⟨rfl,rfl⟩;rw[hn];go_wp2_with fail;refine (yp x.2 _ hxl.2).mono ?_;rintro e w' ⟨rfl,rfl⟩;rw[hp];go_wp2_with fail
              go_quiet (fail)
              go_wp2_with fail
              go_roundg (l.length-(j+2))
              case measure => omega
              case rel => exact ⟨j+2,by omega,by go_num,HN.out HK.out,below_drewN (hB.alloc hsz _) nq⟩
    · go_wp2_with fail;go_ret;refine ⟨?_,hB⟩
      have:q7 l=true:=by
       unfold q7;simp only[Bool.and_eq_true,decide_eq_true_eq,List.all_eq_true,List.mem_range];exact ⟨h4',fun i hi=>HO.out i (by omega)⟩
      rw[this];rfl
end
theorem JW (S S':Nat→Prop)(v v':Value)(l:List (ByteArray × ByteArray))(w:World)(h1:qm S w v l)(h2:qm S' w v' l) :
 Calls Tryz.prog 72 #[v,v'] w fun e w'=>e=.returned (.bool true)∧Below w.heap.size w w':=by
 obtain ⟨a,cap,rfl,_,hm,h5⟩:=h1;obtain ⟨a',cap',rfl,_,_,h5'⟩:=h2;unfold maxLen at hm
 have hne:((l.length:Int) != l.length)=false:=by simp
 go_enter Tryz.func72,Tryz.ntmps72
 go_wp2_with fail
 go_loopg [13] l.length (fun g i wr=>∃ k:Nat,k+g=l.length∧i=.int .i64 k∧Below w.heap.size w wr)
 case atStart => exact ⟨0,by omega,rfl,Below.refl _ _⟩
 case round =>
  obtain ⟨k,hk,rfl,hB⟩:=hrel
  by_cases hlt:k<l.length
  · have hne : l ≠ [] := by intro e;subst e;simp at hlt
    obtain ⟨b,o,rfl,hs,hcc⟩:=h5 hne;obtain ⟨b',o',rfl,hs',hcc'⟩:=h5' hne;obtain ⟨x,hx⟩:∃ x,l[k]?=some x:=⟨l[k],by simp[hlt]⟩
    obtain ⟨c0,c1⟩:=hcc k x hx;obtain ⟨c0',c1'⟩:=hcc' k x hx;have hbl:b<w.heap.size:=World.block_lt_of_cell? w _ c0;have hbl':b'<w.heap.size:=World.block_lt_of_cell? w _ c0';rw[←hB.cell (p:=⟨b,o+k*2,none⟩) hbl]at c0
    rw[←hB.cell (p:=⟨b,o+k*2+1,none⟩) hbl]at c1
    rw[←hB.cell (p:=⟨b',o'+k*2,none⟩) hbl']at c0'
    rw[←hB.cell (p:=⟨b',o'+k*2+1,none⟩) hbl']at c1'
    have hlti:(k:Int)<(l.length:Int):=by omega
    clear hcc hcc' h5 h5' hx;go_wp2_with fail
    go_quiet (fail)
    go_wp2_with fail
    go_roundg (l.length-(k+1))
    case measure => omega
    case rel => exact ⟨k+1,by omega,by go_num,below_drewN hB nq⟩
  · go_wp2_with fail;go_ret;exact ⟨rfl,hB⟩
def jG (n:Nat):Prop:=∀ (S S':Nat→Prop)(v v':Value)(ts:List Tr)(w:World),qb S w n v ts→qb S' w n v' ts →
 Calls Tryz.prog 19 #[v,v'] w fun e w'=>e=.returned (.bool true)∧Below w.heap.size w w'
def Q6 (n:Nat):Prop:=∀ (S S':Nat→Prop)(tx:Bool)(s:ByteArray)(va va' vk vk':Value)(l:List (ByteArray × ByteArray))(ts:List Tr)(w:World),qm S w va l→qm S' w va' l→qb S w n vk ts→qb S' w n vk' ts →
 Calls Tryz.prog 39 #[.agg #[.bool tx,.string s,va,vk],.agg #[.bool tx,.string s,va',vk']] w fun e w'=>e=.returned (.bool true)∧Below w.heap.size w w'
theorem Ki (n:Nat)(h:Q6 n):jG (n+1):=by
 intro S S' v v' ts w h1 h2;obtain ⟨a,cap,rfl,_,hm,h4⟩:=h1;obtain ⟨a',cap',rfl,_,_,h4'⟩:=h2;unfold maxLen at hm
 have hne:((ts.length:Int) != ts.length)=false:=by simp
 have H:Hid (Q6 n):=h;clear h
 go_enter Tryz.func19,Tryz.ntmps19
 go_wp2_with fail
 go_loopg [13] ts.length (fun g i wr=>∃ k:Nat,k+g=ts.length∧i=.int .i64 k∧Below w.heap.size w wr)
 case atStart => exact ⟨0,by omega,rfl,Below.refl _ _⟩
 case round =>
  obtain ⟨k,hk,rfl,hB⟩:=hrel
  by_cases hlt:k<ts.length
  · have hne : ts ≠ [] := by intro e;subst e;simp at hlt
    obtain ⟨b,o,rfl,hs,hcc⟩:=h4 hne;obtain ⟨b',o',rfl,hs',hcc'⟩:=h4' hne;obtain ⟨t,ht⟩:∃ t,ts[k]?=some t:=⟨ts[k],by simp[hlt]⟩
    obtain ⟨va,vk,c0,c1,c2,c3,hat,hkt⟩:=hcc k t ht;obtain ⟨va',vk',c0',c1',c2',c3',hat',hkt'⟩:=hcc' k t ht;have hbl:b<w.heap.size:=World.block_lt_of_cell? w _ c0;have hbl':b'<w.heap.size:=World.block_lt_of_cell? w _ c0';rw[←hB.cell (p:=⟨b,o+k*4,none⟩) hbl]at c0
    rw[←hB.cell (p:=⟨b,o+k*4+1,none⟩) hbl]at c1
    rw[←hB.cell (p:=⟨b,o+k*4+2,none⟩) hbl]at c2
    rw[←hB.cell (p:=⟨b,o+k*4+3,none⟩) hbl]at c3
    rw[←hB.cell (p:=⟨b',o'+k*4,none⟩) hbl']at c0'
    rw[←hB.cell (p:=⟨b',o'+k*4+1,none⟩) hbl']at c1'
    rw[←hB.cell (p:=⟨b',o'+k*4+2,none⟩) hbl']at c2'
    rw[←hB.cell (p:=⟨b',o'+k*4+3,none⟩) hbl']at c3'
    have hlti:(k:Int)<(ts.length:Int):=by omega
    clear hcc hcc' h4 h4' ht;go_wp2_with fail
    go_region_with (go_at_call 39;refine (H.out S S' t.text t.s va va' vk vk' t.attrs t.kids wr.drew (hat.later hB.drew) (hat'.later hB.drew) (qb.later hB.drew n hkt) (qb.later hB.drew n hkt')).mono ?_;rintro e w1 ⟨rfl,hb1⟩)
    all_goals
     go_wp2_with fail
     go_roundg (ts.length-(k+1))
     case measure => omega
     case rel => exact ⟨k+1,by omega,by go_num,hB.drew.trans (hb1.mono hB.size)⟩
  · go_wp2_with fail;go_ret;exact ⟨rfl,hB⟩
theorem VJ (n:Nat)(h:jG n):Q6 n:=by
 intro S S' tx s va va' vk vk' l ts w h1 h2 h3 h4;have H:Hid (jG n):=h;clear h;obtain ⟨ka,kc,rfl,_,_⟩:=qb.shape n h3;obtain ⟨ka',kc',rfl,_,_⟩:=qb.shape n h4;obtain ⟨aa,ac,rfl⟩:=h1.shape;obtain ⟨aa',ac',rfl⟩:=h2.shape;have htx:(tx==tx)=true:=by simp
 go_enter Tryz.func39,Tryz.ntmps39
 go_wp2_with fail;have hb0:∀ X Y,Below w.heap.size w ((w.alloc X).alloc Y):=fun X Y=>(Below.alloc1 w X).alloc (by simp) Y
 refine (JW S S' _ _ l _ (h1.later (hb0 _ _)) (h2.later (hb0 _ _))).mono ?_;rintro e w1 ⟨rfl,hb1⟩
 have q3:w1.cell? ⟨w.heap.size,3,none⟩=some (.slice ka ts.length kc):=by
  rw[hb1.cell (p:=⟨w.heap.size,3,none⟩) (by simp;omega)];simp[go_sem]
 have q3':w1.cell? ⟨w.heap.size+1,3,none⟩=some (.slice ka' ts.length kc'):=by
  rw[hb1.cell (p:=⟨w.heap.size+1,3,none⟩) (by simp)];simp[go_sem]
 have hB1:Below w.heap.size w w1:=(hb0 _ _).trans (hb1.mono (by simp;omega))
 go_wp2_with fail;refine (H.out S S' _ _ ts _ (qb.later hB1 n h3) (qb.later hB1 n h4)).mono ?_;rintro e w2 ⟨rfl,hb2⟩;go_wp2_with fail;go_ret;exact ⟨rfl,hB1.trans (hb2.mono hB1.size)⟩
theorem sameTrees_zero:jG 0:=by
 intro S S' v v' ts w h1 h2;obtain ⟨rfl,a,cap,rfl,_⟩:=h1;obtain ⟨_,a',cap',rfl,_⟩:=h2
 go_enter Tryz.func19,Tryz.ntmps19
 go_wp2_with fail;go_rounds 1;go_ret;exact ⟨rfl,Below.refl _ _⟩
theorem JY (n:Nat):jG n:=by
 induction n with
 | zero=>exact sameTrees_zero
 | succ n ih=>exact Ki n (VJ n ih)
end Go.Proofs.YtfplhcicbbhljaaGreatDoor
