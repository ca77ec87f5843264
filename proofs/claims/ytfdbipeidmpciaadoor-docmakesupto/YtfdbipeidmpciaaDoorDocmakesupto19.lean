/- Bundled: SameN SameDR WithR IsDocR DocsK DocsL. What each says stands ahead of it. -/
import Derived.Test.YtfdbipeidmpciaaDoorDocmakesupto14
namespace Go.Proofs.YtfdbipeidmpciaaDoor
open Go.ChangeShapes Go.WideShapes Go.ChangeAt Go.RowKit
set_option maxRecDepth 100000
section
attribute [local go_sem] qg
set_option maxHeartbeats 2000000 in
theorem yY (S T:Nat→Prop)(va vb:Value)(l m:List Int)(w:World)(h1:qX S w va l)(h2:qX T w vb m) :
 Calls Tryd.prog 67 #[va,vb] w fun e w'=>e=.returned (.bool (decide (l=m)))∧Below w.heap.size w w':=by
 have H1:Hid (qX S w va l):=h1;have H2:Hid (qX T w vb m):=h2;obtain ⟨a,ca,rfl,_,hcm⟩:=h1.shape;obtain ⟨b,cb,rfl,_,hcm2⟩:=h2.shape;unfold maxLen at hcm hcm2
 clear h1 h2
 by_cases hlm:l.length=m.length
 · have hne : ((l.length : Int) != (m.length : Int)) = false := by simp[hlm]
   have HLM:Hid (l.length=m.length):=hlm;clear hlm
   go_enter Tryd.func67,Tryd.ntmps67
   go_wp2_with fail
   go_loopg [13] l.length (fun g j wr=>∃ (i:Nat),i+g=l.length∧j=.int .i64 (i:Int)∧Below w.heap.size w wr∧l.take i=m.take i)
   case atStart => exact ⟨0,by omega,rfl,Below.refl _ _,rfl⟩
   case round =>
    obtain ⟨i,hi,rfl,hB,hT⟩:=hrel;have HT:Hid (l.take i=m.take i):=hT;clear hT
    by_cases hil:i<l.length
    · have him : i < m.length := by have := HLM.out;omega
      obtain ⟨u,hu⟩:∃ u,l[i]?=some u:=⟨l[i],by simp[hil]⟩
      obtain ⟨v,hv⟩:∃ v,m[i]?=some v:=⟨m[i],by simp[him]⟩
      obtain ⟨b1,o1,c1,hv1,_,hbw1,e0⟩:=(H1.out.later hB).at hu
      injection hv1 with hv1 hvl hv2
      subst hv1 hv2;clear hvl;obtain ⟨b2,o2,c2,hv3,_,hbw2,g0⟩:=(H2.out.later hB).at hv
      injection hv3 with hv3 hvl hv4
      subst hv3 hv4;clear hvl;have hili:(i:Int)<(l.length:Int):=by omega
      have himi:(i:Int)<(m.length:Int):=by omega
      have hbn:Below wr.heap.size wr wr.drew:=(Below.refl _ _).drew
      have HC:Hid (∀ W,Below wr.heap.size wr W→Below wr.heap.size wr W∧W.cell? ⟨b1,o1+i,none⟩=some (.int .i64 u)∧W.cell? ⟨b2,o2+i,none⟩=some (.int .i64 v)):=by
       intro W h;refine ⟨h,?_,?_⟩
       · rw[h.cell (p:=⟨b1,o1+i,none⟩) hbw1];exact e0
       · rw[h.cell (p:=⟨b2,o2+i,none⟩) hbw2];exact g0
      have el:l[i]=u:=by simpa[hil] using hu
      have em:m[i]=v:=by simpa[him] using hv
      by_cases huv:u=v
      · have huvb : (u != v) = false := by simp[huv]
        have HT2:Hid (l.take (i+1)=m.take (i+1)):=by
         show _=_
         rw[List.take_succ_eq_append_getElem hil,List.take_succ_eq_append_getElem him,el,em,HT.out,huv]
        clear hu hv el em huv;go_wp2_with fail
        go_region_held3 (fun W:World=>Below wr.heap.size wr W∧W.cell? ⟨b1,o1+i,none⟩=some (.int .i64 u)∧W.cell? ⟨b2,o2+i,none⟩=some (.int .i64 v))
         (with_reducible exact HC.out _ hbn)
         (fail)
        go_wp2_with fail
        go_roundg (l.length-(i+1))
        case measure => omega
        case rel => exact ⟨i+1,by omega,by go_num,hB.trans (hbn.mono hB.size),HT2.out⟩
      · have huvb : (u != v) = true := by simpa using huv
        have HE:Hid (decide (l=m)=false):=by
         refine decide_eq_false ?_;intro e;subst e;exact huv (by rw[←el,←em])
        clear hu hv el em huv;go_wp2_with fail
        go_region_held3 (fun W:World=>Below wr.heap.size wr W∧W.cell? ⟨b1,o1+i,none⟩=some (.int .i64 u)∧W.cell? ⟨b2,o2+i,none⟩=some (.int .i64 v))
         (with_reducible exact HC.out _ hbn)
         (fail)
        go_wp2_with fail;go_ret;exact ⟨by rw[HE.out];rfl,hB.trans (hbn.mono hB.size)⟩
    · have hili : ¬ (i : Int) < (l.length : Int) := by omega
      have HE:Hid (decide (l=m)=true):=by
       refine decide_eq_true ?_;have:=HT.out;rw[List.take_of_length_le (by omega),List.take_of_length_le (by have:=HLM.out;omega)]at this
       exact this
      go_wp2_with fail;go_ret;exact ⟨by rw[HE.out];rfl,hB⟩
 · have hne : ((l.length : Int) != (m.length : Int)) = true := by simp;omega
   have HE:Hid (decide (l=m)=false):=decide_eq_false (fun e=>hlm (by rw[e]))
   clear hlm
   go_enter Tryd.func67,Tryd.ntmps67
   go_wp2_with fail;go_ret;exact ⟨by rw[HE.out];rfl,Below.refl _ _⟩
def ndB (x y:Nd):Bool:=(x.text==y.text)&&decide (x.s=y.s)&&decide (x.parent=y.parent)&&decide (x.attrs=y.attrs)&&decide (x.kids=y.kids)
def ndsB:List Nd→List Nd→Bool
 | [],[]=>true
 | x::a,y::b=>ndB x y&&ndsB a b
 | _,_=>false
theorem XU {x y:Nd}:ndB x y=true↔x=y:=by
 obtain ⟨a,b,c,d,e⟩:=x;obtain ⟨a',b',c',d',e'⟩:=y;unfold ndB;simp
 constructor
 · rintro ⟨⟨⟨⟨h1,h2⟩,h3⟩,h4⟩,h5⟩;exact ⟨h1,h2,h4,h3,h5⟩
 · rintro ⟨h1,h2,h3,h4,h5⟩;exact ⟨⟨⟨⟨h1,h2⟩,h4⟩,h3⟩,h5⟩
theorem ndsB_iff:∀ {a b:List Nd},ndsB a b=true↔a=b:=by
 intro a
 induction a with
 | nil=>intro b;cases b<;>simp[ndsB]
 | cons x a ih => intro b;cases b with
   | nil=>simp[ndsB]
   | cons y b=>simp[ndsB,XU,ih]
end
section
attribute [local go_sem] qg
theorem ndsB_len:∀ {a b:List Nd},a.length≠b.length→ndsB a b=false:=by
 intro a b h;cases hq:ndsB a b with
 | false=>rfl
 | true=>exact absurd (by rw[ndsB_iff.1 hq]) h
theorem JB {a b:List Nd}{i:Nat}{x y:Nd}(hx:a[i]?=some x)(hy:b[i]?=some y):ndsB (a.drop i) (b.drop i)=(ndB x y&&ndsB (a.drop (i+1)) (b.drop (i+1))):=by
 have ha:i<a.length:=by
  rcases Nat.lt_or_ge i a.length with h'|h'
  · exact h'
  · rw[List.getElem?_eq_none h']at hx;cases hx
 have hb:i<b.length:=by
  rcases Nat.lt_or_ge i b.length with h'|h'
  · exact h'
  · rw[List.getElem?_eq_none h']at hy;cases hy
 have e1:a.drop i=x::a.drop (i+1):=by rw[List.drop_eq_getElem_cons ha];congr 1;simpa[ha] using hx
 have e2:b.drop i=y::b.drop (i+1):=by rw[List.drop_eq_getElem_cons hb];congr 1;simpa[hb] using hy
 rw[e1,e2,ndsB]
set_option maxHeartbeats 4000000 in
theorem jA (S T:Nat→Prop)(va vb:Value)(ns ms:List Nd)(w:World)(h1:qr S w va ns)(h2:qr T w vb ms) :
 Calls Tryd.prog 35 #[.agg #[va],.agg #[vb]] w fun e w'=>e=.returned (.bool (ndsB ns ms))∧Below w.heap.size w w':=by
 have H1:Hid (qr S w va ns):=h1;have H2:Hid (qr T w vb ms):=h2;obtain ⟨a,ca,rfl,_,hcm⟩:=h1.shape;obtain ⟨b,cb,rfl,_,hcm2⟩:=h2.shape;unfold maxLen at hcm hcm2
 have hb0:Below w.heap.size w ((w.alloc (.cells #[.slice a ns.length ca] 47)).alloc (.cells #[.slice b ms.length cb] 47)):=(Below.alloc1 w _).alloc (by simp) _
 have hx0:((w.alloc (.cells #[.slice a ns.length ca] 47)).alloc (.cells #[.slice b ms.length cb] 47)).heap[w.heap.size]?=some (.cells #[.slice a ns.length ca] 47 (0,0)):=by
  rw[Lib.alloc_old _ _ _ (by simp)];exact heap_alloc_new _ _
 have hy0:((w.alloc (.cells #[.slice a ns.length ca] 47)).alloc (.cells #[.slice b ms.length cb] 47)).heap[w.heap.size+1]?=some (.cells #[.slice b ms.length cb] 47 (0,0)):=by
  have e:=heap_alloc_new (w.alloc (.cells #[.slice a ns.length ca] 47)) (.cells #[.slice b ms.length cb] 47);rw[World.size_alloc]at e
  exact e
 clear h1 h2
 by_cases hlm:ns.length=ms.length
 · have hne : ((ns.length : Int) != (ms.length : Int)) = false := by simp[hlm]
   have HLM:Hid (ns.length=ms.length):=hlm;clear hlm
   go_enter Tryd.func35,Tryd.ntmps35
   go_wp2_with fail
   generalize ((w.alloc (.cells #[.slice a ns.length ca] 47)).alloc (.cells #[.slice b ms.length cb] 47))=W1 at *
   go_loopg [18] ns.length (fun g j wr=>∃ (i:Nat),i+g=ns.length∧j=.int .i64 (i:Int)∧Below W1.heap.size W1 wr∧ndsB ns ms=ndsB (ns.drop i) (ms.drop i))
   case atStart => exact ⟨0,by omega,rfl,Below.refl _ _,rfl⟩
   case round =>
    obtain ⟨i,hi,rfl,hB,hT⟩:=hrel;have HT:Hid (ndsB ns ms=ndsB (ns.drop i) (ms.drop i)):=hT;clear hT;have hBw:Below w.heap.size w wr:=hb0.trans (hB.mono hb0.size);have hxr:=(hB.block _ (qf hx0)).trans hx0;have hyr:=(hB.block _ (qf hy0)).trans hy0;have dx:wr.cell? ⟨w.heap.size,0,none⟩=some (.slice a ns.length ca):=by rw[cH9 hxr];rfl
    have dy:wr.cell? ⟨w.heap.size+1,0,none⟩=some (.slice b ms.length cb):=by rw[cH9 hyr];rfl
    by_cases hil:i<ns.length
    · have him : i < ms.length := by have := HLM.out;omega
      obtain ⟨x,hx⟩:∃ x,ns[i]?=some x:=⟨ns[i],by simp[hil]⟩
      obtain ⟨y,hy⟩:∃ y,ms[i]?=some y:=⟨ms[i],by simp[him]⟩
      obtain ⟨b1,o1,c1,xva,xvk,hv1,_,_,_,hbw1,p0,p1,p2,p3,p4,hxA,hxK⟩:=(H1.out.later hBw).at hx
      injection hv1 with hv1 hvl hv2
      subst hv1 hv2;clear hvl;obtain ⟨b2,o2,c2,yva,yvk,hv3,_,_,_,hbw2,q0,q1,q2,q3,q4,hyA,hyK⟩:=(H2.out.later hBw).at hy
      injection hv3 with hv3 hvl hv4
      subst hv3 hv4;clear hvl;obtain ⟨xaa,xac,rfl⟩:=hxA.shape;obtain ⟨xka,xkc,rfl,_,_⟩:=hxK.shape;obtain ⟨yaa,yac,rfl⟩:=hyA.shape;obtain ⟨yka,ykc,rfl,_,_⟩:=hyK.shape;have HTD:Hid _:=JB hx hy;have hili:(i:Int)<(ns.length:Int):=by omega
      have himi:(i:Int)<(ms.length:Int):=by omega
      have hlt0:w.heap.size<wr.heap.size:=qf hxr;have hlt1:w.heap.size+1<wr.heap.size:=qf hyr;have hne0:wr.heap.size≠w.heap.size:=by omega
      have hne1:wr.heap.size≠w.heap.size+1:=by omega
      have hne2:wr.heap.size≠b1:=by omega
      have hne3:wr.heap.size≠b2:=by omega
      clear hx hy hxr hyr;go_wp2_with fail
      go_region
      · have hW2 : Below wr.heap.size wr ((wr.alloc (.cells #[.bool x.text, .string x.s, .slice xaa x.attrs.length xac, .int .i64 x.parent, .slice xka x.kids.length xkc] 90)).alloc (.cells #[.bool y.text, .string y.s, .slice yaa y.attrs.length yac, .int .i64 y.parent, .slice yka y.kids.length ykc] 90)).drew := (((Below.refl _ wr).alloc (nR9 _) _).alloc (by simp) _).drew
        have hF:(((wr.alloc (.cells #[.bool x.text,.string x.s,.slice xaa x.attrs.length xac,.int .i64 x.parent,.slice xka x.kids.length xkc] 90)).alloc (.cells #[.bool y.text,.string y.s,.slice yaa y.attrs.length yac,.int .i64 y.parent,.slice yka y.kids.length ykc] 90)).drew).heap[wr.heap.size]?=some (.cells #[.bool x.text,.string x.s,.slice xaa x.attrs.length xac,.int .i64 x.parent,.slice xka x.kids.length xkc] 90 (0,0)):=by
         show ((wr.alloc (.cells #[.bool x.text,.string x.s,.slice xaa x.attrs.length xac,.int .i64 x.parent,.slice xka x.kids.length xkc] 90)).alloc (.cells #[.bool y.text,.string y.s,.slice yaa y.attrs.length yac,.int .i64 y.parent,.slice yka y.kids.length ykc] 90)).heap[wr.heap.size]?=_
         rw[Lib.alloc_old _ _ _ (by simp)];exact heap_alloc_new _ _
        have hG:(((wr.alloc (.cells #[.bool x.text,.string x.s,.slice xaa x.attrs.length xac,.int .i64 x.parent,.slice xka x.kids.length xkc] 90)).alloc (.cells #[.bool y.text,.string y.s,.slice yaa y.attrs.length yac,.int .i64 y.parent,.slice yka y.kids.length ykc] 90)).drew).heap[wr.heap.size+1]?=some (.cells #[.bool y.text,.string y.s,.slice yaa y.attrs.length yac,.int .i64 y.parent,.slice yka y.kids.length ykc] 90 (0,0)):=by
         show ((wr.alloc (.cells #[.bool x.text,.string x.s,.slice xaa x.attrs.length xac,.int .i64 x.parent,.slice xka x.kids.length xkc] 90)).alloc (.cells #[.bool y.text,.string y.s,.slice yaa y.attrs.length yac,.int .i64 y.parent,.slice yka y.kids.length ykc] 90)).heap[wr.heap.size+1]?=_
         have e:=heap_alloc_new (wr.alloc (.cells #[.bool x.text,.string x.s,.slice xaa x.attrs.length xac,.int .i64 x.parent,.slice xka x.kids.length xkc] 90)) (.cells #[.bool y.text,.string y.s,.slice yaa y.attrs.length yac,.int .i64 y.parent,.slice yka y.kids.length ykc] 90);rw[World.size_alloc]at e
         exact e
        generalize ((wr.alloc (.cells #[.bool x.text,.string x.s,.slice xaa x.attrs.length xac,.int .i64 x.parent,.slice xka x.kids.length xkc] 90)).alloc (.cells #[.bool y.text,.string y.s,.slice yaa y.attrs.length yac,.int .i64 y.parent,.slice yka y.kids.length ykc] 90)).drew=W2 at *
        have x0:W2.cell? ⟨wr.heap.size,0,none⟩=some (.bool x.text):=by rw[cH9 hF];rfl
        have x1:W2.cell? ⟨wr.heap.size,1,none⟩=some (.string x.s):=by rw[cH9 hF];rfl
        have x2:W2.cell? ⟨wr.heap.size,2,none⟩=some (.slice xaa x.attrs.length xac):=by rw[cH9 hF];rfl
        have x3:W2.cell? ⟨wr.heap.size,3,none⟩=some (.int .i64 x.parent):=by rw[cH9 hF];rfl
        have x4:W2.cell? ⟨wr.heap.size,4,none⟩=some (.slice xka x.kids.length xkc):=by rw[cH9 hF];rfl
        have y0:W2.cell? ⟨wr.heap.size+1,0,none⟩=some (.bool y.text):=by rw[cH9 hG];rfl
        have y1:W2.cell? ⟨wr.heap.size+1,1,none⟩=some (.string y.s):=by rw[cH9 hG];rfl
        have y2:W2.cell? ⟨wr.heap.size+1,2,none⟩=some (.slice yaa y.attrs.length yac):=by rw[cH9 hG];rfl
        have y3:W2.cell? ⟨wr.heap.size+1,3,none⟩=some (.int .i64 y.parent):=by rw[cH9 hG];rfl
        have y4:W2.cell? ⟨wr.heap.size+1,4,none⟩=some (.slice yka y.kids.length ykc):=by rw[cH9 hG];rfl
        have HAT:Hid (∀ W,Below W2.heap.size W2 W→Calls Tryd.prog 58 #[.slice xaa x.attrs.length xac,.slice yaa y.attrs.length yac] W fun e w'=>e=.returned (.bool (decide (x.attrs=y.attrs)))∧Below W.heap.size W w'):=fun W h=>jS _ _ _ _ x.attrs y.attrs W ((hxA.later hW2).later h) ((hyA.later hW2).later h)
        have HKN:Hid (∀ W,Below W2.heap.size W2 W→Calls Tryd.prog 67 #[.slice xka x.kids.length xkc,.slice yka y.kids.length ykc] W fun e w'=>e=.returned (.bool (decide (x.kids=y.kids)))∧Below W.heap.size W w'):=fun W h=>yY _ _ _ _ x.kids y.kids W ((hxK.later hW2).later h) ((hyK.later hW2).later h)
        have hBW2:Below w.heap.size w W2:=hBw.trans (hW2.mono hBw.size);have hB12:Below W1.heap.size W1 W2:=hB.trans (hW2.mono hB.size)
        have KF:ndB x y=false→Hid (ndsB ns ms=false):=by
         intro hq
         show _=_
         rw[HT.out,HTD.out,hq];rfl
        clear p0 p1 p2 p3 p4 q0 q1 q2 q3 q4 dx dy hne0 hne1 hne2 hne3 hlt0 hlt1
        by_cases k1:x.text=y.text
        · have k1b : (x.text == y.text) = true := by simp[k1]
          by_cases k2:x.s=y.s
          · have k2b : (x.s.toList == y.s.toList) = true := by rw[k2];simp
            by_cases k3:x.parent=y.parent
            · have k3b : (x.parent != y.parent) = false := by simp[k3]
              have k3c:(x.parent==y.parent)=true:=by simp[k3]
              by_cases k4:x.attrs=y.attrs
              · have HAT2:Hid (∀ W,Below W2.heap.size W2 W→Calls Tryd.prog 58 #[.slice xaa x.attrs.length xac,.slice yaa y.attrs.length yac] W fun e w'=>e=.returned (.bool true)∧Below W.heap.size W w'):=by
                 intro W h;have:=HAT.out W h;rw[decide_eq_true k4]at this;exact this
                by_cases k5:x.kids=y.kids
                · have HKN2:Hid (∀ W,Below W2.heap.size W2 W→Calls Tryd.prog 67 #[.slice xka x.kids.length xkc,.slice yka y.kids.length ykc] W fun e w'=>e=.returned (.bool true)∧Below W.heap.size W w'):=by
                   intro W h;have:=HKN.out W h;rw[decide_eq_true k5]at this;exact this
                  have HN:Hid (ndsB ns ms=ndsB (ns.drop (i+1)) (ms.drop (i+1))):=by
                   show _=_
                   rw[HT.out,HTD.out,show ndB x y=true by unfold ndB;simp[k1,k2,k3,k4,k5]];rfl
                  clear KF k1 k2 k3 k4 k5 HAT HKN;go_wp2_with fail;refine (Calls.mono (HAT2.out _ (Below.refl _ _)) ?_);rintro e w3 ⟨rfl,hb3⟩;have hX3:=(hb3.block _ (qf hF)).trans hF;have hY3:=(hb3.block _ (qf hG)).trans hG;have hu4:w3.cell? ⟨wr.heap.size,4,none⟩=some (.slice xka x.kids.length xkc):=by rw[cH9 hX3];rfl
                  have hv4:w3.cell? ⟨wr.heap.size+1,4,none⟩=some (.slice yka y.kids.length ykc):=by rw[cH9 hY3];rfl
                  go_wp2_with fail;refine (Calls.mono (HKN2.out _ hb3) ?_);rintro e w4 ⟨rfl,hb4⟩;go_wp2_with fail
                  go_roundg (ns.length-(i+1))
                  case measure => omega
                  case rel => exact ⟨i+1,by omega,by go_num,hB12.trans ((hb3.trans (hb4.mono hb3.size)).mono hB12.size),HN.out⟩
                · have HKN2:Hid (∀ W,Below W2.heap.size W2 W→Calls Tryd.prog 67 #[.slice xka x.kids.length xkc,.slice yka y.kids.length ykc] W fun e w'=>e=.returned (.bool false)∧Below W.heap.size W w'):=by
                   intro W h;have:=HKN.out W h;rw[decide_eq_false k5]at this;exact this
                  have HE:=KF (by unfold ndB;simp[k5])
                  clear KF k1 k2 k3 k4 k5 HAT HKN;go_wp2_with fail;refine (Calls.mono (HAT2.out _ (Below.refl _ _)) ?_);rintro e w3 ⟨rfl,hb3⟩;have hX3:=(hb3.block _ (qf hF)).trans hF;have hY3:=(hb3.block _ (qf hG)).trans hG;have hu4:w3.cell? ⟨wr.heap.size,4,none⟩=some (.slice xka x.kids.length xkc):=by rw[cH9 hX3];rfl
                  have hv4:w3.cell? ⟨wr.heap.size+1,4,none⟩=some (.slice yka y.kids.length ykc):=by rw[cH9 hY3];rfl
                  go_wp2_with fail;refine (Calls.mono (HKN2.out _ hb3) ?_);rintro e w4 ⟨rfl,hb4⟩;go_wp2_with fail;go_ret;exact ⟨by rw[HE.out];rfl,hBW2.trans ((hb3.trans (hb4.mono hb3.size)).mono hBW2.size)⟩
              · have HAT2:Hid (∀ W,Below W2.heap.size W2 W→Calls Tryd.prog 58 #[.slice xaa x.attrs.length xac,.slice yaa y.attrs.length yac] W fun e w'=>e=.returned (.bool false)∧Below W.heap.size W w'):=by
                 intro W h;have:=HAT.out W h;rw[decide_eq_false k4]at this;exact this
                have HE:=KF (by unfold ndB;simp[k4])
                clear KF k1 k2 k3 k4 HAT HKN;go_wp2_with fail;refine (Calls.mono (HAT2.out _ (Below.refl _ _)) ?_);rintro e w3 ⟨rfl,hb3⟩;go_wp2_with fail;go_ret;exact ⟨by rw[HE.out];rfl,hBW2.trans (hb3.mono hBW2.size)⟩
            · have k3b : (x.parent != y.parent) = true := by simpa using k3
              have k3c:(x.parent==y.parent)=false:=by simpa using k3
              have HE:=KF (by unfold ndB;simp[k3])
              clear KF k1 k2 k3 HAT HKN;go_wp2_with fail;go_ret;exact ⟨by rw[HE.out];rfl,hBW2⟩
          · have k2b : (x.s.toList == y.s.toList) = false := jI k2;have HE:=KF (by unfold ndB;simp[k2])
            clear KF k1 k2 HAT HKN;go_wp2_with fail;go_ret;exact ⟨by rw[HE.out];rfl,hBW2⟩
        · have k1b : (x.text == y.text) = false := by simpa using k1
          have HE:=KF (by unfold ndB;simp[k1])
          clear KF k1 HAT HKN;go_wp2_with fail;go_ret;exact ⟨by rw[HE.out];rfl,hBW2⟩
      · have hW2 : Below wr.heap.size wr ((wr.alloc (.cells #[.bool y.text, .string y.s, .slice yaa y.attrs.length yac, .int .i64 y.parent, .slice yka y.kids.length ykc] 90)).alloc (.cells #[.bool x.text, .string x.s, .slice xaa x.attrs.length xac, .int .i64 x.parent, .slice xka x.kids.length xkc] 90)).drew := (((Below.refl _ wr).alloc (nR9 _) _).alloc (by simp) _).drew
        have hF:(((wr.alloc (.cells #[.bool y.text,.string y.s,.slice yaa y.attrs.length yac,.int .i64 y.parent,.slice yka y.kids.length ykc] 90)).alloc (.cells #[.bool x.text,.string x.s,.slice xaa x.attrs.length xac,.int .i64 x.parent,.slice xka x.kids.length xkc] 90)).drew).heap[wr.heap.size]?=some (.cells #[.bool y.text,.string y.s,.slice yaa y.attrs.length yac,.int .i64 y.parent,.slice yka y.kids.length ykc] 90 (0,0)):=by
         show ((wr.alloc (.cells #[.bool y.text,.string y.s,.slice yaa y.attrs.length yac,.int .i64 y.parent,.slice yka y.kids.length ykc] 90)).alloc (.cells #[.bool x.text,.string x.s,.slice xaa x.attrs.length xac,.int .i64 x.parent,.slice xka x.kids.length xkc] 90)).heap[wr.heap.size]?=_
         rw[Lib.alloc_old _ _ _ (by simp)];exact heap_alloc_new _ _
        have hG:(((wr.alloc (.cells #[.bool y.text,.string y.s,.slice yaa y.attrs.length yac,.int .i64 y.parent,.slice yka y.kids.length ykc] 90)).alloc (.cells #[.bool x.text,.string x.s,.slice xaa x.attrs.length xac,.int .i64 x.parent,.slice xka x.kids.length xkc] 90)).drew).heap[wr.heap.size+1]?=some (.cells #[.bool x.text,.string x.s,.slice xaa x.attrs.length xac,.int .i64 x.parent,.slice xka x.kids.length xkc] 90 (0,0)):=by
         show ((wr.alloc (.cells #[.bool y.text,.string y.s,.slice yaa y.attrs.length yac,.int .i64 y.parent,.slice yka y.kids.length ykc] 90)).alloc (.cells #[.bool x.text,.string x.s,.slice xaa x.attrs.length xac,.int .i64 x.parent,.slice xka x.kids.length xkc] 90)).heap[wr.heap.size+1]?=_
         have e:=heap_alloc_new (wr.alloc (.cells #[.bool y.text,.string y.s,.slice yaa y.attrs.length yac,.int .i64 y.parent,.slice yka y.kids.length ykc] 90)) (.cells #[.bool x.text,.string x.s,.slice xaa x.attrs.length xac,.int .i64 x.parent,.slice xka x.kids.length xkc] 90);rw[World.size_alloc]at e
         exact e
        generalize ((wr.alloc (.cells #[.bool y.text,.string y.s,.slice yaa y.attrs.length yac,.int .i64 y.parent,.slice yka y.kids.length ykc] 90)).alloc (.cells #[.bool x.text,.string x.s,.slice xaa x.attrs.length xac,.int .i64 x.parent,.slice xka x.kids.length xkc] 90)).drew=W2 at *
        have x0:W2.cell? ⟨wr.heap.size+1,0,none⟩=some (.bool x.text):=by rw[cH9 hG];rfl
        have x1:W2.cell? ⟨wr.heap.size+1,1,none⟩=some (.string x.s):=by rw[cH9 hG];rfl
        have x2:W2.cell? ⟨wr.heap.size+1,2,none⟩=some (.slice xaa x.attrs.length xac):=by rw[cH9 hG];rfl
        have x3:W2.cell? ⟨wr.heap.size+1,3,none⟩=some (.int .i64 x.parent):=by rw[cH9 hG];rfl
        have x4:W2.cell? ⟨wr.heap.size+1,4,none⟩=some (.slice xka x.kids.length xkc):=by rw[cH9 hG];rfl
        have y0:W2.cell? ⟨wr.heap.size,0,none⟩=some (.bool y.text):=by rw[cH9 hF];rfl
        have y1:W2.cell? ⟨wr.heap.size,1,none⟩=some (.string y.s):=by rw[cH9 hF];rfl
        have y2:W2.cell? ⟨wr.heap.size,2,none⟩=some (.slice yaa y.attrs.length yac):=by rw[cH9 hF];rfl
        have y3:W2.cell? ⟨wr.heap.size,3,none⟩=some (.int .i64 y.parent):=by rw[cH9 hF];rfl
        have y4:W2.cell? ⟨wr.heap.size,4,none⟩=some (.slice yka y.kids.length ykc):=by rw[cH9 hF];rfl
        have HAT:Hid (∀ W,Below W2.heap.size W2 W→Calls Tryd.prog 58 #[.slice xaa x.attrs.length xac,.slice yaa y.attrs.length yac] W fun e w'=>e=.returned (.bool (decide (x.attrs=y.attrs)))∧Below W.heap.size W w'):=fun W h=>jS _ _ _ _ x.attrs y.attrs W ((hxA.later hW2).later h) ((hyA.later hW2).later h)
        have HKN:Hid (∀ W,Below W2.heap.size W2 W→Calls Tryd.prog 67 #[.slice xka x.kids.length xkc,.slice yka y.kids.length ykc] W fun e w'=>e=.returned (.bool (decide (x.kids=y.kids)))∧Below W.heap.size W w'):=fun W h=>yY _ _ _ _ x.kids y.kids W ((hxK.later hW2).later h) ((hyK.later hW2).later h)
        have hBW2:Below w.heap.size w W2:=hBw.trans (hW2.mono hBw.size);have hB12:Below W1.heap.size W1 W2:=hB.trans (hW2.mono hB.size)
        have KF:ndB x y=false→Hid (ndsB ns ms=false):=by
         intro hq
         show _=_
         rw[HT.out,HTD.out,hq];rfl
        clear p0 p1 p2 p3 p4 q0 q1 q2 q3 q4 dx dy hne0 hne1 hne2 hne3 hlt0 hlt1
        by_cases k1:x.text=y.text
        · have k1b : (x.text == y.text) = true := by simp[k1]
          by_cases k2:x.s=y.s
          · have k2b : (x.s.toList == y.s.toList) = true := by rw[k2];simp
            by_cases k3:x.parent=y.parent
            · have k3b : (x.parent != y.parent) = false := by simp[k3]
              have k3c:(x.parent==y.parent)=true:=by simp[k3]
              by_cases k4:x.attrs=y.attrs
              · have HAT2:Hid (∀ W,Below W2.heap.size W2 W→Calls Tryd.prog 58 #[.slice xaa x.attrs.length xac,.slice yaa y.attrs.length yac] W fun e w'=>e=.returned (.bool true)∧Below W.heap.size W w'):=by
                 intro W h;have:=HAT.out W h;rw[decide_eq_true k4]at this;exact this
                by_cases k5:x.kids=y.kids
                · have HKN2:Hid (∀ W,Below W2.heap.size W2 W→Calls Tryd.prog 67 #[.slice xka x.kids.length xkc,.slice yka y.kids.length ykc] W fun e w'=>e=.returned (.bool true)∧Below W.heap.size W w'):=by
                   intro W h;have:=HKN.out W h;rw[decide_eq_true k5]at this;exact this
                  have HN:Hid (ndsB ns ms=ndsB (ns.drop (i+1)) (ms.drop (i+1))):=by
                   show _=_
                   rw[HT.out,HTD.out,show ndB x y=true by unfold ndB;simp[k1,k2,k3,k4,k5]];rfl
                  clear KF k1 k2 k3 k4 k5 HAT HKN;go_wp2_with fail;refine (Calls.mono (HAT2.out _ (Below.refl _ _)) ?_);rintro e w3 ⟨rfl,hb3⟩;have hX3:=(hb3.block _ (qf hG)).trans hG;have hY3:=(hb3.block _ (qf hF)).trans hF;have hu4:w3.cell? ⟨wr.heap.size+1,4,none⟩=some (.slice xka x.kids.length xkc):=by rw[cH9 hX3];rfl
                  have hv4:w3.cell? ⟨wr.heap.size,4,none⟩=some (.slice yka y.kids.length ykc):=by rw[cH9 hY3];rfl
                  go_wp2_with fail;refine (Calls.mono (HKN2.out _ hb3) ?_);rintro e w4 ⟨rfl,hb4⟩;go_wp2_with fail
                  go_roundg (ns.length-(i+1))
                  case measure => omega
                  case rel => exact ⟨i+1,by omega,by go_num,hB12.trans ((hb3.trans (hb4.mono hb3.size)).mono hB12.size),HN.out⟩
                · have HKN2:Hid (∀ W,Below W2.heap.size W2 W→Calls Tryd.prog 67 #[.slice xka x.kids.length xkc,.slice yka y.kids.length ykc] W fun e w'=>e=.returned (.bool false)∧Below W.heap.size W w'):=by
                   intro W h;have:=HKN.out W h;rw[decide_eq_false k5]at this;exact this
                  have HE:=KF (by unfold ndB;simp[k5])
                  clear KF k1 k2 k3 k4 k5 HAT HKN;go_wp2_with fail;refine (Calls.mono (HAT2.out _ (Below.refl _ _)) ?_);rintro e w3 ⟨rfl,hb3⟩;have hX3:=(hb3.block _ (qf hG)).trans hG;have hY3:=(hb3.block _ (qf hF)).trans hF;have hu4:w3.cell? ⟨wr.heap.size+1,4,none⟩=some (.slice xka x.kids.length xkc):=by rw[cH9 hX3];rfl
                  have hv4:w3.cell? ⟨wr.heap.size,4,none⟩=some (.slice yka y.kids.length ykc):=by rw[cH9 hY3];rfl
                  go_wp2_with fail;refine (Calls.mono (HKN2.out _ hb3) ?_);rintro e w4 ⟨rfl,hb4⟩;go_wp2_with fail;go_ret;exact ⟨by rw[HE.out];rfl,hBW2.trans ((hb3.trans (hb4.mono hb3.size)).mono hBW2.size)⟩
              · have HAT2:Hid (∀ W,Below W2.heap.size W2 W→Calls Tryd.prog 58 #[.slice xaa x.attrs.length xac,.slice yaa y.attrs.length yac] W fun e w'=>e=.returned (.bool false)∧Below W.heap.size W w'):=by
                 intro W h;have:=HAT.out W h;rw[decide_eq_false k4]at this;exact this
                have HE:=KF (by unfold ndB;simp[k4])
                clear KF k1 k2 k3 k4 HAT HKN;go_wp2_with fail;refine (Calls.mono (HAT2.out _ (Below.refl _ _)) ?_);rintro e w3 ⟨rfl,hb3⟩;go_wp2_with fail;go_ret;exact ⟨by rw[HE.out];rfl,hBW2.trans (hb3.mono hBW2.size)⟩
            · have k3b : (x.parent != y.parent) = true := by simpa using k3
              have k3c:(x.parent==y.parent)=false:=by simpa using k3
              have HE:=KF (by unfold ndB;simp[k3])
              clear KF k1 k2 k3 HAT HKN;go_wp2_with fail;go_ret;exact ⟨by rw[HE.out];rfl,hBW2⟩
          · have k2b : (x.s.toList == y.s.toList) = false := jI k2;have HE:=KF (by unfold ndB;simp[k2])
            clear KF k1 k2 HAT HKN;go_wp2_with fail;go_ret;exact ⟨by rw[HE.out];rfl,hBW2⟩
        · have k1b : (x.text == y.text) = false := by simpa using k1
          have HE:=KF (by unfold ndB;simp[k1])
          clear KF k1 HAT HKN;go_wp2_with fail;go_ret;exact ⟨by rw[HE.out];rfl,hBW2⟩
    · have hili : ¬ ((i : Int) < (ns.length : Int)) := by omega
      have HE:Hid (ndsB ns ms=true):=by
       show _=_
       rw[HT.out,List.drop_of_length_le (by omega),List.drop_of_length_le (by have:=HLM.out;omega)]
       rfl
      go_wp2_with fail;go_ret;exact ⟨by rw[HE.out];rfl,hBw⟩
 · have hne : ((ns.length : Int) != (ms.length : Int)) = true := by simp;omega
   have HE:Hid (ndsB ns ms=false):=ndsB_len hlm;clear hlm
   go_enter Tryd.func35,Tryd.ntmps35
   go_wp2_with fail;go_ret;exact ⟨by rw[HE.out];rfl,hb0⟩
end
section
attribute [local go_sem] qg
def IsDocOk:Prop:=∀ (S:Nat→Prop) (v:Value) (ns:List Nd) (w:World),zl S w v ns →
 Calls Tryd.prog 41 #[.agg #[v]] w fun e w'=>e=.returned (.bool (qi ns))∧Below w.heap.size w w'
theorem JX (f:Nat)(ns:List Nd)(m:Int):withF f ns (-1) m=false:=by
 cases f with
 | zero=>rfl
 | succ f=>rw[withF,if_pos (by omega)]
set_option maxHeartbeats 1000000 in
theorem Y1 (S:Nat→Prop)(v:Value)(ns:List Nd)(n:Nat)(m:Int)(w:World)(hD:zl S w v ns)(hg:qi ns=true)(hn:n<ns.length) :
 Calls Tryd.prog 73 #[.agg #[v],.int .i64 (n:Int),.int .i64 m] w fun e w'=>e=.returned (.bool (withF (n+1) ns (n:Int) m))∧Below w.heap.size w w':=by
 have hb1:=Below.alloc1 w (.cells #[v] 47);have hx1:=heap_alloc_new w (.cells #[v] 47);have HG:Hid (qi ns=true):=hg;have HN:Hid (qr S w v ns):=hD.nodes;obtain ⟨a,cap,rfl,hlc,hcm⟩:=hD.nodes.shape;unfold maxLen at hcm
 have HW:Hid (withF (n+1) ns (n:Int) m=withF (n+1) ns (n:Int) m):=rfl;clear hD hg
 go_enter Tryd.func73,Tryd.ntmps73
 go_wp2_with fail
 generalize w.alloc (.cells #[.slice a ns.length cap] 47)=W1 at *
 have d1:W1.cell? ⟨w.heap.size,0,none⟩=some (.slice a ns.length cap):=by rw[cH9 hx1];rfl
 have HN1:Hid (qr S W1 (.slice a ns.length cap) ns):=HN.out.later hb1;clear hx1 HN
 go_loopg [1] (n+1) (fun g j wr=>∃ (kk:Int) (f:Nat),(kk+1).toNat=g∧j=.int .i64 kk∧wr=W1∧withF (n+1) ns (n:Int) m=withF f ns kk m∧(kk=-1∨∃ q:Nat,kk=(q:Int)∧q<ns.length∧q<f))
 case atStart => exact ⟨(n:Int),n+1,by omega,rfl,rfl,rfl,Or.inr ⟨n,rfl,hn,by omega⟩⟩
 case round =>
  obtain ⟨kk,f,hgg,rfl,hwr,hE,hor⟩:=hrel;subst hwr;have HE:Hid (withF (n+1) ns (n:Int) m=withF f ns kk m):=hE;clear hE
  rcases hor with rfl|⟨q,rfl,hq,hqf⟩
  · have HE2 : Hid (withF (n + 1) ns (n : Int) m = false) := by show _ = _;rw[HE.out, JX]
    clear HE hgg;go_wp2_with fail;go_ret;exact ⟨by rw[HE2.out];rfl,hb1⟩
  · obtain ⟨f', rfl⟩ : ∃ f', f = f' + 1 := ⟨f - 1, by omega⟩
    obtain ⟨x,hx⟩:∃ x,ns[q]?=some x:=⟨ns[q],by simp[hq]⟩
    have hq0:(0:Int)≤(q:Int):=by omega
    have hqi:(q:Int)<(ns.length:Int):=by omega
    by_cases hqm:(q:Int)=m
    · have hqmb : ((q : Int) == m) = true := by simp[hqm]
      have HE2:Hid (withF (n+1) ns (n:Int) m=true):=by show _=_;rw[HE.out,withF,if_neg (by omega),if_pos hqm]
      clear HE hqm hgg;go_wp2_with fail;go_ret;exact ⟨by rw[HE2.out];rfl,hb1⟩
    · have hqmb : ((q : Int) == m) = false := by simpa using hqm
      have HE2:Hid (withF (n+1) ns (n:Int) m=withF f' ns x.parent m):=by
       show _=_
       rw[HE.out,withF,if_neg (by omega),if_neg hqm,Int.toNat_natCast,hx]
      obtain ⟨b,o,cap2,xva,xvk,hv,_,_,_,hbw,_,_,_,c3,_,_,_⟩:=HN1.out.at hx
      injection hv with hv1 hvl hv2
      subst hv1 hv2;clear hvl;have hpar:=(qF HG.out hx).par;clear HE hqm hx;go_wp2_with fail
      rcases hpar with ⟨_,hp⟩|⟨q2,y,hy,hp,hq2,_⟩
      · rw[hp]at HE2 ⊢
        go_roundg 0
        case measure => omega
        case rel => exact ⟨-1,f',by omega,rfl,rfl,HE2.out,Or.inl rfl⟩
      · have hy2 := qD hy;rw[hp]at HE2 ⊢
        go_roundg (q2+1)
        case measure => omega
        case rel => exact ⟨(q2:Int),f',by omega,rfl,rfl,HE2.out,Or.inr ⟨q2,rfl,hy2,by omega⟩⟩
theorem jK {ns:List Nd}{m:Int}(h:m<0∨(ns.length:Int)≤m):qy ns m=0:=by
 unfold qy qP
 rcases h with h|h
 · simp[show ¬ 0≤m by omega]
 · simp[show ¬ m<ns.length by omega]
theorem Q3 {ns:List Nd}(hg:qi ns=true)(m:Int):qy ns m≤ns.length:=by
 by_cases h:m<0∨(ns.length:Int)≤m
 · rw[jK h];omega
 · obtain ⟨k, rfl⟩ : ∃ k : Nat, m = (k : Int) := ⟨m.toNat, by omega⟩
   have hk:k<ns.length:=by omega
   exact (Jq hg (j:=k) (x:=ns[k]) (by simp[hk])).le
theorem QA {ns:List Nd}(n m:Int):inD ns n m=(qi ns&&decide (0≤n)&&decide (n<ns.length)&&decide (0≤m)&&withF (n.toNat+1) ns n m):=by
 cases hg:qi ns with
 | false =>
   have:qy ns m=0:=by unfold qy;rw[hg];rfl
   unfold inD;rw[this];simp
 | true =>
   have hle:=Q3 hg m
   by_cases hm:m<0
   · have : qy ns m = 0 := jK (Or.inl hm);unfold inD;rw[this];simp[show ¬ 0≤m by omega]
   · obtain ⟨M, rfl⟩ : ∃ M : Nat, m = (M : Int) := ⟨m.toNat, by omega⟩
     by_cases hn:0≤n∧n<ns.length
     · obtain ⟨N, rfl⟩ : ∃ N : Nat, n = (N : Int) := ⟨n.toNat, by omega⟩
       have hN:N<ns.length:=by omega
       rw[Int.toNat_natCast,(X8 hg M (N+1) N (by omega) hN).1]
       unfold inD
       by_cases h1:(M:Int)≤(N:Int)
       · by_cases h2 : (N : Int) < qy ns (M : Int)
         · have h3 : 0 < qy ns (M : Int) := by omega
           simp[h1,h2,h3];omega
         · simp[h2]
       · simp[h1]
     · have e1:(decide (0≤n)&&decide (n<(ns.length:Int)))=false:=by
        rcases Classical.not_and_iff_not_or_not.1 hn with h|h
        · simp[h]
        · simp[h]
       have e2:inD ns n (M:Int)=false:=by
        unfold inD
        rcases Classical.not_and_iff_not_or_not.1 hn with h|h
        · simp[show ¬ (M:Int)≤n by omega]
        · simp[show ¬ n<qy ns (M:Int) by omega]
       rw[e2,Bool.true_and,e1];rfl
set_option maxHeartbeats 1000000 in
theorem xO (hI:IsDocOk)(S:Nat→Prop)(v:Value)(ns:List Nd)(n m:Int)(w:World)(hD:zl S w v ns) :
 Calls Tryd.prog 45 #[.agg #[v],.int .i64 n,.int .i64 m] w fun e w'=>e=.returned (.bool (inD ns n m))∧Below w.heap.size w w':=by
 have hb1:=Below.alloc1 w (.cells #[v] 47);have hx1:=heap_alloc_new w (.cells #[v] 47);have HG:Hid _:=hI S v ns _ (hD.later hb1);have HD:Hid (zl S w v ns):=hD;have HC:Hid _:=QA (ns:=ns) n m;obtain ⟨a,cap,rfl,hlc,hcm⟩:=hD.nodes.shape;unfold maxLen at hcm
 clear hD hI
 go_enter Tryd.func45,Tryd.ntmps45
 go_wp2_with fail;refine (Calls.mono HG.out ?_);rintro e w2 ⟨rfl,hb2⟩;have hx2:=(hb2.block _ (qf hx1)).trans hx1;have hB2:Below w.heap.size w w2:=hb1.trans (hb2.mono hb1.size);have d2:w2.cell? ⟨w.heap.size,0,none⟩=some (.slice a ns.length cap):=by rw[cH9 hx2];rfl
 clear HG hb1 hx1 hb2;obtain ⟨q,hq⟩:∃ q,qi ns=q:=⟨_,rfl⟩;rw[hq];cases q with
 | false =>
   have HE:Hid (inD ns n m=false):=by show _=_;rw[HC.out,hq];rfl
   clear HC hq;go_wp2_with fail;go_ret;exact ⟨by rw[HE.out];rfl,hB2⟩
 | true =>
   have HQ:Hid (qi ns=true):=hq;clear hq
   by_cases h1:n<0
   · have HE : Hid (inD ns n m = false) := by show _ = _;rw[HC.out];simp[show ¬ 0 ≤ n by omega]
     clear HC;go_wp2_with fail;go_ret;exact ⟨by rw[HE.out];rfl,hB2⟩
   · by_cases h2 : (ns.length : Int) ≤ n
     · have HE : Hid (inD ns n m = false) := by show _ = _;rw[HC.out];simp[show ¬ n < ns.length by omega]
       clear HC;go_wp2_with fail;go_ret;exact ⟨by rw[HE.out];rfl,hB2⟩
     · by_cases h3 : m < 0
       · have HE : Hid (inD ns n m = false) := by show _ = _;rw[HC.out];simp[show ¬ 0 ≤ m by omega]
         clear HC;go_wp2_with fail;go_ret;exact ⟨by rw[HE.out];rfl,hB2⟩
       · obtain ⟨N, rfl⟩ : ∃ N : Nat, n = (N : Int) := ⟨n.toNat, by omega⟩
         have HE:Hid (inD ns (N:Int) m=withF (N+1) ns (N:Int) m):=by
          show _=_
          rw[HC.out,HQ.out,Int.toNat_natCast];simp[show (0:Int)≤m by omega,show (N:Int)<ns.length by omega]
         have HWI:Hid _:=Y1 S _ ns N m w2 (HD.out.later hB2) HQ.out (by omega)
         clear HC;go_wp2_with fail;refine (Calls.mono HWI.out ?_);rintro e w3 ⟨rfl,hb3⟩;go_wp2_with fail;go_ret;exact ⟨by rw[HE.out];rfl,hB2.trans (hb3.mono hB2.size)⟩
def yI (ns:List Nd)(n:Int):Nat→Int
 | 0=>0
 | k+1=>if inD ns (k:Int) n then (k:Int)+1 else yI ns n k
theorem ZF (ns:List Nd)(n:Int):∀ k,0≤yI ns n k∧yI ns n k≤k:=by
 intro k
 induction k with
 | zero=>exact ⟨Int.le_refl _,Int.le_refl _⟩
 | succ k ih =>
   rw[yI]
   split<;>omega
theorem Xb {ns:List Nd}(n:Int):yI ns n ns.length=qy ns n:=by
 by_cases hz:qy ns n=0
 · have:∀ k,yI ns n k=0:=by
    intro k
    induction k with
    | zero=>rfl
    | succ k ih =>
      rw[yI,ih];have:inD ns (k:Int) n=false:=by unfold inD;rw[hz];simp
      rw[this];rfl
   rw[this,hz]
 · have hg:qi ns=true:=by
    cases h:qi ns with
    | true=>rfl
    | false=>exact absurd (by unfold qy;rw[h];rfl) hz
   have hn:¬ (n<0∨(ns.length:Int)≤n):=fun h=>hz (jK h)
   obtain ⟨N,rfl⟩:∃ N:Nat,n=(N:Int):=⟨n.toNat,by omega⟩
   have hN:N<ns.length:=by omega
   have hgt:=(qF hg (j:=N) (x:=ns[N]) (by simp[hN])).gt
   have hle:=Q3 hg (N:Int)
   have key:∀ k:Nat,yI ns (N:Int) k=if (k:Int)≤N then 0 else min (k:Int) (qy ns (N:Int)):=by
    intro k
    induction k with
    | zero=>simp[yI]
    | succ k ih =>
      rw[yI,ih]
      have hin:inD ns (k:Int) (N:Int)=(decide ((N:Int)≤k)&&decide ((k:Int)<qy ns (N:Int))):=by
       unfold inD;have:0<qy ns (N:Int):=by omega
       simp[this]
      rw[hin]
      by_cases h1:(N:Int)≤k
      · by_cases h2 : (k : Int) < qy ns (N : Int)
        · simp only[h1, h2, decide_true, Bool.and_self, if_true];rw[if_neg (by omega)]
          push_cast
          omega
        · simp only[h1, h2, decide_true, decide_false, Bool.and_false];rw[if_neg (by simp),if_neg (by omega)]
          split
          · omega
          · push_cast;omega
      · simp only[h1, decide_false, Bool.false_and];rw[if_neg (by simp),if_pos (by omega)]
        split
        · rfl
        · push_cast at *;omega
   rw[key,if_neg (by omega)]
   omega
set_option maxHeartbeats 1000000 in
theorem Jn (hI:IsDocOk)(S:Nat→Prop)(v:Value)(ns:List Nd)(n:Int)(w:World)(hD:zl S w v ns) :
 Calls Tryd.prog 43 #[.agg #[v],.int .i64 n] w fun e w'=>e=.returned (.int .i64 (qy ns n))∧Below w.heap.size w w':=by
 have hb1:=Below.alloc1 w (.cells #[v] 47);have hx1:=heap_alloc_new w (.cells #[v] 47);have HII:Hid (∀ (k:Int) (W:World),Below w.heap.size w W→Calls Tryd.prog 45 #[.agg #[v],.int .i64 k,.int .i64 n] W fun e w'=>e=.returned (.bool (inD ns k n))∧Below W.heap.size W w'):=fun k W h=>xO hI S v ns k n W (hD.later h)
 have HE:Hid (yI ns n ns.length=qy ns n):=Xb n;obtain ⟨a,cap,rfl,hlc,hcm⟩:=hD.nodes.shape;unfold maxLen at hcm
 clear hD hI
 go_enter Tryd.func43,Tryd.ntmps43
 go_wp2_with fail
 generalize w.alloc (.cells #[.slice a ns.length cap] 47)=W1 at *
 have hz1:=qf hx1
 go_loopg [10,5] ns.length (fun g j z wr=>∃ (k:Nat),k+g=ns.length∧j=.int .i64 (k:Int)∧z=.int .i64 (yI ns n k)∧Below W1.heap.size W1 wr)
 case atStart => exact ⟨0,by omega,rfl,rfl,Below.refl _ _⟩
 case round =>
  obtain ⟨k,hk,rfl,rfl,hB⟩:=hrel;have hbd:=ZF ns n k;have hxr:=(hB.block _ hz1).trans hx1;have hBw:Below w.heap.size w wr:=hb1.trans (hB.mono hb1.size);have dr:wr.cell? ⟨w.heap.size,0,none⟩=some (.slice a ns.length cap):=by rw[cH9 hxr];rfl
  by_cases hkl:k<ns.length
  · have hkli : (k : Int) < (ns.length : Int) := by omega
    have HC:Hid _:=HII.out (k:Int) wr hBw;have HU:Hid (yI ns n (k+1)=if inD ns (k:Int) n then (k:Int)+1 else yI ns n k):=rfl
    obtain ⟨q,hq⟩:∃ q,inD ns (k:Int) n=q:=⟨_,rfl⟩;rw[hq]at HC HU
    obtain ⟨z,hz⟩:∃ z,yI ns n k=z:=⟨_,rfl⟩;rw[hz]at HU hbd ⊢
    clear hq hz hxr;cases q with
    | true =>
      have HU2:Hid (yI ns n (k+1)=(k:Int)+1):=HU.out;clear HU;go_wp2_with fail;refine (Calls.mono HC.out ?_);rintro e w3 ⟨rfl,hb3⟩;go_wp2_with fail
      go_roundg (ns.length-(k+1))
      case measure => omega
      case rel => exact ⟨k+1,by omega,by go_num,by rw[HU2.out],hB.trans (hb3.mono hB.size)⟩
    | false =>
      have HU2:Hid (yI ns n (k+1)=z):=HU.out;clear HU;go_wp2_with fail;refine (Calls.mono HC.out ?_);rintro e w3 ⟨rfl,hb3⟩;go_wp2_with fail
      go_roundg (ns.length-(k+1))
      case measure => omega
      case rel => exact ⟨k+1,by omega,by go_num,by rw[HU2.out],hB.trans (hb3.mono hB.size)⟩
  · have hkli : ¬ ((k : Int) < (ns.length : Int)) := by omega
    have hkk:k=ns.length:=by omega
    have HE2:Hid (yI ns n k=qy ns n):=by show _=_;rw[hkk,HE.out]
    clear hkk;go_wp2_with fail;go_ret;exact ⟨by rw[←HE2.out];rfl,hBw⟩
end
section
attribute [local go_sem] qg
def jV : Prop := ∀ (S : Nat → Prop) (n : Nat) (va vk : Value) (t : Tr) (w : World), qe S w va t.attrs → qb S w n vk t.kids → TextsN (n + 1) [t] → cnt (n + 1) [t] ≤ 1048576 → (∀ b, S b → b < w.heap.size) →
    Calls Tryd.prog 34 #[.agg #[.bool t.text,.string t.s,va,vk]] w fun e w'=>∃ v,e=.returned (.tuple #[.agg #[v],.int .i64 (ym t)])∧qr (fun b=>w.heap.size≤b) w' v (yl n t)∧Below w.heap.size w w'
theorem YY {ns:List Nd}(h:jW ns):∀ (f n:Nat),Zq (treeF f ns n)∧TextsN f (treeF f ns n).kids:=by
 intro f
 induction f with
 | zero=>intro n;exact ⟨⟨nZ9 _,by intro y hy;simp[treeF]at hy⟩,trivial⟩
 | succ f ih =>
   intro n;rw[treeF];cases hx:ns[n]? with
   | none=>exact ⟨⟨nZ9 _,by intro y hy;simp at hy⟩,by intro t ht;simp at ht⟩
   | some x =>
     refine ⟨h x (List.mem_of_getElem? hx),fun t ht=>?_⟩
     simp only[List.mem_map]at ht
     obtain ⟨k,_,rfl⟩:=ht;exact ih _
theorem cnt_depR:∀ (d e:Nat) (ks:List Tr),Deep d ks→Deep e ks→cnt d ks=cnt e ks:=by
 intro d
 induction d with
 | zero=>intro e ks h _;have h:ks=[]:=h;subst h;rw[qH,qH]
 | succ d ih =>
   intro e ks h1 h2;cases e with
   | zero=>have h:ks=[]:=h2;subst h;rw[qH,qH]
   | succ e =>
     induction ks with
     | nil=>rw[qH,qH]
     | cons k r ihr =>
       rw[zz,zz,ih e k.kids (h1 k List.mem_cons_self) (h2 k List.mem_cons_self),ihr (fun t ht=>h1 t (List.mem_cons_of_mem _ ht)) (fun t ht=>h2 t (List.mem_cons_of_mem _ ht))]
theorem YT (d e:Nat):∀ (ks:List Tr) (a:Nat),(∀ k∈ks,Deep d k.kids∧Deep e k.kids)→qh d a ks=qh e a ks:=by
 intro ks
 induction ks with
 | nil=>intro a _;rfl
 | cons k r ih =>
   intro a h;have hk:=h k List.mem_cons_self;rw[qh,qh,qp,qp,cnt_depR d e _ hk.1 hk.2,ih _ (fun t ht=>h t (List.mem_cons_of_mem _ ht))]
theorem Xj (d e:Nat)(f g:Tr→Int→Nat→List Nd)(par:Nat):∀ (ks:List Tr) (a:Nat),(∀ k∈ks,Deep d k.kids∧Deep e k.kids)→(∀ k∈ks,∀ p a,f k p a=g k p a)→qn d f par a ks=qn e g par a ks:=by
 intro ks
 induction ks with
 | nil=>intro a _ _;rfl
 | cons k r ih =>
   intro a h hfg;have hk:=h k List.mem_cons_self;rw[qn,qn,qp,qp,cnt_depR d e _ hk.1 hk.2,hfg k List.mem_cons_self,ih _ (fun t ht=>h t (List.mem_cons_of_mem _ ht)) (fun t ht=>hfg t (List.mem_cons_of_mem _ ht))]
theorem lay_dep:∀ (d e:Nat) (t:Tr) (par:Int) (a:Nat),Deep d t.kids→Deep e t.kids→layF d t par a=layF e t par a:=by
 intro d
 induction d with
 | zero =>
   intro e t par a h1 h2;have h:t.kids=[]:=h1;cases e with
   | zero=>rfl
   | succ e=>rw[layF,layF,h];rfl
 | succ d ih =>
   intro e t par a h1 h2;cases e with
   | zero =>
     have h:t.kids=[]:=h2;rw[layF,layF,h];rfl
   | succ e =>
     rw[layF,layF,YT d e _ _ (fun k hk=>⟨h1 k hk,h2 k hk⟩),Xj d e (layF d) (layF e) a _ _ (fun k hk=>⟨h1 k hk,h2 k hk⟩) (fun k hk p q=>ih e k p q (h1 k hk) (h2 k hk))]
theorem ZK {ns:List Nd}{x:Nd}{t:Tr}{n:Nat}(hx:ns[0]?=some x)(h80:ns.length≤80)(hp:x.parent=-1)(hps:zt ns ns.length=true)(ht:treeF ns.length ns 0=t)(hd:Deep n t.kids) :
 qi ns=(qw t&&ndsB (layF n t (-1) 0) ns):=by
 have hpos:0<ns.length:=qD hx;rw[Bool.eq_iff_iff,jZ,Bool.and_eq_true,ndsB_iff,ht]
 constructor
 · rintro ⟨_, _, _, _, hg, d, hd2, hl⟩;exact ⟨hg,by rw[lay_dep n d t (-1) 0 hd hd2];exact hl⟩
 · rintro ⟨hg, hl⟩;exact ⟨hpos,h80,⟨x,hx,hp⟩,hps,hg,n,hd,hl⟩
theorem zB {ns:List Nd}(h:¬ (0<ns.length∧ns.length≤80∧(∃ x,ns[0]?=some x∧x.parent=-1)∧zt ns ns.length=true)):qi ns=false:=by
 cases hg:qi ns with
 | false=>rfl
 | true =>
   have:=jZ.1 hg;exact absurd ⟨this.1,this.2.1,this.2.2.1,this.2.2.2.1⟩ h
theorem xV {ns:List Nd}{k:Nat}(h:zt ns k=false):∀ m,k≤m→zt ns m=false:=by
  intro m
  induction m with
  | zero => intro hm;have : k = 0 := by omega
            subst this;exact h
  | succ m ih =>
    intro hm
    by_cases hk:k=m+1
    · rw[←hk];exact h
    · rw[zt,ih (by omega)];rfl
set_option maxHeartbeats 2000000 in
theorem Jt (hM:jV):IsDocOk:=by
 intro S v ns w hD;have hb1:=Below.alloc1 w (.cells #[v] 47);have hx1:=heap_alloc_new w (.cells #[v] 47);have HD:Hid (zl S w v ns):=hD;have HM:Hid jV:=hM;have HN1:Hid (qr S (w.alloc (.cells #[v] 47)) v ns):=hD.nodes.later hb1;obtain ⟨a,cap,rfl,hlc,hcm⟩:=hD.nodes.shape;unfold maxLen at hcm
 clear hD hM
 by_cases h0:ns.length=0
 · have hn : ns = [] := List.eq_nil_of_length_eq_zero h0;subst hn;have HE:Hid (qi []=false):=zB (by simp)
   clear hx1
   go_enter Tryd.func41,Tryd.ntmps41
   go_wp2_with fail;go_ret;exact ⟨by rw[HE.out];rfl,hb1⟩
 obtain ⟨x0,hx0⟩:∃ x,ns[0]?=some x:=⟨ns[0]'(by omega),by simp[show 0<ns.length by omega]⟩
 obtain ⟨b,o,cap2,xva,xvk,hv,_,_,hSb,hbw,_,_,_,c3,_,_,_⟩:=HN1.out.at hx0
 injection hv with hv1 hvl hv2
 subst hv1 hv2;clear hvl;have h0b:((ns.length:Int)==0)=false:=by simpa using h0
 have hpos:(0:Int)<(ns.length:Int):=by omega
 have c3z:(w.alloc (.cells #[.slice (some ⟨b,o,none⟩) ns.length cap] 47)).cell? ⟨b,o+3,none⟩=some (.int .i64 x0.parent):=by simpa using c3
 clear c3
 go_enter Tryd.func41,Tryd.ntmps41
 by_cases h80:ns.length≤80
 · have h80i : ¬ (80 : Int) < (ns.length : Int) := by omega
   by_cases hp0:x0.parent=-1
   · rw[hp0]at c3z
     go_wp2_with fail;have HN2:Hid (qr S (w.alloc (.cells #[.slice (some ⟨b,o,none⟩) ns.length cap] 47)) (.slice (some ⟨b,o,none⟩) ns.length cap) ns):=HN1.out
     generalize w.alloc (.cells #[.slice (some ⟨b,o,none⟩) ns.length cap] 47)=W1 at hb1 hx1 HN2 ⊢
     have hz1:=qf hx1;clear c3z HN1
     go_loopg [28] ns.length (fun g j wr=>∃ (k:Nat),k+g=ns.length∧j=.int .i64 (k:Int)∧Below W1.heap.size W1 wr∧zt ns k=true)
     case atStart => exact ⟨0,by omega,rfl,Below.refl _ _,rfl⟩
     case round =>
      obtain ⟨k,hk,rfl,hB,hpk⟩:=hrel;have HPK:Hid (zt ns k=true):=hpk;clear hpk;have hxr:=(hB.block _ hz1).trans hx1;have hBw:Below w.heap.size w wr:=hb1.trans (hB.mono hb1.size);have dr:wr.cell? ⟨w.heap.size,0,none⟩=some (.slice (some ⟨b,o,none⟩) ns.length cap):=by rw[cH9 hxr];rfl
      by_cases hkl:k<ns.length
      · have hkli : (k : Int) < (ns.length : Int) := by omega
        obtain ⟨y,hy⟩:∃ y,ns[k]?=some y:=⟨ns[k],by simp[hkl]⟩
        have HPS:Hid (zt ns (k+1)=(decide (k=0)||(decide (0≤y.parent)&&decide (y.parent<(k:Int))))):=by show _=_;rw[zt,HPK.out,hy];rfl
        obtain ⟨b',o',cap3,yva,yvk,hv,_,_,_,hbw2,c0,c1,c2,c3,c4,hAt,hKi⟩:=(HN2.out.later hB).at hy
        cases hv;obtain ⟨aa,ac,rfl⟩:=hAt.shape;obtain ⟨ka,kc,rfl,_,_⟩:=hKi.shape;have hBa:∀ X,Below W1.heap.size W1 (wr.alloc X):=fun X=>hB.alloc hB.size X
        have hBwa:∀ X,Below w.heap.size w (wr.alloc X):=fun X=>hBw.alloc hBw.size X
        clear hAt hKi hy hxr
        by_cases hk0:k=0
        · have HP2 : Hid (zt ns (k + 1) = true) := by show _ = _;rw[HPS.out];simp[hk0]
          have hk0i:¬ (0:Int)<(k:Int):=by omega
          clear hk0 HPS;go_wp2_with fail
          go_roundg (ns.length-(k+1))
          case measure => omega
          case rel => exact ⟨k+1,by omega,by go_num,hBa _,HP2.out⟩
        · have hk0i : (0 : Int) < (k : Int) := by omega
          by_cases hneg:y.parent<0
          · have HE:Hid (qi ns=false):=zB (fun h=>by
             have h1:zt ns (k+1)=false:=by rw[HPS.out];simp[hk0];omega
             have h2:=xV h1 ns.length (by omega)
             rw[h2]at h;exact absurd h.2.2.2 (by simp))
            clear hk0 HPS;go_wp2_with fail;go_ret;exact ⟨by rw[HE.out];rfl,hBwa _⟩
          · by_cases hge : (k : Int) ≤ y.parent
            · have HE:Hid (qi ns=false):=zB (fun h=>by
               have h1:zt ns (k+1)=false:=by rw[HPS.out];simp[hk0];omega
               have h2:=xV h1 ns.length (by omega)
               rw[h2]at h;exact absurd h.2.2.2 (by simp))
              clear hk0 HPS;go_wp2_with fail;go_ret;exact ⟨by rw[HE.out];rfl,hBwa _⟩
            · have HP2 : Hid (zt ns (k + 1) = true) := by show _ = _;rw[HPS.out];simp[hk0];omega
              clear hk0 HPS;go_wp2_with fail
              go_roundg (ns.length-(k+1))
              case measure => omega
              case rel => exact ⟨k+1,by omega,by go_num,hBa _,HP2.out⟩
      · have hkli : ¬ ((k : Int) < (ns.length : Int)) := by omega
        have hkk:k=ns.length:=by omega
        have HPA:Hid (zt ns ns.length=true):=by show _=_;rw[←hkk];exact HPK.out
        have HT:Hid _:=x7 ns.length S _ ns 0 wr (HD.out.later hBw).nodes HD.out.few h80 (by omega) (by omega)
        rw[show ((0:Nat):Int)=0 from rfl]at HT
        obtain ⟨t,ht⟩:∃ t,treeF ns.length ns 0=t:=⟨_,rfl⟩
        have HX:Hid (TextsN (ns.length+1) [t]):=by
         show TextsN (ns.length+1) [t]
         intro u hu;rw[List.mem_singleton]at hu
         rw[hu,←ht];exact YY HD.out.short _ _
        have HCT:Hid (cnt (ns.length+1) [t]≤1048576):=by show cnt (ns.length+1) [t]≤1048576;rw[←ht];exact XE (by omega) h80 h80
        rw[ht]at HT
        have HPT:Hid (∀ n,Deep n t.kids→qi ns=(qw t&&ndsB (layF n t (-1) 0) ns)):=fun n hd=>ZK hx0 h80 hp0 HPA.out ht hd
        clear hkk ht hx0;go_wp2_with fail;refine (Calls.mono HT.out ?_);rintro e w3 ⟨va,vk,rfl,hA,hK,hb3⟩;have HTD:Hid _:=HPT.out _ (qb.deep _ hK);have HMM:Hid _:=HM.out _ _ _ _ t w3 hA.bounded (qb.bounded _ hK) HX.out HCT.out (fun b hb=>hb.2)
        obtain ⟨aa,ac,rfl⟩:=hA.shape;obtain ⟨ka,kc,rfl,_,_⟩:=qb.shape _ hK;have hB3:Below w.heap.size w w3:=hBw.trans (hb3.mono hBw.size);have hx3:=(hb3.block _ (qf hxr)).trans hxr;have d3:w3.cell? ⟨w.heap.size,0,none⟩=some (.slice (some ⟨b,o,none⟩) ns.length cap):=by rw[cH9 hx3];rfl
        clear hA hK HT;go_wp2_with fail;refine (Calls.mono HMM.out ?_);rintro e w4 ⟨v4,rfl,hN4,hb4⟩;have hB4:Below w.heap.size w w4:=hB3.trans (hb4.mono hB3.size);have hx4:=(hb4.block _ (qf hx3)).trans hx3;have d4:w4.cell? ⟨w.heap.size,0,none⟩=some (.slice (some ⟨b,o,none⟩) ns.length cap):=by rw[cH9 hx4];rfl
        have hb5:=Below.alloc1 w4 (.cells #[v4] 47);have HSD:Hid _:=jA _ S _ _ _ ns _ (hN4.later hb5) (HD.out.later (hB4.alloc hB4.size (.cells #[v4] 47))).nodes;have hx5:=(hb5.block _ (qf hx4)).trans hx4;have d5:(w4.alloc (.cells #[v4] 47)).cell? ⟨w.heap.size,0,none⟩=some (.slice (some ⟨b,o,none⟩) ns.length cap):=by rw[cH9 hx5];rfl
        have hB5:Below w.heap.size w (w4.alloc (.cells #[v4] 47)):=hB4.alloc hB4.size _;obtain ⟨a4,cap4,rfl,_,_⟩:=hN4.shape;obtain ⟨g,hg⟩:∃ g,qw t=g:=⟨_,rfl⟩;obtain ⟨q,hq⟩:∃ q,(yl ns.length t).length=q:=⟨_,rfl⟩;rw[hq]at HSD hB5 d5 ⊢
        unfold ym;unfold yl at HSD
        rw[hg]at HTD HSD ⊢
        clear hN4 HMM hg hxr hx3 hx4 hx5 hb5 hq;cases g with
        | false =>
          have HE:Hid (qi ns=false):=by show _=_;rw[HTD.out];rfl
          clear HTD HSD;go_wp2_with fail;go_ret;exact ⟨by rw[HE.out];rfl,hB5⟩
        | true =>
          have HE:Hid (qi ns=ndsB (layF ns.length t (-1) 0) ns):=by show _=_;rw[HTD.out];rfl
          clear HTD;simp only[if_true]at HSD
          go_wp2_with fail;refine (Calls.mono HSD.out ?_);rintro e w6 ⟨rfl,hb6⟩;go_wp2_with fail;go_ret;exact ⟨by rw[HE.out];rfl,hB5.trans (hb6.mono hB5.size)⟩
   · have hpb : (x0.parent == -1) = false := by simpa using hp0
     have HE:Hid (qi ns=false):=zB (fun h=>by obtain ⟨_,_,⟨x,hx,hp⟩,_⟩:=h;rw[hx0]at hx;cases hx;exact hp0 hp)
     clear hp0 hx0 HN1;go_wp2_with fail;go_ret;exact ⟨by rw[HE.out];rfl,hb1⟩
 · have h80i : (80 : Int) < (ns.length : Int) := by omega
   have HE:Hid (qi ns=false):=zB (fun h=>h80 h.2.1)
   clear h80 hx0 HN1;go_wp2_with fail;go_ret;exact ⟨by rw[HE.out];rfl,hb1⟩
set_option maxHeartbeats 2000000 in
theorem YX (hI:IsDocOk)(S:Nat→Prop)(v:Value)(ns:List Nd)(n:Int)(w:World)(h:zl S w v ns) :
 Calls Tryd.prog 39 #[.agg #[v],.int .i64 n] w fun e w'=>∃ va vk,e=.returned (.tuple #[.agg #[.bool (q8 ns n).1.text,.string (q8 ns n).1.s,va,vk],.int .i64 (q8 ns n).2]) ∧
  qe (fun b=>w.heap.size≤b) w' va (q8 ns n).1.attrs∧qb (fun b=>w.heap.size≤b) w' ns.length vk (q8 ns n).1.kids∧Below w.heap.size w w':=by
 have hb1:Below w.heap.size w ((w.alloc (.cells #[v] 47)).alloc (.cells #[.bool false,.string ⟨#[]⟩,.slice none 0 0,.slice none 0 0] 25)):=(Below.alloc1 w _).alloc (by simp) _
 have hx1:((w.alloc (.cells #[v] 47)).alloc (.cells #[.bool false,.string ⟨#[]⟩,.slice none 0 0,.slice none 0 0] 25)).heap[w.heap.size]?=some (.cells #[v] 47 (0,0)):=by
  rw[Lib.alloc_old _ _ _ (by simp)];exact heap_alloc_new _ _
 have hy1:((w.alloc (.cells #[v] 47)).alloc (.cells #[.bool false,.string ⟨#[]⟩,.slice none 0 0,.slice none 0 0] 25)).heap[w.heap.size+1]?=some (.cells #[.bool false,.string ⟨#[]⟩,.slice none 0 0,.slice none 0 0] 25 (0,0)):=by
  have e:=heap_alloc_new (w.alloc (.cells #[v] 47)) (.cells #[.bool false,.string ⟨#[]⟩,.slice none 0 0,.slice none 0 0] 25);rw[World.size_alloc]at e
  exact e
 have H:Hid (zl S w v ns):=h;have HG:Hid _:=hI S v ns _ (h.later hb1);have HE:Hid (q8 ns n=if qi ns then (if qP ns n then (growF ns.length ns n.toNat,0) else (noTr,3)) else (noTr,1)):=rfl
 obtain ⟨a,cap,rfl,hlc,hcm⟩:=h.nodes.shape;unfold maxLen at hcm
 clear h
 go_enter Tryd.func39,Tryd.ntmps39
 go_wp2_with fail;refine (Calls.mono HG.out ?_);rintro e w2 ⟨rfl,hb2⟩;have hx2:=(hb2.block _ (qf hx1)).trans hx1;have hy2:=(hb2.block _ (qf hy1)).trans hy1;have hB2:Below w.heap.size w w2:=hb1.trans (hb2.mono hb1.size);have d0:w2.cell? ⟨w.heap.size,0,none⟩=some (.slice a ns.length cap):=by rw[cH9 hx2];rfl
 have p0:w2.cell? ⟨w.heap.size+1,0,none⟩=some (.bool false):=by rw[cH9 hy2];rfl
 have p1:w2.cell? ⟨w.heap.size+1,1,none⟩=some (.string ⟨#[]⟩):=by rw[cH9 hy2];rfl
 have p2:w2.cell? ⟨w.heap.size+1,2,none⟩=some (.slice none 0 0):=by rw[cH9 hy2];rfl
 have p3:w2.cell? ⟨w.heap.size+1,3,none⟩=some (.slice none 0 0):=by rw[cH9 hy2];rfl
 have f0:w2.frozen? ⟨w.heap.size+1,0,none⟩=false:=fH9 hy2 0;have f1:w2.frozen? ⟨w.heap.size+1,1,none⟩=false:=fH9 hy2 1;have f2:w2.frozen? ⟨w.heap.size+1,2,none⟩=false:=fH9 hy2 2;have f3:w2.frozen? ⟨w.heap.size+1,3,none⟩=false:=fH9 hy2 3;clear HG hb1 hx1 hb2 hy1;obtain ⟨q,hq⟩:∃ q,qi ns=q:=⟨_,rfl⟩;rw[hq];have hle1:w.heap.size≤w.heap.size+1:=Nat.le_succ _;cases q with
 | false =>
   have HE2:Hid (q8 ns n=(noTr,1)):=by show _=_;rw[HE.out,hq];rfl
   clear HE hq;go_wp2_with fail;refine bodyPost_ret (v:=.tuple #[.agg #[.bool false,.string ⟨#[]⟩,.slice none 0 0,.slice none 0 0],.int .i64 1]) (by simp[results,Tryd.results39,go_sem,qg,p0,p1,p2,p3,World.cell?_setCell_other]) rfl ⟨.slice none 0 0,.slice none 0 0,by rw[HE2.out];rfl,by rw[HE2.out];exact qe.nil,by rw[HE2.out];exact qb.nil _ ⟨none,0,rfl,nZ9 _⟩,?_⟩
   exact (((hB2.setCell (p:=⟨w.heap.size+1,0,none⟩) hle1 _).setCell (p:=⟨w.heap.size+1,1,none⟩) hle1 _).setCell (p:=⟨w.heap.size+1,2,none⟩) hle1 _).setCell (p:=⟨w.heap.size+1,3,none⟩) hle1 _
 | true =>
   have HE2:Hid (q8 ns n=if qP ns n then (growF ns.length ns n.toNat,0) else (noTr,3)):=by show _=_;rw[HE.out,hq];rfl
   have HGQ:Hid (qi ns=true):=hq;clear HE hq;have HAB:Hid (qP ns n=(decide (0≤n)&&decide (n<ns.length))):=rfl;obtain ⟨q2,hq2⟩:∃ q,qP ns n=q:=⟨_,rfl⟩;rw[hq2]at HE2 HAB
   clear hq2;cases q2 with
   | false =>
     have HE3:Hid (q8 ns n=(noTr,3)):=by show _=_;rw[HE2.out];rfl
     clear HE2;have hr:=HAB.out.symm;simp only[Bool.and_eq_false_iff,decide_eq_false_iff_not]at hr
     by_cases hn0:n<0
     · clear hr HAB;go_wp2_with fail;refine bodyPost_ret (v:=.tuple #[.agg #[.bool false,.string ⟨#[]⟩,.slice none 0 0,.slice none 0 0],.int .i64 3]) (by simp[results,Tryd.results39,go_sem,qg,p0,p1,p2,p3,World.cell?_setCell_other]) rfl ⟨.slice none 0 0,.slice none 0 0,by rw[HE3.out];rfl,by rw[HE3.out];exact qe.nil,by rw[HE3.out];exact qb.nil _ ⟨none,0,rfl,nZ9 _⟩,?_⟩
       exact (((hB2.setCell (p:=⟨w.heap.size+1,0,none⟩) hle1 _).setCell (p:=⟨w.heap.size+1,1,none⟩) hle1 _).setCell (p:=⟨w.heap.size+1,2,none⟩) hle1 _).setCell (p:=⟨w.heap.size+1,3,none⟩) hle1 _
     · have hnl : (ns.length : Int) ≤ n := by omega
       clear hr HAB;go_wp2_with fail;refine bodyPost_ret (v:=.tuple #[.agg #[.bool false,.string ⟨#[]⟩,.slice none 0 0,.slice none 0 0],.int .i64 3]) (by simp[results,Tryd.results39,go_sem,qg,p0,p1,p2,p3,World.cell?_setCell_other]) rfl ⟨.slice none 0 0,.slice none 0 0,by rw[HE3.out];rfl,by rw[HE3.out];exact qe.nil,by rw[HE3.out];exact qb.nil _ ⟨none,0,rfl,nZ9 _⟩,?_⟩
       exact (((hB2.setCell (p:=⟨w.heap.size+1,0,none⟩) hle1 _).setCell (p:=⟨w.heap.size+1,1,none⟩) hle1 _).setCell (p:=⟨w.heap.size+1,2,none⟩) hle1 _).setCell (p:=⟨w.heap.size+1,3,none⟩) hle1 _
   | true =>
     have hr:=HAB.out.symm;simp only[Bool.and_eq_true,decide_eq_true_eq]at hr
     obtain ⟨m,rfl⟩:∃ m:Nat,n=(m:Int):=⟨n.toNat,by omega⟩
     have HE3:Hid (q8 ns (m:Int)=(growF ns.length ns m,0)):=by show _=_;rw[HE2.out];rfl
     have h80:ns.length≤80:=(jZ.1 HGQ.out).2.1;have HGR:Hid _:=x7 ns.length S _ ns m w2 (H.out.later hB2).nodes H.out.few h80 (by omega) (by omega)
     rw[QK HGQ.out]at HGR
     have hn0:¬ ((m:Int)<0):=by omega
     have hnl:¬ ((ns.length:Int)≤(m:Int)):=by omega
     clear HE2 HAB hr h80;go_wp2_with fail;refine (Calls.mono HGR.out ?_);rintro e w4 ⟨va4,vk4,rfl,hA4,hK4,hb4⟩;have hB4:Below w.heap.size w w4:=hB2.trans (hb4.mono hB2.size);obtain ⟨aa,ac,rfl⟩:=hA4.shape;obtain ⟨ka,kc,rfl,_,_⟩:=qb.shape ns.length hK4;have hy4:=(hb4.block _ (qf hy2)).trans hy2;have hs2:=qf hy2;clear p0 p1 p2 p3 f0 f1 f2 f3 HGR;have p0:w4.cell? ⟨w.heap.size+1,0,none⟩=some (.bool false):=by rw[cH9 hy4];rfl
     have p1:w4.cell? ⟨w.heap.size+1,1,none⟩=some (.string ⟨#[]⟩):=by rw[cH9 hy4];rfl
     have p2:w4.cell? ⟨w.heap.size+1,2,none⟩=some (.slice none 0 0):=by rw[cH9 hy4];rfl
     have p3:w4.cell? ⟨w.heap.size+1,3,none⟩=some (.slice none 0 0):=by rw[cH9 hy4];rfl
     have f0:w4.frozen? ⟨w.heap.size+1,0,none⟩=false:=fH9 hy4 0;have f1:w4.frozen? ⟨w.heap.size+1,1,none⟩=false:=fH9 hy4 1;have f2:w4.frozen? ⟨w.heap.size+1,2,none⟩=false:=fH9 hy4 2;have f3:w4.frozen? ⟨w.heap.size+1,3,none⟩=false:=fH9 hy4 3;obtain ⟨t,ht⟩:∃ t,growF ns.length ns m=t:=⟨_,rfl⟩;rw[ht]at hA4 hK4 HE3 ⊢
     clear ht;go_wp2_with fail;refine bodyPost_ret (v:=.tuple #[.agg #[.bool t.text,.string t.s,.slice aa t.attrs.length ac,.slice ka t.kids.length kc],.int .i64 0]) (by simp[results,Tryd.results39,go_sem,qg,p0,p1,p2,p3,World.cell?_setCell_other]) rfl ⟨.slice aa t.attrs.length ac,.slice ka t.kids.length kc,by rw[HE3.out],?_,?_,?_⟩
     · rw[HE3.out];refine hA4.carry fun b hb=>⟨by omega,?_⟩
       rw[qd (by omega),qd (by omega),qd (by omega),qd (by omega)]
     · rw[HE3.out];refine qb.carry (fun b hb=>⟨by omega,?_⟩) ns.length hK4
       rw[qd (by omega),qd (by omega),qd (by omega),qd (by omega)]
     · exact (((hB4.setCell (p:=⟨w.heap.size+1,0,none⟩) hle1 _).setCell (p:=⟨w.heap.size+1,1,none⟩) hle1 _).setCell (p:=⟨w.heap.size+1,2,none⟩) hle1 _).setCell (p:=⟨w.heap.size+1,3,none⟩) hle1 _
end
section
attribute [local go_sem] qg
def docsT:Tr:=⟨false,⟨#[97]⟩,[],[⟨false,⟨#[98]⟩,[],[⟨true,⟨#[120]⟩,[],[]⟩]⟩,⟨false,⟨#[99]⟩,[],[]⟩]⟩
def docsN:List Nd:=[⟨false,⟨#[97]⟩,[],-1,[1,3]⟩,⟨false,⟨#[98]⟩,[],0,[2]⟩,⟨true,⟨#[120]⟩,[],1,[]⟩,⟨false,⟨#[99]⟩,[],0,[]⟩]
theorem docs_good:qw docsT=true:=by kernel_rfl
theorem docs_made:yl 2 docsT=docsN:=by kernel_rfl
theorem docs_end:qy docsN 1=3:=by kernel_rfl
theorem docs_str:jb docsN 0=[120]:=by kernel_rfl
theorem docs_in:inD docsN 2 1=true:=by kernel_rfl
theorem docs_texts:TextsN 3 [docsT]:=by
 intro t ht;simp only[List.mem_singleton]at ht
 subst ht;refine ⟨⟨by show 1≤maxLen;unfold maxLen;omega,by intro x hx;simp[docsT]at hx⟩,fun u hu=>?_⟩
 simp only[docsT,List.mem_cons,List.not_mem_nil,or_false]at hu
 rcases hu with rfl|rfl
 · refine ⟨⟨by show 1 ≤ maxLen;unfold maxLen;omega, by intro x hx;simp at hx⟩, fun z hz => ?_⟩
   simp only[List.mem_singleton]at hz
   subst hz;exact ⟨⟨by show 1≤maxLen;unfold maxLen;omega,by intro x hx;simp at hx⟩,trivial⟩
 · exact ⟨⟨by show 1≤maxLen;unfold maxLen;omega,by intro x hx;simp at hx⟩,fun z hz=>by simp at hz⟩
theorem Ki {S:Nat→Prop}{w:World}{v:Value}(h:qr S w v docsN)(hS:∀ b,S b→b<w.heap.size):zl S w v docsN:=by
 refine ⟨h,hS,fun x hx=>?_,fun x hx=>?_⟩
 · simp only[docsN, List.mem_cons, List.not_mem_nil, or_false]at hx
   rcases hx with rfl|rfl|rfl|rfl<;>exact nZ9 _
 · simp only[docsN, List.mem_cons, List.not_mem_nil, or_false]at hx
   rcases hx with rfl|rfl|rfl|rfl<;>exact ⟨by show 1≤maxLen;unfold maxLen;omega,by intro y hy;simp at hy⟩
end
section
attribute [local go_sem] qg
set_option maxHeartbeats 1000000 in
theorem Qw (w:World):Calls Tryd.prog 36 #[] w fun e w'=>e=.returned (.bool true)∧Below w.heap.size w w':=by
 go_enter Tryd.func36,Tryd.ntmps36
 go_wp2_with fail;have hb1:Below w.heap.size w ((w.alloc (.cells #[.bool true,.string ⟨#[120]⟩,.slice none 0 0,.slice none 0 0] 25)).alloc (.cells #[.bool false,.string ⟨#[98]⟩,.slice none 0 0,.slice (some ⟨w.heap.size,0,none⟩) 1 1,.bool false,.string ⟨#[99]⟩,.slice none 0 0,.slice none 0 0] 25)):=(Below.alloc1 w _).alloc (by simp) _
 have hx1:((w.alloc (.cells #[.bool true,.string ⟨#[120]⟩,.slice none 0 0,.slice none 0 0] 25)).alloc (.cells #[.bool false,.string ⟨#[98]⟩,.slice none 0 0,.slice (some ⟨w.heap.size,0,none⟩) 1 1,.bool false,.string ⟨#[99]⟩,.slice none 0 0,.slice none 0 0] 25)).heap[w.heap.size]?=some (.cells #[.bool true,.string ⟨#[120]⟩,.slice none 0 0,.slice none 0 0] 25 (0,0)):=by
  rw[Lib.alloc_old _ _ _ (by simp)];exact heap_alloc_new _ _
 have hy1:((w.alloc (.cells #[.bool true,.string ⟨#[120]⟩,.slice none 0 0,.slice none 0 0] 25)).alloc (.cells #[.bool false,.string ⟨#[98]⟩,.slice none 0 0,.slice (some ⟨w.heap.size,0,none⟩) 1 1,.bool false,.string ⟨#[99]⟩,.slice none 0 0,.slice none 0 0] 25)).heap[w.heap.size+1]?=some (.cells #[.bool false,.string ⟨#[98]⟩,.slice none 0 0,.slice (some ⟨w.heap.size,0,none⟩) 1 1,.bool false,.string ⟨#[99]⟩,.slice none 0 0,.slice none 0 0] 25 (0,0)):=by
  have e:=heap_alloc_new (w.alloc (.cells #[.bool true,.string ⟨#[120]⟩,.slice none 0 0,.slice none 0 0] 25)) (.cells #[.bool false,.string ⟨#[98]⟩,.slice none 0 0,.slice (some ⟨w.heap.size,0,none⟩) 1 1,.bool false,.string ⟨#[99]⟩,.slice none 0 0,.slice none 0 0] 25);rw[World.size_alloc]at e
  exact e
 have hz1:((w.alloc (.cells #[.bool true,.string ⟨#[120]⟩,.slice none 0 0,.slice none 0 0] 25)).alloc (.cells #[.bool false,.string ⟨#[98]⟩,.slice none 0 0,.slice (some ⟨w.heap.size,0,none⟩) 1 1,.bool false,.string ⟨#[99]⟩,.slice none 0 0,.slice none 0 0] 25)).heap.size=w.heap.size+2:=by simp
 generalize ((w.alloc (.cells #[.bool true,.string ⟨#[120]⟩,.slice none 0 0,.slice none 0 0] 25)).alloc (.cells #[.bool false,.string ⟨#[98]⟩,.slice none 0 0,.slice (some ⟨w.heap.size,0,none⟩) 1 1,.bool false,.string ⟨#[99]⟩,.slice none 0 0,.slice none 0 0] 25))=W1 at hb1 hx1 hy1 hz1 ⊢
 have hT1:qb (fun b=>False∨b=w.heap.size) W1 1 (.slice (some ⟨w.heap.size,0,none⟩) 1 1) [⟨true,⟨#[120]⟩,[],[]⟩] :=
  qb.of_block (qs:=[(true,⟨#[120]⟩,.slice none 0 0,.slice none 0 0)]) hx1 rfl rfl rfl (nR9 _) (by unfold maxLen;omega) (by
   intro i q t hq ht
   match i,hq,ht with
   | 0, hq, ht =>
     simp at hq ht
     subst hq ht;exact ⟨rfl,rfl,qe.nil,rfl,none,0,rfl,nZ9 _⟩
   | i+1,hq,_=>simp at hq)
 have hT2:qb (fun b=>(False∨b=w.heap.size)∨b=w.heap.size+1) W1 2 (.slice (some ⟨w.heap.size+1,0,none⟩) 2 2) docsT.kids :=
  qb.of_block (qs:=[(false,⟨#[98]⟩,.slice none 0 0,.slice (some ⟨w.heap.size,0,none⟩) 1 1),(false,⟨#[99]⟩,.slice none 0 0,.slice none 0 0)]) hy1 rfl rfl rfl (nR9 _) (by unfold maxLen;omega) (by
   intro i q t hq ht
   match i,hq,ht with
   | 0, hq, ht =>
     simp[docsT]at hq ht
     subst hq ht;exact ⟨rfl,rfl,qe.nil,hT1⟩
   | 1, hq, ht =>
     simp[docsT]at hq ht
     subst hq ht;exact ⟨rfl,rfl,qe.nil,qb.nil _ ⟨none,0,rfl,nZ9 _⟩⟩
   | i+2,hq,_=>simp at hq)
 have hmk:=ZO _ 2 (.slice none 0 0) _ docsT W1 qe.nil hT2 docs_texts (by intro b hb;rw[hz1];rcases hb with (hb|hb)|hb;exact hb.elim;omega;omega)
 rw[docs_made,show ym docsT=0 by unfold ym;rw[docs_good];rfl]at hmk
 have HMK:Hid _:=hmk;clear hmk hT1 hT2 hx1 hy1;refine (Calls.mono HMK.out ?_);rintro e w2 ⟨v,rfl,hN2,hb2⟩;have hB2:Below w.heap.size w w2:=hb1.trans (hb2.mono hb1.size);obtain ⟨na,nc,rfl,_,_⟩:=hN2.shape;have hb3:=Below.alloc1 w2 (.cells #[.slice na docsN.length nc] 47);have hx3:=heap_alloc_new w2 (.cells #[.slice na docsN.length nc] 47);have hN3:=(hN2.later hb3).bounded;have hV3:=Ki hN3 (fun b hb=>hb.2)
 have hB3:Below w.heap.size w _:=hB2.trans (hb3.mono hB2.size);have hE:=yQ _ _ docsN 1 _ hV3;rw[docs_end]at hE
 have HE:Hid _:=hE;clear HMK hE hN2;go_wp2_with fail
 generalize w2.alloc (.cells #[.slice na docsN.length nc] 47)=W3 at *
 refine (Calls.mono HE.out ?_);rintro e w4 ⟨rfl,hb4⟩;have hx4:=(hb4.block _ (qf hx3)).trans hx3;have d4:w4.cell? ⟨w2.heap.size,0,none⟩=some (.slice na docsN.length nc):=by rw[cH9 hx4];rfl
 have hV4:=hV3.later hb4;have hB4:Below w.heap.size w w4:=hB3.trans (hb4.mono hB3.size);have hS:=Z5 _ _ docsN 0 w4 hV4 (by decide)
 rw[docs_str]at hS
 have HSS:Hid _:=hS;clear hS HE;go_wp2_with fail;refine (Calls.mono HSS.out ?_);rintro e w5 ⟨rfl,hb5⟩;have hx5:=(hb5.block _ (qf hx4)).trans hx4;have d5:w5.cell? ⟨w2.heap.size,0,none⟩=some (.slice na docsN.length nc):=by rw[cH9 hx5];rfl
 have hV5:=hV4.later hb5;have hB5:Below w.heap.size w w5:=hB4.trans (hb5.mono hB4.size);have hI:=Y9 _ _ docsN 2 1 w5 hV5;rw[docs_in]at hI
 have HI:Hid _:=hI;clear hI HSS;go_wp2_with fail;refine (Calls.mono HI.out ?_);rintro e w6 ⟨rfl,hb6⟩;have hB6:Below w.heap.size w w6:=hB5.trans (hb6.mono hB5.size);go_wp2_with fail;go_ret;exact ⟨rfl,hB6⟩
end
end Go.Proofs.YtfdbipeidmpciaaDoor
