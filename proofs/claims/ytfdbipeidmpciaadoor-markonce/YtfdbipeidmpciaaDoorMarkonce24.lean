/- Bundled: MarkBk MarkOn. What each says stands ahead of it. -/
import Derived.Test.YtfdbipeidmpciaaDoorMarkonce22
import Derived.Test.YtfdbipeidmpciaaDoorMarkonce23
namespace Go.Proofs.YtfdbipeidmpciaaDoor
open Go.ChangeShapes Go.WideShapes Go.ChangeAt Go.RowKit
set_option maxRecDepth 100000
section
attribute [local go_sem] qg
theorem j4 (n:Nat):QT n:=Jc n (QH n)
theorem yB (n:Nat)(t:Tr):(qw t=false∧zp n t=(⟨#[]⟩,1))∨(qw t=true∧zp n t=(⟨#[]⟩,2))∨(qw t=true∧(qB (showL n t.kids) t).length≤2500∧zp n t=(bytesOf (qB (showL n t.kids) t),0)):=by
 unfold zp;cases hg:qw t with
 | false=>left;simp
 | true =>
   right
   by_cases hl:2500<(qB (showL n t.kids) t).length
   · left;simp[hl]
   · right;exact ⟨rfl,by omega,by simp[hl,bytesOf]⟩
set_option maxHeartbeats 2000000 in
theorem Q9 (S:Nat→Prop)(n:Nat)(va vk:Value)(t:Tr)(w:World)(hA:qe S w va t.attrs)(hK:qb S w n vk t.kids)(hM:qx w)(hx:TextsN (n+1) [t]) :
 Calls Tryd.prog 4 #[.agg #[.bool t.text,.string t.s,va,vk]] w fun e w'=>e=.returned (.bool true)∧Below w.heap.size w w':=by
 obtain ⟨aa,ac,rfl⟩:=hA.shape;obtain ⟨ka,kc,rfl,_,_⟩:=qb.shape n hK;have hb1:=Below.alloc1 w (.cells #[.bool t.text,.string t.s,.slice aa t.attrs.length ac,.slice ka t.kids.length kc] 25);have hX1:=jU.start w (.bool t.text) (.string t.s) (.slice aa t.attrs.length ac) (.slice ka t.kids.length kc) 25
 have HP:Hid (∀ W,Below w.heap.size w W→Calls Tryd.prog 27 #[.agg #[.bool t.text,.string t.s,.slice aa t.attrs.length ac,.slice ka t.kids.length kc]] W fun e w'=>e=.returned (.tuple #[.string (zp n t).1,.int .i64 (zp n t).2])∧Below W.heap.size W w') :=
  fun W hW=>z7 S n _ _ t W (hA.later hW) (qb.later hW n hK) (hM.later hW hM.lt) hx
 have HG:Hid (∀ W,Below w.heap.size w W→Calls Tryd.prog 19 #[.agg #[.bool t.text,.string t.s,.slice aa t.attrs.length ac,.slice ka t.kids.length kc]] W fun e w'=>e=.returned (.bool (qw t))∧Below W.heap.size W w') :=
  fun W hW=>yj S n _ _ t W (hA.later hW) (qb.later hW n hK) hx
 have HM:Hid (∀ W,Below w.heap.size w W→qx W):=fun W hW=>hM.later hW hM.lt
 have HAK:Hid (∀ W,Below w.heap.size w W→qe S W (.slice aa t.attrs.length ac) t.attrs∧qb S W n (.slice ka t.kids.length kc) t.kids):=fun W hW=>⟨hA.later hW,qb.later hW n hK⟩
 have HD:Hid (Deep n t.kids):=qb.deep n hK;clear hA hK hM hx
 go_enter Tryd.func4,Tryd.ntmps4
 go_wp2_with fail
 generalize w.alloc (.cells #[.bool t.text,.string t.s,.slice aa t.attrs.length ac,.slice ka t.kids.length kc] 25)=W1 at hb1 hX1 ⊢
 refine (Calls.mono (HP.out _ hb1) ?_);rintro e w2 ⟨rfl,hb2⟩;have hX2:=hX1.later hb2 hX1.lt;have hB2:Below w.heap.size w w2:=hb1.trans (hb2.mono hb1.size);have hM2:=HM.out w2 hB2;have HMK:Hid _:=zu w2 hM2;clear hX1 hb1 hb2 HP hM2;have f0:=hX2.at0;have f1:=hX2.at1;have f2:=hX2.at2;have f3:=hX2.at3
 rcases yB n t with ⟨hg,hp⟩|⟨hg,hp⟩|⟨hg,hl,hp⟩
 · rw[hp];have HG2:Hid _:=HG.out w2 hB2;rw[hg]at HG2
   clear hp hg HG;go_wp2_with fail;refine (Calls.mono HG2.out ?_);rintro e w3 ⟨rfl,hb3⟩;have hB3:Below w.heap.size w w3:=hB2.trans (hb3.mono hB2.size);have HMK3:Hid _:=zu w3 (HM.out w3 hB3);go_wp2_with fail;refine (Calls.mono HMK3.out ?_);rintro e w4 ⟨rfl,hb4⟩;have hB4:Below w.heap.size w w4:=hB3.trans (hb4.mono hB3.size);go_wp2_with fail;go_ret;exact ⟨rfl,hB4⟩
 · rw[hp];have HG2:Hid _:=HG.out w2 hB2;rw[hg]at HG2
   clear hp hg HG;go_wp2_with fail;refine (Calls.mono HG2.out ?_);rintro e w3 ⟨rfl,hb3⟩;have hB3:Below w.heap.size w w3:=hB2.trans (hb3.mono hB2.size);have HMK3:Hid _:=zu w3 (HM.out w3 hB3);go_wp2_with fail;refine (Calls.mono HMK3.out ?_);rintro e w4 ⟨rfl,hb4⟩;have hB4:Below w.heap.size w w4:=hB3.trans (hb4.mono hB3.size);go_wp2_with fail;go_ret;exact ⟨rfl,hB4⟩
 · have HPB : Hid _ := jz HD.out hg hl;rw[hp];obtain ⟨s,hs⟩:∃ s,qB (showL n t.kids) t=s:=⟨_,rfl⟩;rw[hs]at HPB hl ⊢
   clear hp hg HG hs;go_wp2_with fail;refine (Calls.mono HMK.out ?_);rintro e w3 ⟨rfl,hb3⟩;have hB3:Below w.heap.size w w3:=hB2.trans (hb3.mono hB2.size);have hX3:=hX2.later hb3 hX2.lt;have hPR:=jf s w3 (HM.out w3 hB3) (by omega)
   rw[HPB.out]at hPR
   have HPR:Hid _:=hPR;clear hPR HMK hX2 f0 f1 f2 f3;go_wp2_with fail;refine (Calls.mono HPR.out ?_);rintro e w4 ⟨va4,vk4,rfl,hA4,hK4,hb4⟩;obtain ⟨aa4,ac4,rfl⟩:=hA4.shape;obtain ⟨ka4,kc4,rfl,_,_⟩:=qb.shape s.length hK4;have hX4:=hX3.later hb4 hX3.lt;have hB4:Below w.heap.size w w4:=hB3.trans (hb4.mono hB3.size);have hb5:=Below.alloc1 w4 (.cells #[.bool t.text,.string t.s,.slice aa4 t.attrs.length ac4,.slice ka4 t.kids.length kc4] 25);have hX5:=hX4.later hb5 hX4.lt;have hB5:Below w.heap.size w _:=hB4.trans (hb5.mono hB4.size);obtain ⟨hA5,hK5⟩:=HAK.out _ hB5;have HSM:Hid _:=j4 (n+s.length) _ _ t.text t.s _ _ _ _ t.attrs t.kids _ hA5 (hA4.later hb5) (hK5.more (Nat.le_add_right n s.length)) ((qb.later hb5 s.length hK4).more (Nat.le_add_left s.length n));have f0:=hX5.at0;have f1:=hX5.at1;have f2:=hX5.at2;have f3:=hX5.at3;clear HPR hX3 hX4 hX5 hA4 hK4 hA5 hK5;go_wp2_with fail;refine (Calls.mono HSM.out ?_);rintro e w6 ⟨rfl,hb6⟩;have hB6:Below w.heap.size w w6:=hB5.trans (hb6.mono hB5.size);go_wp2_with fail;go_ret;exact ⟨rfl,hB6⟩
end
section
attribute [local go_sem] qg
theorem Zc (s:List UInt8):(∃ c:Int,(c=1∨c=2)∧qE s=(zeroT,c))∨(∃ t,qw t=true∧qE s=(t,0)):=by
 unfold qE
 split
 · exact Or.inl ⟨2,Or.inr rfl,rfl⟩
 · split
   · exact Or.inl ⟨1,Or.inl rfl,rfl⟩
   · rename_i h
     right
     refine ⟨_,?_,rfl⟩;cases hg:qw ((⟨s,false⟩:Rs).one (treesF s.length)).1 with
     | true=>rfl
     | false=>rw[hg]at h;simp at h
set_option maxHeartbeats 2000000 in
theorem Za (s:List UInt8)(w:World)(hM:qx w)(hs:s.length≤9223372036854775807) :
 Calls Tryd.prog 5 #[.string (bytesOf s)] w fun e w'=>e=.returned (.bool true)∧Below w.heap.size w w':=by
 have HC:Hid _:=jf s w hM hs;have HM:Hid (∀ W,Below w.heap.size w W→qx W):=fun W hW=>hM.later hW hM.lt
 have HTX:Hid _:=xi s;clear hM
 rcases Zc s with ⟨c,hc,hp⟩|⟨t,hg,hp⟩
 · rw[hp]at HC
   have hcn:(c != 0)=true:=by rcases hc with rfl|rfl<;>rfl
   clear hp hc HTX
   go_enter Tryd.func5,Tryd.ntmps5
   go_wp2_with fail;refine (Calls.mono HC.out ?_);rintro e w2 ⟨va,vk,rfl,hA2,hK2,hB2⟩;obtain ⟨aa,ac,rfl⟩:=hA2.shape;obtain ⟨ka,kc,rfl,_,_⟩:=qb.shape s.length hK2;have hb3:=Below.alloc1 w2 (.cells #[.bool zeroT.text,.string zeroT.s,.slice aa zeroT.attrs.length ac,.slice ka zeroT.kids.length kc] 25);have hB3:Below w.heap.size w _:=hB2.trans (hb3.mono hB2.size);have HSM:Hid _:=j4 s.length _ (fun _=>False) zeroT.text zeroT.s _ (.slice none 0 0) _ (.slice none 0 0) zeroT.attrs zeroT.kids _ (hA2.later hb3) qe.nil (qb.later hb3 s.length hK2) (qb.nil _ ⟨none,0,rfl,nZ9 _⟩)
   clear HC;go_wp2_with fail;refine (Calls.mono HSM.out ?_);rintro e w4 ⟨rfl,hb4⟩;have hB4:Below w.heap.size w w4:=hB3.trans (hb4.mono hB3.size);have HMK:Hid _:=zu w4 (HM.out w4 hB4);clear HSM;go_wp2_with fail;refine (Calls.mono HMK.out ?_);rintro e w5 ⟨rfl,hb5⟩;have hB5:Below w.heap.size w w5:=hB4.trans (hb5.mono hB4.size);go_wp2_with fail;go_ret;exact ⟨rfl,hB5⟩
 · rw[hp]at HC HTX
   have HG:Hid (qw t=true):=hg;clear hp hg
   go_enter Tryd.func5,Tryd.ntmps5
   go_wp2_with fail;refine (Calls.mono HC.out ?_);rintro e w2 ⟨va,vk,rfl,hA2,hK2,hB2⟩;obtain ⟨aa,ac,rfl⟩:=hA2.shape;obtain ⟨ka,kc,rfl,_,_⟩:=qb.shape s.length hK2;have hb3:=Below.alloc1 w2 (.cells #[.bool t.text,.string t.s,.slice aa t.attrs.length ac,.slice ka t.kids.length kc] 25);have hX3:=jU.start w2 (.bool t.text) (.string t.s) (.slice aa t.attrs.length ac) (.slice ka t.kids.length kc) 25;have hA3:=hA2.later hb3;have hK3:=qb.later hb3 s.length hK2;have hB3:Below w.heap.size w _:=hB2.trans (hb3.mono hB2.size);have HMK:Hid _:=zu _ (HM.out _ hB3);have HD:Hid (Deep s.length t.kids):=qb.deep s.length hK2;clear HC hA2 hK2;go_wp2_with fail;refine (Calls.mono HMK.out ?_);rintro e w4 ⟨rfl,hb4⟩;have hX4:=hX3.later hb4 hX3.lt;have hA4:=hA3.later hb4;have hK4:=qb.later hb4 s.length hK3;have hB4:Below w.heap.size w w4:=hB3.trans (hb4.mono hB3.size);have HP:Hid _:=z7 _ s.length _ _ t w4 hA4 hK4 (HM.out w4 hB4) HTX.out;have f0:=hX4.at0;have f1:=hX4.at1;have f2:=hX4.at2;have f3:=hX4.at3;clear hX3 hA3 hK3 hb3 hb4 HMK hB3
   rcases yB s.length t with ⟨hg,_⟩|⟨hg,hp⟩|⟨hg,hl,hp⟩
   · rw[HG.out]at hg;cases hg
   · rw[hp]at HP
     clear hp hg;go_wp2_with fail;refine (Calls.mono HP.out ?_);rintro e w5 ⟨rfl,hb5⟩;have hX5:=hX4.later hb5 hX4.lt;have hB5:Below w.heap.size w w5:=hB4.trans (hb5.mono hB4.size);have hGd:=yj _ s.length _ _ t w5 (hA4.later hb5) (qb.later hb5 s.length hK4) HTX.out;rw[HG.out]at hGd
     have HGd:Hid _:=hGd;clear hGd f0 f1 f2 f3 hX4 HP;have f0:=hX5.at0;have f1:=hX5.at1;have f2:=hX5.at2;have f3:=hX5.at3;go_wp2_with fail;refine (Calls.mono HGd.out ?_);rintro e w6 ⟨rfl,hb6⟩;have hB6:Below w.heap.size w w6:=hB5.trans (hb6.mono hB5.size);go_wp2_with fail;go_ret;exact ⟨rfl,hB6⟩
   · have HPB : Hid _ := jz HD.out hg hl;rw[hp]at HP
     obtain ⟨u,hu⟩:∃ u,qB (showL s.length t.kids) t=u:=⟨_,rfl⟩;rw[hu]at HPB hl HP
     clear hp hg hu;go_wp2_with fail;refine (Calls.mono HP.out ?_);rintro e w5 ⟨rfl,hb5⟩;have hX5:=hX4.later hb5 hX4.lt;have hB5:Below w.heap.size w w5:=hB4.trans (hb5.mono hB4.size);have hA5:=hA4.later hb5;have hK5:=qb.later hb5 s.length hK4;have hPR:=jf u w5 (HM.out w5 hB5) (by omega)
     rw[HPB.out]at hPR
     have HPR:Hid _:=hPR;clear hPR f0 f1 f2 f3 hX4 HP hA4 hK4;go_wp2_with fail;refine (Calls.mono HPR.out ?_);rintro e w6 ⟨va6,vk6,rfl,hA6,hK6,hb6⟩;obtain ⟨aa6,ac6,rfl⟩:=hA6.shape;obtain ⟨ka6,kc6,rfl,_,_⟩:=qb.shape u.length hK6;have hX6:=hX5.later hb6 hX5.lt;have hB6:Below w.heap.size w w6:=hB5.trans (hb6.mono hB5.size);have hb7:=Below.alloc1 w6 (.cells #[.bool t.text,.string t.s,.slice aa6 t.attrs.length ac6,.slice ka6 t.kids.length kc6] 25);have hX7:=hX6.later hb7 hX6.lt;have hB7:Below w.heap.size w _:=hB6.trans (hb7.mono hB6.size);have HSM:Hid _:=j4 (s.length+u.length) _ _ t.text t.s _ _ _ _ t.attrs t.kids _ ((hA5.later hb6).later hb7) (hA6.later hb7) ((qb.later hb7 s.length (qb.later hb6 s.length hK5)).more (Nat.le_add_right _ _)) ((qb.later hb7 u.length hK6).more (Nat.le_add_left _ _));have f0:=hX7.at0;have f1:=hX7.at1;have f2:=hX7.at2;have f3:=hX7.at3;clear HPR hX5 hX6 hX7 hA5 hK5 hA6 hK6;go_wp2_with fail;refine (Calls.mono HSM.out ?_);rintro e w8 ⟨rfl,hb8⟩;have hB8:Below w.heap.size w w8:=hB7.trans (hb8.mono hB7.size);go_wp2_with fail;go_ret;exact ⟨rfl,hB8⟩
end
end Go.Proofs.YtfdbipeidmpciaaDoor
