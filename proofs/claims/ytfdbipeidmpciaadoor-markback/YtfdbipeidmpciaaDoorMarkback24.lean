/- topiarykeep.MarkBack and MarkOnce answer true. Condition: the variable marks holds the four marks. -/
import Derived.Test.YtfdbipeidmpciaaDoorMarkback22
import Derived.Test.YtfdbipeidmpciaaDoorMarkback23
namespace Go.Proofs.YtfdbipeidmpciaaDoor
open Go.ChangeShapes Go.WideShapes Go.ChangeAt Go.RowKit
set_option maxRecDepth 100000
section
attribute [local go_sem] qg
theorem j4 (n:Nat):QT n:=Jc n (QH n)
theorem yB (n:Nat)(t:Tr):(qw t=false∧zp n t=(⟨#[]⟩,1))∨(qw t=true∧zp n t=(⟨#[]⟩,2))∨(qw t=true∧(qB (showL n t.kids) t).length≤2500∧zp n t=(bytesOf (qB (showL n t.kids) t),0)):=by
 unfold zp;cases hg:qw t with
 | false=>left;simp
 | true =>
   right
   by_cases hl:2500<(qB (showL n t.kids) t).length
   · left;simp[hl]
   · right;exact ⟨rfl,by omega,by simp[hl,bytesOf]⟩
set_option maxHeartbeats 2000000 in
theorem Q9 (S:Nat→Prop)(n:Nat)(va vk:Value)(t:Tr)(w:World)(hA:qe S w va t.attrs)(hK:qb S w n vk t.kids)(hM:qx w)(hx:TextsN (n+1) [t]) :
 Calls Tryd.prog 4 #[.agg #[.bool t.text,.string t.s,va,vk]] w fun e w'=>e=.returned (.bool true)∧Below w.heap.size w w':=by
 obtain ⟨aa,ac,rfl⟩:=hA.shape;obtain ⟨ka,kc,rfl,_,_⟩:=qb.shape n hK;have hb1:=Below.alloc1 w (.cells #[.bool t.text,.string t.s,.slice aa t.attrs.length ac,.slice ka t.kids.length kc] 25);have hX1:=jU.start w (.bool t.text) (.string t.s) (.slice aa t.attrs.length ac) (.slice ka t.kids.length kc) 25
 have HP:Hid (∀ W,Below w.heap.size w W→Calls Tryd.prog 27 #[.agg #[.bool t.text,.string t.s,.slice aa t.attrs.length ac,.slice ka t.kids.length kc]] W fun e w'=>e=.returned (.tuple #[.string (zp n t).1,.int .i64 (zp n t).2])∧Below W.heap.size W w') :=
  fun W hW=>z7 S n _ _ t W (hA.later hW) (qb.later hW n hK) (hM.later hW hM.lt) hx
 have HG:Hid (∀ W,Below w.heap.size w W→Calls Tryd.prog 19 #[.agg #[.bool t.text,.string t.s,.slice aa t.attrs.length ac,.slice ka t.kids.length kc]] W fun e w'=>e=.returned (.bool (qw t))∧Below W.heap.size W w') :=
  fun W hW=>yj S n _ _ t W (hA.later hW) (qb.later hW n hK) hx
 have HM:Hid (∀ W,Below w.heap.size w W→qx W):=fun W hW=>hM.later hW hM.lt
 have HAK:Hid (∀ W,Below w.heap.size w W→qe S W (.slice aa t.attrs.length ac) t.attrs∧qb S W n (.slice ka t.kids.length kc) t.kids):=fun W hW=>⟨hA.later hW,qb.later hW n hK⟩
 have HD:Hid (Deep n t.kids):=qb.deep n hK;clear hA hK hM hx
 go_enter Tryd.func4,Tryd.ntmps4
 go_wp2_with fail
 generalize w.alloc (.cells #[.bool t.text,.string t.s,.slice aa t.attrs.length ac,.slice ka t.kids.length kc] 25)=W1 at hb1 hX1 ⊢
 refine (Calls.mono (HP.out _ hb1) ?_);rintro e w2 ⟨rfl,hb2⟩;have hX2:=hX1.later hb2 hX1.lt;have hB2:Below w.heap.size w w2:=hb1.trans (hb2.mono hb1.size);have hM2:=HM.out w2 hB2;have HMK:Hid _:=zu w2 hM2;clear hX1 hb1 hb2 HP hM2;have f0:=hX2.at0;have f1:=hX2.at1;have f2:=hX2.at2;have f3:=hX2.at3
 rcases yB n t with ⟨hg,hp⟩|⟨hg,hp⟩|⟨hg,hl,hp⟩
 · rw[hp];have HG2:Hid _:=HG.out w2 hB2;rw[hg]at HG2
   clear hp hg HG;go_wp2_with fail;refine (Calls.mono HG2.out ?_);rintro e w3 ⟨rfl,hb3⟩;have hB3:Below w.heap.size w w3:=hB2.trans (hb3.mono hB2.size);have HMK3:Hid _:=zu w3 (HM.out w3 hB3);go_wp2_with fail;refine (Calls.mono HMK3.out ?_);rintro e w4 ⟨rfl,hb4⟩;have hB4:Below w.heap.size w w4:=hB3.trans (hb4.mono hB3.size);go_wp2_with fail;go_ret;exact ⟨rfl,hB4⟩
 · rw[hp];have HG2:Hid _:=HG.out w2 hB2;rw[hg]at HG2
   clear hp hg HG;go_wp2_with fail;refine (Calls.mono HG2.out ?_);rintro e w3 ⟨rfl,hb3⟩;have hB3:Below w.heap.size w w3:=hB2.trans (hb3.mono hB2.size);have HMK3:Hid _:=zu w3 (HM.out w3 hB3);go_wp2_with fail;refine (Calls.mono HMK3.out ?_);rintro e w4 ⟨rfl,hb4⟩;have hB4:Below w.heap.size w w4:=hB3.trans (hb4.mono hB3.size);go_wp2_with fail;go_ret;exact ⟨rfl,hB4⟩
 · have HPB : Hid _ := jz HD.out hg hl;rw[hp];obtain ⟨s,hs⟩:∃ s,qB (showL n t.kids) t=s:=⟨_,rfl⟩;rw[hs]at HPB hl ⊢
   clear hp hg HG hs;go_wp2_with fail;refine (Calls.mono HMK.out ?_);rintro e w3 ⟨rfl,hb3⟩;have hB3:Below w.heap.size w w3:=hB2.trans (hb3.mono hB2.size);have hX3:=hX2.later hb3 hX2.lt;have hPR:=jf s w3 (HM.out w3 hB3) (by omega)
   rw[HPB.out]at hPR
   have HPR:Hid _:=hPR;clear hPR HMK hX2 f0 f1 f2 f3;go_wp2_with fail;refine (Calls.mono HPR.out ?_);rintro e w4 ⟨va4,vk4,rfl,hA4,hK4,hb4⟩;obtain ⟨aa4,ac4,rfl⟩:=hA4.shape;obtain ⟨ka4,kc4,rfl,_,_⟩:=qb.shape s.length hK4;have hX4:=hX3.later hb4 hX3.lt;have hB4:Below w.heap.size w w4:=hB3.trans (hb4.mono hB3.size);have hb5:=Below.alloc1 w4 (.cells #[.bool t.text,.string t.s,.slice aa4 t.attrs.length ac4,.slice ka4 t.kids.length kc4] 25);have hX5:=hX4.later hb5 hX4.lt;have hB5:Below w.heap.size w _:=hB4.trans (hb5.mono hB4.size);obtain ⟨hA5,hK5⟩:=HAK.out _ hB5;have HSM:Hid _:=j4 (n+s.length) _ _ t.text t.s _ _ _ _ t.attrs t.kids _ hA5 (hA4.later hb5) (hK5.more (Nat.le_add_right n s.length)) ((qb.later hb5 s.length hK4).more (Nat.le_add_left s.length n));have f0:=hX5.at0;have f1:=hX5.at1;have f2:=hX5.at2;have f3:=hX5.at3;clear HPR hX3 hX4 hX5 hA4 hK4 hA5 hK5;go_wp2_with fail;refine (Calls.mono HSM.out ?_);rintro e w6 ⟨rfl,hb6⟩;have hB6:Below w.heap.size w w6:=hB5.trans (hb6.mono hB5.size);go_wp2_with fail;go_ret;exact ⟨rfl,hB6⟩
end
end Go.Proofs.YtfdbipeidmpciaaDoor
