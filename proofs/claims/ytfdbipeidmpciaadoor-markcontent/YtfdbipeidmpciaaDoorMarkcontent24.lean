/- Bundled: MarkBk MarkCt. What each says stands ahead of it. -/
import Derived.Test.YtfdbipeidmpciaaDoorMarkcontent22
import Derived.Test.YtfdbipeidmpciaaDoorMarkcontent23
namespace Go.Proofs.YtfdbipeidmpciaaDoor
open Go.ChangeShapes Go.WideShapes Go.ChangeAt Go.RowKit
set_option maxRecDepth 100000
section
attribute [local go_sem] qg
theorem j4 (n:Nat):QT n:=Jc n (QH n)
theorem yB (n:Nat)(t:Tr):(qw t=false∧zp n t=(⟨#[]⟩,1))∨(qw t=true∧zp n t=(⟨#[]⟩,2))∨(qw t=true∧(qB (showL n t.kids) t).length≤2500∧zp n t=(bytesOf (qB (showL n t.kids) t),0)):=by
 unfold zp;cases hg:qw t with
 | false=>left;simp
 | true =>
   right
   by_cases hl:2500<(qB (showL n t.kids) t).length
   · left;simp[hl]
   · right;exact ⟨rfl,by omega,by simp[hl,bytesOf]⟩
set_option maxHeartbeats 2000000 in
theorem Q9 (S:Nat→Prop)(n:Nat)(va vk:Value)(t:Tr)(w:World)(hA:qe S w va t.attrs)(hK:qb S w n vk t.kids)(hM:qx w)(hx:TextsN (n+1) [t]) :
 Calls Tryd.prog 4 #[.agg #[.bool t.text,.string t.s,va,vk]] w fun e w'=>e=.returned (.bool true)∧Below w.heap.size w w':=by
 obtain ⟨aa,ac,rfl⟩:=hA.shape;obtain ⟨ka,kc,rfl,_,_⟩:=qb.shape n hK;have hb1:=Below.alloc1 w (.cells #[.bool t.text,.string t.s,.slice aa t.attrs.length ac,.slice ka t.kids.length kc] 25);have hX1:=jU.start w (.bool t.text) (.string t.s) (.slice aa t.attrs.length ac) (.slice ka t.kids.length kc) 25
 have HP:Hid (∀ W,Below w.heap.size w W→Calls Tryd.prog 27 #[.agg #[.bool t.text,.string t.s,.slice aa t.attrs.length ac,.slice ka t.kids.length kc]] W fun e w'=>e=.returned (.tuple #[.string (zp n t).1,.int .i64 (zp n t).2])∧Below W.heap.size W w') :=
  fun W hW=>z7 S n _ _ t W (hA.later hW) (qb.later hW n hK) (hM.later hW hM.lt) hx
 have HG:Hid (∀ W,Below w.heap.size w W→Calls Tryd.prog 19 #[.agg #[.bool t.text,.string t.s,.slice aa t.attrs.length ac,.slice ka t.kids.length kc]] W fun e w'=>e=.returned (.bool (qw t))∧Below W.heap.size W w') :=
  fun W hW=>yj S n _ _ t W (hA.later hW) (qb.later hW n hK) hx
 have HM:Hid (∀ W,Below w.heap.size w W→qx W):=fun W hW=>hM.later hW hM.lt
 have HAK:Hid (∀ W,Below w.heap.size w W→qe S W (.slice aa t.attrs.length ac) t.attrs∧qb S W n (.slice ka t.kids.length kc) t.kids):=fun W hW=>⟨hA.later hW,qb.later hW n hK⟩
 have HD:Hid (Deep n t.kids):=qb.deep n hK;clear hA hK hM hx
 go_enter Tryd.func4,Tryd.ntmps4
 go_wp2_with fail
 generalize w.alloc (.cells #[.bool t.text,.string t.s,.slice aa t.attrs.length ac,.slice ka t.kids.length kc] 25)=W1 at hb1 hX1 ⊢
 refine (Calls.mono (HP.out _ hb1) ?_);rintro e w2 ⟨rfl,hb2⟩;have hX2:=hX1.later hb2 hX1.lt;have hB2:Below w.heap.size w w2:=hb1.trans (hb2.mono hb1.size);have hM2:=HM.out w2 hB2;have HMK:Hid _:=zu w2 hM2;clear hX1 hb1 hb2 HP hM2;have f0:=hX2.at0;have f1:=hX2.at1;have f2:=hX2.at2;have f3:=hX2.at3
 rcases yB n t with ⟨hg,hp⟩|⟨hg,hp⟩|⟨hg,hl,hp⟩
 · rw[hp];have HG2:Hid _:=HG.out w2 hB2;rw[hg]at HG2
   clear hp hg HG;go_wp2_with fail;refine (Calls.mono HG2.out ?_);rintro e w3 ⟨rfl,hb3⟩;have hB3:Below w.heap.size w w3:=hB2.trans (hb3.mono hB2.size);have HMK3:Hid _:=zu w3 (HM.out w3 hB3);go_wp2_with fail;refine (Calls.mono HMK3.out ?_);rintro e w4 ⟨rfl,hb4⟩;have hB4:Below w.heap.size w w4:=hB3.trans (hb4.mono hB3.size);go_wp2_with fail;go_ret;exact ⟨rfl,hB4⟩
 · rw[hp];have HG2:Hid _:=HG.out w2 hB2;rw[hg]at HG2
   clear hp hg HG;go_wp2_with fail;refine (Calls.mono HG2.out ?_);rintro e w3 ⟨rfl,hb3⟩;have hB3:Below w.heap.size w w3:=hB2.trans (hb3.mono hB2.size);have HMK3:Hid _:=zu w3 (HM.out w3 hB3);go_wp2_with fail;refine (Calls.mono HMK3.out ?_);rintro e w4 ⟨rfl,hb4⟩;have hB4:Below w.heap.size w w4:=hB3.trans (hb4.mono hB3.size);go_wp2_with fail;go_ret;exact ⟨rfl,hB4⟩
 · have HPB : Hid _ := jz HD.out hg hl;rw[hp];obtain ⟨s,hs⟩:∃ s,qB (showL n t.kids) t=s:=⟨_,rfl⟩;rw[hs]at HPB hl ⊢
   clear hp hg HG hs;go_wp2_with fail;refine (Calls.mono HMK.out ?_);rintro e w3 ⟨rfl,hb3⟩;have hB3:Below w.heap.size w w3:=hB2.trans (hb3.mono hB2.size);have hX3:=hX2.later hb3 hX2.lt;have hPR:=jf s w3 (HM.out w3 hB3) (by omega)
   rw[HPB.out]at hPR
   have HPR:Hid _:=hPR;clear hPR HMK hX2 f0 f1 f2 f3;go_wp2_with fail;refine (Calls.mono HPR.out ?_);rintro e w4 ⟨va4,vk4,rfl,hA4,hK4,hb4⟩;obtain ⟨aa4,ac4,rfl⟩:=hA4.shape;obtain ⟨ka4,kc4,rfl,_,_⟩:=qb.shape s.length hK4;have hX4:=hX3.later hb4 hX3.lt;have hB4:Below w.heap.size w w4:=hB3.trans (hb4.mono hB3.size);have hb5:=Below.alloc1 w4 (.cells #[.bool t.text,.string t.s,.slice aa4 t.attrs.length ac4,.slice ka4 t.kids.length kc4] 25);have hX5:=hX4.later hb5 hX4.lt;have hB5:Below w.heap.size w _:=hB4.trans (hb5.mono hB4.size);obtain ⟨hA5,hK5⟩:=HAK.out _ hB5;have HSM:Hid _:=j4 (n+s.length) _ _ t.text t.s _ _ _ _ t.attrs t.kids _ hA5 (hA4.later hb5) (hK5.more (Nat.le_add_right n s.length)) ((qb.later hb5 s.length hK4).more (Nat.le_add_left s.length n));have f0:=hX5.at0;have f1:=hX5.at1;have f2:=hX5.at2;have f3:=hX5.at3;clear HPR hX3 hX4 hX5 hA4 hK4 hA5 hK5;go_wp2_with fail;refine (Calls.mono HSM.out ?_);rintro e w6 ⟨rfl,hb6⟩;have hB6:Below w.heap.size w w6:=hB5.trans (hb6.mono hB5.size);go_wp2_with fail;go_ret;exact ⟨rfl,hB6⟩
end
section
attribute [local go_sem] qg
def qU (ts:List Tr):Tr:=⟨false,⟨#[97]⟩,[],ts⟩
theorem QW (n:Nat)(ts:List Tr)(h:ts≠[]):qB (showL n ts) (qU ts)=[60,97,62]++(showL n ts++[60,47,97,62]):=by
 cases ts with
 | nil=>exact absurd rfl h
 | cons t r=>simp[qB,qU]
theorem xE {n:Nat}{ts:List Tr}(hd:Deep n ts)(h:qw (qU ts)=true):zQ ts=true:=by
 rw[zS (n:=n) hd]at h
 rw[yO hd];simp only[Bool.and_eq_true,decide_eq_true_eq]at h
 obtain ⟨⟨⟨_,h1⟩,h2⟩,h3⟩:=h;rw[q9]at h1
 have h4:cnt (n+1) [qU ts]=1+cnt n ts:=by simp[cnt,qU]
 rw[h4]at h2
 have h5:rgL (rgt n) false [qU ts]=true:=h3;unfold rgL at h5
 simp only[Bool.and_eq_true]at h5
 have h6:rgt n ts=true:=by simpa[qU] using h5.1.2
 have h7:1+dep n ts≤max (1+dep n ts) (dep (n+1) []):=Nat.le_max_left _ _;simp only[Bool.and_eq_true,decide_eq_true_eq];refine ⟨⟨?_,by omega⟩,h6⟩
 have:1+dep n ts<9:=Nat.lt_of_le_of_lt h7 h1;omega
theorem J8 (x:List UInt8):(bytesOf ([60,97,62]++(x++[60,47,97,62]))).extract 0 3=⟨#[60,97,62]⟩:=by
 rw[zG];rfl
theorem J9 (x:List UInt8):(bytesOf ([60,97,62]++(x++[60,47,97,62]))).extract (x.length+3) (x.length+7)=⟨#[60,47,97,62]⟩:=by
 have e:x.length+7=(bytesOf ([60,97,62]++(x++[60,47,97,62]))).size:=by rw[qk];simp
 rw[e,zF]
 have:([60,97,62]++(x++[60,47,97,62])).drop (x.length+3)=[60,47,97,62]:=by
  rw[show x.length+3=3+x.length from Nat.add_comm _ _,←List.drop_drop]
  simp
 rw[this];rfl
theorem XJ (x:List UInt8):(bytesOf ([60,97,62]++(x++[60,47,97,62]))).extract 3 (x.length+3)=bytesOf x:=by
 apply ByteArray.ext
 apply Array.ext'
 rw[Lib.extract_data];simp[bytesOf]
set_option maxHeartbeats 2000000 in
theorem xo (S:Nat→Prop)(n:Nat)(v:Value)(ts:List Tr)(w:World)(hK:qb S w n v ts)(hM:qx w)(hx:TextsN n ts) :
 Calls Tryd.prog 6 #[v] w fun e w'=>e=.returned (.bool true)∧Below w.heap.size w w':=by
 obtain ⟨ka,kc,rfl,hlc,hcm⟩:=qb.shape n hK;unfold maxLen at hcm
 have hb1:=Below.alloc1 w (.cells #[.bool false,.string ⟨#[97]⟩,.slice none 0 0,.slice ka ts.length kc] 25)
 have HP:Hid (∀ W,Below w.heap.size w W→Calls Tryd.prog 27 #[.agg #[.bool false,.string ⟨#[97]⟩,.slice none 0 0,.slice ka ts.length kc]] W fun e w'=>e=.returned (.tuple #[.string (zp n (qU ts)).1,.int .i64 (zp n (qU ts)).2])∧Below W.heap.size W w') :=
  fun W hW=>z7 S n _ _ (qU ts) W qe.nil (qb.later hW n hK) (hM.later hW hM.lt) (by
   intro t ht;simp only[List.mem_singleton]at ht
   subst ht;exact ⟨⟨by show 1≤maxLen;unfold maxLen;omega,by intro x hx;simp[qU]at hx⟩,hx⟩)
 have HM:Hid (∀ W,Below w.heap.size w W→qx W):=fun W hW=>hM.later hW hM.lt
 have HK:Hid (∀ W,Below w.heap.size w W→qb S W n (.slice ka ts.length kc) ts):=fun W hW=>qb.later hW n hK
 have HD:Hid (Deep n ts):=qb.deep n hK;clear hK hM hx
 go_enter Tryd.func6,Tryd.ntmps6
 go_wp2_with fail
 generalize w.alloc (.cells #[.bool false,.string ⟨#[97]⟩,.slice none 0 0,.slice ka ts.length kc] 25)=W1 at hb1 ⊢
 refine (Calls.mono (HP.out _ hb1) ?_);rintro e w2 ⟨rfl,hb2⟩;have hB2:Below w.heap.size w w2:=hb1.trans (hb2.mono hb1.size);have HMK:Hid _:=zu w2 (HM.out w2 hB2);clear hb1 hb2 HP
 rcases yB n (qU ts) with ⟨hg,hp⟩|⟨hg,hp⟩|⟨hg,hl,hp⟩
 · rw[hp];clear hp hg;go_wp2_with fail;refine (Calls.mono HMK.out ?_);rintro e w4 ⟨rfl,hb4⟩;have hB4:Below w.heap.size w w4:=hB2.trans (hb4.mono hB2.size);go_wp2_with fail;go_ret;exact ⟨rfl,hB4⟩
 · rw[hp];clear hp hg;go_wp2_with fail;refine (Calls.mono HMK.out ?_);rintro e w4 ⟨rfl,hb4⟩;have hB4:Below w.heap.size w w4:=hB2.trans (hb4.mono hB2.size);go_wp2_with fail;go_ret;exact ⟨rfl,hB4⟩
 · rw[hp]
   by_cases hn:ts=[]
   · have hl0 : ts.length = 0 := by rw[hn];rfl
     have hli:(ts.length:Int)=0:=by omega
     obtain ⟨s0,hs0⟩:∃ s0,bytesOf (qB (showL n (qU ts).kids) (qU ts))=s0:=⟨_,rfl⟩;rw[hs0];rw[hl0];clear hp hg hl hs0 hn hl0 hli;go_wp2_with fail;refine (Calls.mono HMK.out ?_);rintro e w4 ⟨rfl,hb4⟩;have hB4:Below w.heap.size w w4:=hB2.trans (hb4.mono hB2.size);go_wp2_with fail;go_ret;exact ⟨rfl,hB4⟩
   · have e1 : qB (showL n (qU ts).kids) (qU ts) = [60, 97, 62] ++ (showL n ts ++ [60, 47, 97, 62]) := QW n ts hn;have hlen:ts.length≠0:=fun h=>hn (List.eq_nil_of_length_eq_zero h)
     have hli:((ts.length:Int)==0)=false:=by simp;omega
     have hc:=xE HD.out hg;rw[e1]at hl ⊢
     have hl2:(showL n ts).length≤2493:=by simp at hl;omega
     have HCB:Hid _:=Jj HD.out hc (by omega)
     have HC:Hid _:=fun W (hW:qx W)=>Qf (showL n ts) W hW (by omega)
     obtain ⟨x,hxx⟩:∃ x,showL n ts=x:=⟨_,rfl⟩;rw[hxx]at HCB HC hl2 ⊢
     rw[HCB.out]at HC
     have ch:=J8 x;have ct:=J9 x;have cm:=XJ x;have hsz:(bytesOf ([60,97,62]++(x++[60,47,97,62]))).size=x.length+7:=by rw[qk];simp
     obtain ⟨u,hu⟩:∃ u,bytesOf ([60,97,62]++(x++[60,47,97,62]))=u:=⟨_,rfl⟩;rw[hu]at ch ct cm hsz ⊢
     clear hp hg hl e1 hc hxx hu HCB hn;go_wp2_with fail;refine (Calls.mono HMK.out ?_);rintro e w3 ⟨rfl,hb3⟩;have hB3:Below w.heap.size w w3:=hB2.trans (hb3.mono hB2.size);have HC3:Hid _:=HC.out w3 (HM.out w3 hB3);have hsub:((x.length:Int)+7)-4=((x.length+3:Nat):Int):=by push_cast;omega
     have hslice:(Instr.slice 9 (.string u) (some (.int .i64 3)) (some (.int .i64 ((x.length:Int)+3))) none).run Tryd.prog w3=.ok (.string (bytesOf x)) w3:=by
      rw[run_slice_string w3 9 u .i64 .i64 3 ((x.length:Int)+3) Tryd.underlying9 (by decide) (by omega) (by rw[hsz];push_cast;omega)]
      have e3:((x.length:Int)+3).toNat=x.length+3:=by omega
      rw[e3]
      show Result.ok (Value.string (u.extract 3 (x.length+3))) w3=_
      rw[cm]
     clear HMK HC;go_wp2_with fail;refine (Calls.mono HC3.out ?_);rintro e w4 ⟨v4,rfl,hK4,hb4⟩;obtain ⟨ka4,kc4,rfl,_,_⟩:=qb.shape (x.length+1) hK4;have hB4:Below w.heap.size w w4:=hB3.trans (hb4.mono hB3.size);have HSM:Hid _:=QH (n+(x.length+1)) _ _ _ _ ts w4 ((HK.out w4 hB4).more (Nat.le_add_right _ _)) (hK4.more (Nat.le_add_left _ _));go_wp2_with fail;refine (Calls.mono HSM.out ?_);rintro e w5 ⟨rfl,hb5⟩;have hB5:Below w.heap.size w w5:=hB4.trans (hb5.mono hB4.size);go_wp2_with fail;go_ret;exact ⟨rfl,hB5⟩
end
end Go.Proofs.YtfdbipeidmpciaaDoor
