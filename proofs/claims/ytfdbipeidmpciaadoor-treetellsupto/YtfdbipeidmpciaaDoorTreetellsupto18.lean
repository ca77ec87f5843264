/- topiaryref.IsTree and IsContent, for every tree: the same as tree.Good and tree.Content. Condition: at most 2^20 trees, texts of at most 2^20 letters. -/
import Derived.Test.YtfdbipeidmpciaaDoorTreetellsupto17
import Derived.Test.YtfdbipeidmpciaaDoorTreetellsupto11
namespace Go.Proofs.YtfdbipeidmpciaaDoor
open Go.ChangeShapes Go.WideShapes Go.ChangeAt Go.RowKit
set_option maxRecDepth 100000
set_option maxHeartbeats 1000000 in
theorem Zj (S:Nat→Prop)(n:Nat)(va vk:Value)(t:Tr)(w:World)(h:qe S w va t.attrs)(hk:qb S w n vk t.kids)(hc:cnt (n+1) [t]≤1048576)(hx:TexN (n+1) [t]) :
 Calls Tryd.prog 20 #[.agg #[.bool t.text,.string t.s,va,vk]] w fun e w'=>e=.returned (.bool (qu t))∧Below w.heap.size w w':=by
 have HG:Hid (qu t=_):=yJ (qb.deep n hk);have hb0:∀ X,Below w.heap.size w (w.alloc X):=Below.alloc1 w;have HS:∀ (W:World),Below w.heap.size w W→Hid _:=fun W hW=>xQ S n va vk t W (h.later hW) (qb.later hW n hk) hc
 have HS':Hid (∀ (W:World),Below w.heap.size w W→Hid _):=HS;clear HS;have HR:Hid (∀ (W:World) (v:Value),qb (fun b=>S b∨w.heap.size≤b) W (n+1) v [t]→Calls Tryd.prog 55 #[v] W fun e w'=>e=.returned (.bool (rgt (n+1) [t]))∧Below W.heap.size W w'):=fun W v hv=>Yu (n+1) _ v [t] W hv hx
 have HA:Hid (qe S w va t.attrs):=h;have HK:Hid (qb S w n vk t.kids):=hk;obtain ⟨aa,ac,rfl⟩:=h.shape;obtain ⟨ka,kc,rfl,_,_⟩:=qb.shape n hk;obtain ⟨D,hD⟩:∃ D,dep (n+1) [t]=D:=⟨_,rfl⟩;obtain ⟨C,hC⟩:∃ C,cnt (n+1) [t]=C:=⟨_,rfl⟩;have hDC:=dep_cnt (n+1) [t];rw[hD,hC]at hDC
 rw[hC]at hc
 have HG2:Hid (qu t=(!t.text&&decide (D<9)&&decide (C<81)&&rgt (n+1) [t])):=by show _=_;rw[HG.out,hD,hC]
 have HS2:Hid (∀ (W:World),Below w.heap.size w W→Calls Tryd.prog 12 #[.agg #[.bool t.text,.string t.s,.slice aa t.attrs.length ac,.slice ka t.kids.length kc]] W fun e w'=>e=.returned (.tuple #[.int .i64 (D:Int),.int .i64 (C:Int)])∧Below W.heap.size W w'):=by
  intro W hW;have:=HS'.out W hW;rw[hD,hC]at this
  exact this
 clear HS' HG hD hC h hk hx;have hX1:=xT.start w (.bool t.text) (.string t.s) (.slice aa t.attrs.length ac) (.slice ka t.kids.length kc) 25;have hB1:=hb0 (.cells #[.bool t.text,.string t.s,.slice aa t.attrs.length ac,.slice ka t.kids.length kc] 25)
 go_enter Tryd.func20,Tryd.ntmps20
 go_wp2_with fail
 generalize w.alloc (.cells #[.bool t.text,.string t.s,.slice aa t.attrs.length ac,.slice ka t.kids.length kc] 25)=W1 at hB1 hX1 ⊢
 refine (HS2.out W1 hB1).mono ?_;rintro e W2 ⟨rfl,hb2⟩;have hX2:=hX1.later hb2 hX1.lt;have hB2:Below w.heap.size w W2:=hB1.trans (hb2.mono hB1.size);have f0:=hX2.at0;have f1:=hX2.at1;have f2:=hX2.at2;have f3:=hX2.at3;cases htt:t.text with
 | true =>
   have HF:Hid (qu t=false):=by show _=_;rw[HG2.out,htt];rfl
   rw[htt]at f0
   clear HG2 htt;go_wp2_with fail;go_ret;exact ⟨by rw[HF.out];rfl,hB2⟩
 | false =>
   rw[htt]at f0
   by_cases hd9:D<9
   · by_cases hc81 : C < 81
     · have HF : Hid (qu t = rgt (n + 1) [t]) := by show _ = _;rw[HG2.out, htt];simp[hd9, hc81]
       have HT0:Hid (t.text=false):=htt;clear HG2 htt;go_wp2_with fail;have hb3:Below W2.heap.size W2 (W2.alloc (.cells #[.bool false,.string t.s,.slice aa t.attrs.length ac,.slice ka t.kids.length kc] 25)):=Below.alloc1 _ _;have hB3:=hB2.trans (hb3.mono hB2.size)
       have hT:qb (fun b=>S b∨w.heap.size≤b) (W2.alloc (.cells #[.bool false,.string t.s,.slice aa t.attrs.length ac,.slice ka t.kids.length kc] 25)) (n+1) (.slice (some ⟨W2.heap.size,0,none⟩) 1 1) [t]:=by
        have hT0:=qb.of_block (S:=S) (n:=n) (len:=1) (cap:=1) (ts:=[t]) (e:=25) (fz:=(0,0)) (qs:=[(false,t.s,.slice aa t.attrs.length ac,.slice ka t.kids.length kc)]) (heap_alloc_new W2 (.cells #[.bool false,.string t.s,.slice aa t.attrs.length ac,.slice ka t.kids.length kc] 25)) rfl rfl rfl (nR9 _) (by unfold maxLen;simp) (by
         intro i q t' hq ht';cases i with
         | zero =>
           simp at hq ht'
           subst hq ht';exact ⟨HT0.out.symm,rfl,HA.out.later hB3,qb.later hB3 n HK.out⟩
         | succ i=>simp at ht')
        refine qb.carry (fun b hb=>⟨?_,rfl⟩) (n+1) hT0
        rcases hb with hb|hb
        · exact Or.inl hb
        · right;have:=hB2.size;omega
       refine (HR.out _ _ hT).mono ?_;rintro e W3 ⟨rfl,hb4⟩;have hB4:Below w.heap.size w W3:=hB3.trans (hb4.mono (by simp;have:=hB2.size;omega))
       go_wp2_with fail;go_ret;exact ⟨by rw[HF.out];rfl,hB4⟩
     · have HF : Hid (qu t = false) := by show _ = _;rw[HG2.out];simp[hc81]
       clear HG2 htt;go_wp2_with fail;go_ret;exact ⟨by rw[HF.out];rfl,hB2⟩
   · have HF : Hid (qu t = false) := by show _ = _;rw[HG2.out];simp[hd9]
     clear HG2 htt;go_wp2_with fail;go_ret;exact ⟨by rw[HF.out];rfl,hB2⟩
theorem JF (n:Nat)(ts:List Tr)(k:Nat):cnt n (ts.take k)≤cnt n ts:=by
 have h:cnt n ts=cnt n (ts.take k)+cnt n (ts.drop k):=by rw[←qX,List.take_append_drop]
 omega
theorem qbl (n:Nat){ts:List Tr}{t:Tr}(h:t∈ts):dep (n+1) [t]≤dep (n+1) ts:=by
 obtain ⟨a,b,rfl⟩:=List.append_of_mem h;have e:a++t::b=a++([t]++b):=rfl;rw[e,zq,zq];omega
set_option maxHeartbeats 1000000 in
theorem ZQ (S:Nat→Prop)(n:Nat)(v:Value)(ts:List Tr)(w:World)(h:qb S w (n+1) v ts)(hc:cnt (n+1) ts≤1048576)(hx:TexN (n+1) ts) :
 Calls Tryd.prog 23 #[v] w fun e w'=>e=.returned (.bool (qY ts))∧Below w.heap.size w w':=by
 have HG:Hid (qY ts=(decide (dep (n+1) ts≤8)&&decide (cnt (n+1) ts≤80)&&rgt (n+1) ts)):=yS (qb.deep (n+1) h);have HT:Hid (qb S w (n+1) v ts):=h;have HX:Hid (TexN (n+1) ts):=hx;clear hx;obtain ⟨a,cap,rfl,hle,hm,h4⟩:=h;unfold maxLen at hm
 go_enter Tryd.func23,Tryd.ntmps23
 go_wp2_with fail
 go_loopg [3,10] ts.length (fun g c i wr=>∃ (k:Nat) (cc:Nat),k+g=ts.length∧c=.int .i64 (cc:Int)∧cc=cnt (n+1) (ts.take k)∧i=.int .i64 k∧dep (n+1) (ts.take k)≤8∧Below w.heap.size w wr)
 case atStart => exact ⟨0,0,by omega,rfl,by rw[List.take_zero,qI],rfl,by rw[List.take_zero,zj];omega,Below.refl _ _⟩
 case round =>
  obtain ⟨k,cc,hk,rfl,hcc0,rfl,hdk,hB⟩:=hrel;have hsz:=hB.size;have hcb:cc≤1048576:=by have:=JF (n+1) ts k;omega
  have HCC:Hid (cc=cnt (n+1) (ts.take k)):=hcc0;have HDK:Hid (dep (n+1) (ts.take k)≤8):=hdk;clear hcc0 hdk
  by_cases hlt:k<ts.length
  · have hne : ts ≠ [] := by intro e;subst e;simp at hlt
    obtain ⟨b,o,rfl,hs,hcc⟩:=h4 hne;obtain ⟨t,ht⟩:∃ t,ts[k]?=some t:=⟨ts[k],by simp[hlt]⟩
    obtain ⟨va,vk,c0,c1,c2,c3,hat,hkt⟩:=hcc k t ht;obtain ⟨aa,ac,rfl⟩:=hat.shape;obtain ⟨ka,kc,rfl,_,hkm⟩:=qb.shape n hkt;have hbl:b<w.heap.size:=World.block_lt_of_cell? w _ c0;rw[←hB.cell (p:=⟨b,o+k*4,none⟩) hbl]at c0
    rw[←hB.cell (p:=⟨b,o+k*4+1,none⟩) hbl]at c1
    rw[←hB.cell (p:=⟨b,o+k*4+2,none⟩) hbl]at c2
    rw[←hB.cell (p:=⟨b,o+k*4+3,none⟩) hbl]at c3
    have hblr:b<wr.heap.size:=by omega
    have hsn:ts.take (k+1)=ts.take k++[t]:=by
     rw[List.take_succ_eq_append_getElem hlt];congr 2;simpa[hlt] using ht
    have hct:=JF (n+1) ts (k+1);rw[hsn,qX,←HCC.out]at hct
    have hB1:Below w.heap.size w (wr.alloc (.cells #[.bool t.text,.string t.s,.slice aa t.attrs.length ac,.slice ka t.kids.length kc] 25)):=hB.alloc hsz _;have HSz:=xQ S n (.slice aa t.attrs.length ac) (.slice ka t.kids.length kc) t _ (hat.later hB1) (qb.later hB1 n hkt) (by omega)
    have hmem:t∈ts:=List.mem_of_getElem? ht;have HM:Hid (dep (n+1) [t]≤dep (n+1) ts):=qbl n hmem;have HC1:Hid (cnt (n+1) (ts.take (k+1))=cc+cnt (n+1) [t]):=by show _=_;rw[hsn,qX,←HCC.out]
    have HD1:Hid (dep (n+1) (ts.take (k+1))=max (dep (n+1) (ts.take k)) (dep (n+1) [t])):=by show _=_;rw[hsn,zq]
    have hDC:=dep_cnt (n+1) [t];have HS2:Hid _:=HSz;clear HSz h4 hcc ht hsn hat hkt hmem;obtain ⟨D,hD⟩:∃ D,dep (n+1) [t]=D:=⟨_,rfl⟩;obtain ⟨C,hC⟩:∃ C,cnt (n+1) [t]=C:=⟨_,rfl⟩;rw[hD,hC]at HS2 hDC
    rw[hC]at HC1 hct
    rw[hD]at HD1 HM
    clear hD hC;go_wp2_with fail;refine (Calls.mono HS2.out ?_);rintro e W2 ⟨rfl,hb2⟩;have hB2:Below w.heap.size w W2:=hB1.trans (hb2.mono hB1.size)
    by_cases hd8:8<D
    · have HF:Hid (qY ts=false):=by
       show _=_
       rw[HG.out];have:¬ dep (n+1) ts≤8:=by have:=HM.out;omega
       simp[this]
      go_wp2_with fail;go_ret;exact ⟨by rw[HF.out];rfl,hB2⟩
    · go_wp2_with fail
      go_roundg (ts.length-(k+1))
      case measure => omega
      case rel => exact ⟨k+1,cc+C,by omega,by go_num,HC1.out.symm,by go_num,by rw[HD1.out];have:=HDK.out;omega,hB2⟩
  · have hkk : k = ts.length := by omega
    subst hkk;rw[List.take_length]at HCC HDK
    by_cases h80:cc≤80
    · have HF:Hid (qY ts=rgt (n+1) ts):=by
       show _=_
       rw[HG.out];have h1:dep (n+1) ts≤8:=HDK.out;have h2:cnt (n+1) ts≤80:=by have:=HCC.out;omega
       simp[h1,h2]
      go_wp2_with fail;refine (Yu (n+1) S _ ts wr (qb.later hB (n+1) HT.out) HX.out).mono ?_;rintro e W2 ⟨rfl,hb2⟩;have hB2:Below w.heap.size w W2:=hB.trans (hb2.mono hB.size);go_wp2_with fail;go_ret;exact ⟨by rw[HF.out];rfl,hB2⟩
    · have HF:Hid (qY ts=false):=by
       show _=_
       rw[HG.out];have h2:¬ cnt (n+1) ts≤80:=by have:=HCC.out;omega
       simp[h2]
      go_wp2_with fail;go_ret;exact ⟨by rw[HF.out];rfl,hB⟩
end Go.Proofs.YtfdbipeidmpciaaDoor
