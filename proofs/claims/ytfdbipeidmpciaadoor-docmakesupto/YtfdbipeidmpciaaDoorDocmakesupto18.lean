/- topiaryref.IsTree and IsContent, for every tree: the same as tree.Good and tree.Content. Condition: at most 2^20 trees, texts of at most 2^20 letters. -/
import Derived.Test.YtfdbipeidmpciaaDoorDocmakesupto17
namespace Go.Proofs.YtfdbipeidmpciaaDoor
open Go.ChangeShapes Go.WideShapes Go.ChangeAt Go.RowKit
set_option maxRecDepth 100000
set_option maxHeartbeats 1000000 in
theorem Yu (S:Nat→Prop)(n:Nat)(va vk:Value)(t:Tr)(w:World)(h:qe S w va t.attrs)(hk:qb S w n vk t.kids)(hc:cnt (n+1) [t]≤1048576)(hx:TexN (n+1) [t]) :
 Calls Tryd.prog 20 #[.agg #[.bool t.text,.string t.s,va,vk]] w fun e w'=>e=.returned (.bool (qw t))∧Below w.heap.size w w':=by
 have HG:Hid (qw t=_):=zS (qb.deep n hk);have hb0:∀ X,Below w.heap.size w (w.alloc X):=Below.alloc1 w;have HS:∀ (W:World),Below w.heap.size w W→Hid _:=fun W hW=>YR S n va vk t W (h.later hW) (qb.later hW n hk) hc
 have HS':Hid (∀ (W:World),Below w.heap.size w W→Hid _):=HS;clear HS;have HR:Hid (∀ (W:World) (v:Value),qb (fun b=>S b∨w.heap.size≤b) W (n+1) v [t]→Calls Tryd.prog 55 #[v] W fun e w'=>e=.returned (.bool (rgt (n+1) [t]))∧Below W.heap.size W w'):=fun W v hv=>JK (n+1) _ v [t] W hv hx
 have HA:Hid (qe S w va t.attrs):=h;have HK:Hid (qb S w n vk t.kids):=hk;obtain ⟨aa,ac,rfl⟩:=h.shape;obtain ⟨ka,kc,rfl,_,_⟩:=qb.shape n hk;obtain ⟨D,hD⟩:∃ D,dep (n+1) [t]=D:=⟨_,rfl⟩;obtain ⟨C,hC⟩:∃ C,cnt (n+1) [t]=C:=⟨_,rfl⟩;have hDC:=dep_cnt (n+1) [t];rw[hD,hC]at hDC
 rw[hC]at hc
 have HG2:Hid (qw t=(!t.text&&decide (D<9)&&decide (C<81)&&rgt (n+1) [t])):=by show _=_;rw[HG.out,hD,hC]
 have HS2:Hid (∀ (W:World),Below w.heap.size w W→Calls Tryd.prog 12 #[.agg #[.bool t.text,.string t.s,.slice aa t.attrs.length ac,.slice ka t.kids.length kc]] W fun e w'=>e=.returned (.tuple #[.int .i64 (D:Int),.int .i64 (C:Int)])∧Below W.heap.size W w'):=by
  intro W hW;have:=HS'.out W hW;rw[hD,hC]at this
  exact this
 clear HS' HG hD hC h hk hx;have hX1:=jU.start w (.bool t.text) (.string t.s) (.slice aa t.attrs.length ac) (.slice ka t.kids.length kc) 25;have hB1:=hb0 (.cells #[.bool t.text,.string t.s,.slice aa t.attrs.length ac,.slice ka t.kids.length kc] 25)
 go_enter Tryd.func20,Tryd.ntmps20
 go_wp2_with fail
 generalize w.alloc (.cells #[.bool t.text,.string t.s,.slice aa t.attrs.length ac,.slice ka t.kids.length kc] 25)=W1 at hB1 hX1 ⊢
 refine (HS2.out W1 hB1).mono ?_;rintro e W2 ⟨rfl,hb2⟩;have hX2:=hX1.later hb2 hX1.lt;have hB2:Below w.heap.size w W2:=hB1.trans (hb2.mono hB1.size);have f0:=hX2.at0;have f1:=hX2.at1;have f2:=hX2.at2;have f3:=hX2.at3;cases htt:t.text with
 | true =>
   have HF:Hid (qw t=false):=by show _=_;rw[HG2.out,htt];rfl
   rw[htt]at f0
   clear HG2 htt;go_wp2_with fail;go_ret;exact ⟨by rw[HF.out];rfl,hB2⟩
 | false =>
   rw[htt]at f0
   by_cases hd9:D<9
   · by_cases hc81 : C < 81
     · have HF : Hid (qw t = rgt (n + 1) [t]) := by show _ = _;rw[HG2.out, htt];simp[hd9, hc81]
       have HT0:Hid (t.text=false):=htt;clear HG2 htt;go_wp2_with fail;have hb3:Below W2.heap.size W2 (W2.alloc (.cells #[.bool false,.string t.s,.slice aa t.attrs.length ac,.slice ka t.kids.length kc] 25)):=Below.alloc1 _ _;have hB3:=hB2.trans (hb3.mono hB2.size)
       have hT:qb (fun b=>S b∨w.heap.size≤b) (W2.alloc (.cells #[.bool false,.string t.s,.slice aa t.attrs.length ac,.slice ka t.kids.length kc] 25)) (n+1) (.slice (some ⟨W2.heap.size,0,none⟩) 1 1) [t]:=by
        have hT0:=qb.of_block (S:=S) (n:=n) (len:=1) (cap:=1) (ts:=[t]) (e:=25) (fz:=(0,0)) (qs:=[(false,t.s,.slice aa t.attrs.length ac,.slice ka t.kids.length kc)]) (heap_alloc_new W2 (.cells #[.bool false,.string t.s,.slice aa t.attrs.length ac,.slice ka t.kids.length kc] 25)) rfl rfl rfl (nR9 _) (by unfold maxLen;simp) (by
         intro i q t' hq ht';cases i with
         | zero =>
           simp at hq ht'
           subst hq ht';exact ⟨HT0.out.symm,rfl,HA.out.later hB3,qb.later hB3 n HK.out⟩
         | succ i=>simp at ht')
        refine qb.carry (fun b hb=>⟨?_,rfl⟩) (n+1) hT0
        rcases hb with hb|hb
        · exact Or.inl hb
        · right;have:=hB2.size;omega
       refine (HR.out _ _ hT).mono ?_;rintro e W3 ⟨rfl,hb4⟩;have hB4:Below w.heap.size w W3:=hB3.trans (hb4.mono (by simp;have:=hB2.size;omega))
       go_wp2_with fail;go_ret;exact ⟨by rw[HF.out];rfl,hB4⟩
     · have HF : Hid (qw t = false) := by show _ = _;rw[HG2.out];simp[hc81]
       clear HG2 htt;go_wp2_with fail;go_ret;exact ⟨by rw[HF.out];rfl,hB2⟩
   · have HF : Hid (qw t = false) := by show _ = _;rw[HG2.out];simp[hd9]
     clear HG2 htt;go_wp2_with fail;go_ret;exact ⟨by rw[HF.out];rfl,hB2⟩
end Go.Proofs.YtfdbipeidmpciaaDoor
