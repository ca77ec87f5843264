/- topiaryref.right, for every list of trees. Condition: texts of at most 2^20 letters. -/
import Derived.Test.YtfdbipeidmpciaaDoorDoctells18
import Derived.Test.YtfdbipeidmpciaaDoorFive09
namespace Go.Proofs.YtfdbipeidmpciaaDoor
open Go.ChangeShapes Go.WideShapes Go.ChangeAt Go.RowKit
set_option maxRecDepth 100000
def jD (n:Nat):Prop:=∀ (S:Nat→Prop) (v:Value) (ts:List Tr) (w:World),qb S w n v ts→TexN n ts →
 Calls Tryd.prog 55 #[v] w fun e w'=>e=.returned (.bool (rgt n ts))∧Below w.heap.size w w'
theorem right_zero:jD 0:=by
 intro S v ts w h _;obtain ⟨rfl,a,cap,rfl,hm⟩:=h;unfold maxLen at hm
 go_enter Tryd.func55,Tryd.ntmps55
 go_wp2_with fail
 go_loopg [8] 0 (fun _ i wr=>i=.int .i64 0∧wr=w)
 case atStart => exact ⟨rfl,rfl⟩
 case round =>
  obtain ⟨rfl,rfl⟩:=hrel;go_wp2_with fail;go_ret;exact ⟨rfl,Below.refl _ _⟩
theorem Qm {l:List Tr}{k:Nat}{t:Tr}(h:l[k]?=some t):qG l (k+1)=t.text:=by simp[qG,h]
set_option maxHeartbeats 1000000 in
theorem YN (n:Nat)(h:jD n):jD (n+1):=by
 intro S v ts w h1 htx;have H:Hid (jD n):=h;have HTx:Hid (TexN (n+1) ts):=htx;clear h htx;obtain ⟨a,cap,rfl,hle,hm,h4⟩:=h1;unfold maxLen at hm
 go_enter Tryd.func55,Tryd.ntmps55
 go_wp2_with fail
 go_loopg [3,8] ts.length (fun g p i wr=>∃ k:Nat,k+g=ts.length∧p=.bool (qG ts k)∧i=.int .i64 k∧rgt (n+1) ts=rgL (rgt n) (qG ts k) (ts.drop k)∧Below w.heap.size w wr)
 case atStart => exact ⟨0,by omega,rfl,rfl,rfl,Below.refl _ _⟩
 case round =>
  obtain ⟨k,hk,rfl,rfl,hrg,hB⟩:=hrel;have hsz:=hB.size
  by_cases hlt:k<ts.length
  · have hne : ts ≠ [] := by intro e;subst e;simp at hlt
    obtain ⟨b,o,rfl,hs,hcc⟩:=h4 hne;obtain ⟨t,ht⟩:∃ t,ts[k]?=some t:=⟨ts[k],by simp[hlt]⟩
    obtain ⟨va,vk,c0,c1,c2,c3,hat,hkt⟩:=hcc k t ht;obtain ⟨aa,ac,rfl⟩:=hat.shape;obtain ⟨ka,kc,rfl,_,hkm⟩:=qb.shape n hkt;have hbl:b<w.heap.size:=World.block_lt_of_cell? w _ c0;rw[←hB.cell (p:=⟨b,o+k*4,none⟩) hbl]at c0
    rw[←hB.cell (p:=⟨b,o+k*4+1,none⟩) hbl]at c1
    rw[←hB.cell (p:=⟨b,o+k*4+2,none⟩) hbl]at c2
    rw[←hB.cell (p:=⟨b,o+k*4+3,none⟩) hbl]at c3
    have hblr:b<wr.heap.size:=by omega
    have hdr:ts.drop k=t::ts.drop (k+1):=by
     rw[List.drop_eq_getElem_cons hlt];congr 1;simpa[hlt] using ht
    have HP:Hid (qG ts (k+1)=t.text):=Qm ht;obtain ⟨hts,hta,htk⟩:=HTx.out t (List.mem_of_getElem? ht);rw[hdr]at hrg
    have HR:Hid (rgt (n+1) ts=(qu t&&!(qG ts k&&t.text)&&(t.text||rgt n t.kids)&&rgL (rgt n) t.text (ts.drop (k+1)))):=hrg
    have HA:Hid (qe S w (.slice aa t.attrs.length ac) t.attrs):=hat;have HK:Hid (qb S w n (.slice ka t.kids.length kc) t.kids):=hkt;have HTA:Hid (∀ x∈t.attrs,x.1.size≤maxLen∧x.2.size≤maxLen):=hta;have HTK:Hid (TexN n t.kids):=htk;clear h4 hcc ht hdr hrg hat hkt hta htk;unfold maxLen at hkm
    cases htt:t.text with
    | true =>
      rw[htt]at c0
      have HPn:Hid (qG ts (k+1)=true):=HP.out.trans htt;have hB1:Below w.heap.size w (wr.alloc (.cells #[.bool true,.string t.s,.slice aa t.attrs.length ac,.slice ka t.kids.length kc] 25)):=hB.alloc hsz _;have hX1:=jU.start wr (.bool true) (.string t.s) (.slice aa t.attrs.length ac) (.slice ka t.kids.length kc) 25;cases hpt:qG ts k with
      | true =>
        have HF:Hid (rgt (n+1) ts=false):=by show _=_;rw[HR.out,htt,hpt];simp
        clear HR HP htt;go_wp2_with fail;go_ret;exact ⟨by rw[HF.out];rfl,hB1⟩
      | false =>
        cases he:t.s.toList.isEmpty with
        | true =>
          have HF:Hid (rgt (n+1) ts=false):=by show _=_;rw[HR.out,htt];simp[qu,htt,he]
          clear HR HP htt;go_wp2_with fail;go_ret;exact ⟨by rw[HF.out];rfl,hB1⟩
        | false =>
          have HR2:Hid (rgt (n+1) ts=(qO t.s&&decide (t.attrs.length=0)&&decide (t.kids.length=0)&&rgL (rgt n) true (ts.drop (k+1)))):=by
           show _=_;rw[HR.out,hpt,htt];simp[qu,htt,he]
          clear HR HP htt;go_wp2_with fail
          generalize wr.alloc (.cells #[.bool true,.string t.s,.slice aa t.attrs.length ac,.slice ka t.kids.length kc] 25)=W1 at hB1 hX1 ⊢
          refine (xh t.s W1 hts).mono ?_;rintro e W2 ⟨rfl,hb2⟩;have hX2:=hX1.later hb2 hX1.lt;have hB2:Below w.heap.size w W2:=hB1.trans (hb2.mono hB1.size);have f0:=hX2.at0;have f2:=hX2.at2;have f3:=hX2.at3;cases hp:qO t.s with
          | false =>
            have HF:Hid (rgt (n+1) ts=false):=by show _=_;rw[HR2.out,hp];simp
            clear HR2;go_wp2_with fail;go_ret;exact ⟨by rw[HF.out];rfl,hB2⟩
          | true =>
            by_cases hal:t.attrs.length=0
            · have hal' : ((t.attrs.length : Int) != 0) = false := by simp[hal]
              have HL:Hid (t.attrs.length=0):=hal;clear hal
              by_cases hkl:t.kids.length=0
              · have hkl' : ((t.kids.length : Int) != 0) = false := by simp[hkl]
                have HF:Hid (rgt (n+1) ts=rgL (rgt n) true (ts.drop (k+1))):=by show _=_;rw[HR2.out,hp,HL.out,hkl];simp
                clear HR2 hkl;go_wp2_with fail
                go_roundg (ts.length-(k+1))
                case measure => omega
                case rel => exact ⟨k+1,by omega,by rw[HPn.out],by go_num,by rw[HPn.out];exact HF.out,hB2⟩
              · have hkl' : ((t.kids.length : Int) != 0) = true := by rw[bne_iff_ne];omega
                have HF:Hid (rgt (n+1) ts=false):=by show _=_;rw[HR2.out];simp[hkl]
                clear HR2 hkl;go_wp2_with fail;go_ret;exact ⟨by rw[HF.out];rfl,hB2⟩
            · have hal' : ((t.attrs.length : Int) != 0) = true := by rw[bne_iff_ne];omega
              have HF:Hid (rgt (n+1) ts=false):=by show _=_;rw[HR2.out];simp[hal]
              clear HR2 hal;go_wp2_with fail;go_ret;exact ⟨by rw[HF.out];rfl,hB2⟩
    | false =>
      rw[htt]at c0
      have HPn:Hid (qG ts (k+1)=false):=HP.out.trans htt
      have HR2:Hid (rgt (n+1) ts=(qN t.s&&qW t.attrs&&rgt n t.kids&&rgL (rgt n) false (ts.drop (k+1)))):=by
       show _=_;rw[HR.out,htt];simp[qu,htt]
      have hB1:Below w.heap.size w (wr.alloc (.cells #[.bool false,.string t.s,.slice aa t.attrs.length ac,.slice ka t.kids.length kc] 25)):=hB.alloc hsz _;have hX1:=jU.start wr (.bool false) (.string t.s) (.slice aa t.attrs.length ac) (.slice ka t.kids.length kc) 25;clear HR HP htt;go_wp2_with fail
      generalize wr.alloc (.cells #[.bool false,.string t.s,.slice aa t.attrs.length ac,.slice ka t.kids.length kc] 25)=W1 at hB1 hX1 ⊢
      refine (xP t.s W1 (by omega)).mono ?_
      rintro e W2 ⟨rfl,hb2⟩;have hX2:=hX1.later hb2 hX1.lt;have hB2:Below w.heap.size w W2:=hB1.trans (hb2.mono hB1.size);have f2:=hX2.at2;cases hn:qN t.s with
      | false =>
        have HF:Hid (rgt (n+1) ts=false):=by show _=_;rw[HR2.out,hn];simp
        clear HR2;go_wp2_with fail;go_ret;exact ⟨by rw[HF.out];rfl,hB2⟩
      | true =>
        go_wp2_with fail;refine (ZJ S _ t.attrs W2 (HA.out.later hB2) HTA.out).mono ?_;rintro e W3 ⟨rfl,hb3⟩;have hX3:=hX2.later hb3 hX2.lt;have hB3:Below w.heap.size w W3:=hB2.trans (hb3.mono hB2.size);have g3:=hX3.at3;cases ha:qW t.attrs with
        | false =>
          have HF:Hid (rgt (n+1) ts=false):=by show _=_;rw[HR2.out,ha];simp
          clear HR2;go_wp2_with fail;go_ret;exact ⟨by rw[HF.out];rfl,hB3⟩
        | true =>
          go_wp2_with fail;refine (H.out S _ t.kids W3 (qb.later hB3 n HK.out) HTK.out).mono ?_;rintro e W4 ⟨rfl,hb4⟩;have hX4:=hX3.later hb4 hX3.lt;have hB4:Below w.heap.size w W4:=hB3.trans (hb4.mono hB3.size);have i0:=hX4.at0;cases hr:rgt n t.kids with
          | false =>
            have HF:Hid (rgt (n+1) ts=false):=by show _=_;rw[HR2.out,hr];simp
            clear HR2;go_wp2_with fail;go_ret;exact ⟨by rw[HF.out];rfl,hB4⟩
          | true =>
            have HF:Hid (rgt (n+1) ts=rgL (rgt n) false (ts.drop (k+1))):=by show _=_;rw[HR2.out,hn,ha,hr];simp
            clear HR2;go_wp2_with fail
            go_roundg (ts.length-(k+1))
            case measure => omega
            case rel => exact ⟨k+1,by omega,by rw[HPn.out],by go_num,by rw[HPn.out];exact HF.out,hB4⟩
  · have hd : ts.drop k = [] := List.drop_eq_nil_of_le (by omega)
    rw[hd]at hrg
    have HR:Hid (rgt (n+1) ts=true):=hrg;clear hrg hd;go_wp2_with fail;go_ret;exact ⟨by rw[HR.out];rfl,hB⟩
theorem JK (n:Nat):jD n:=by
 induction n with
 | zero=>exact right_zero
 | succ n ih=>exact YN n ih
end Go.Proofs.YtfdbipeidmpciaaDoor
