/- topiarykeep.told: all texts of a forest, one behind the other. Condition: at most 2^20 letters in all. -/
import Derived.Test.YtfdbipeidmpciaaMath
namespace Go.Proofs.Ytfdbipeidmpciaa
open Go.ChangeShapes Go.WideShapes Go.ChangeAt Go.RowKit
set_option maxRecDepth 100000
def tell:Nat→List Tr→List UInt8
 | 0,_=>[]
 | n+1,ts=>ts.flatMap fun t=>(if t.text then t.s.data.toList else [])++tell n t.kids
def yo (n:Nat):Prop:=∀ (S:Nat→Prop)(v:Value)(ts:List Tr)(w:World),qa S w n v ts→(tell n ts).length≤1048576 →
 Calls Try.prog 14 #[v] w fun e w'=>e=.returned (.string (sOf (tell n ts)))∧Below w.heap.size w w'
theorem told_zero:yo 0:=by
 intro S v ts w h _;obtain ⟨rfl,a,cap,rfl,_⟩:=h
 go_enter Try.func14,Try.ntmps14
 go_wp2_with fail;go_rounds 1;go_ret;exact ⟨rfl,Below.refl _ _⟩
theorem xW (n:Nat)(h:yo n):yo (n+1):=by
 intro S v ts w h1 hl;have H:Hid (yo n):=h;clear h;obtain ⟨a,cap,rfl,_,hm,h4⟩:=h1;unfold maxLen at hm
 go_enter Try.func14,Try.ntmps14
 go_wp2_with fail
 go_loopg [8,3] ts.length (fun g i s wr=>∃ k:Nat,k+g=ts.length∧i=.int .i64 k∧s=.string (sOf (tell (n+1) (ts.take k)))∧Below w.heap.size w wr)
 case atStart => exact ⟨0,by omega,rfl,rfl,Below.refl _ _⟩
 case round =>
  obtain ⟨k,hk,rfl,rfl,hB⟩:=hrel
  by_cases hlt:k<ts.length
  · have hne : ts ≠ [] := by intro e;subst e;simp at hlt
    obtain ⟨b,o,rfl,hs,hcc⟩:=h4 hne;obtain ⟨t,ht⟩:∃ t,ts[k]?=some t:=⟨ts[k],by simp[hlt]⟩
    obtain ⟨va,vk,c0,c1,c2,c3,hat,hkt⟩:=hcc k t ht;obtain ⟨aa,ac,rfl⟩:=hat.shape;obtain ⟨ka,kc,rfl,_,_⟩:=qa.shape n hkt;have hbl:b<w.heap.size:=World.block_lt_of_cell? w _ c0;rw[←hB.cell (p:=⟨b,o+k*4,none⟩) hbl]at c0
    rw[←hB.cell (p:=⟨b,o+k*4+1,none⟩) hbl]at c1
    rw[←hB.cell (p:=⟨b,o+k*4+2,none⟩) hbl]at c2
    rw[←hB.cell (p:=⟨b,o+k*4+3,none⟩) hbl]at c3
    have hsn:ts.take (k+1)=ts.take k++[t]:=by
     rw[List.take_succ_eq_append_getElem hlt];congr 2;simpa[hlt] using ht
    have HS:Hid (tell (n+1) (ts.take (k+1))=tell (n+1) (ts.take k)++((if t.text then t.s.data.toList else [])++tell n t.kids)):=by
     show _=_
     rw[hsn];simp[tell]
    have hall:tell (n+1) ts=tell (n+1) (ts.take (k+1))++tell (n+1) (ts.drop (k+1)):=by
     show tell (n+1) ts=_
     conv=>lhs;rw[←List.take_append_drop (k+1) ts]
     simp only[tell,List.flatMap_append]
    have hlen:(tell (n+1) (ts.take k)).length+(if t.text then t.s.data.toList else []).length+(tell n t.kids).length≤1048576:=by
     rw[hall,HS.out]at hl
     simp only[List.length_append]at hl
     omega
    clear hcc h4 ht hsn hall;obtain ⟨L,hL⟩:∃ L,tell (n+1) (ts.take k)=L:=⟨_,rfl⟩;rw[hL]at hlen ⊢
    have HL:Hid (tell (n+1) (ts.take k)=L):=hL;clear hL;cases htx:t.text with
    | true =>
      rw[htx]at c0
      simp only[htx,if_true]at hlen
      have hsz:(sOf L).size+t.s.size≤1048576:=by
       rw[zf,qG t.s];omega
      go_wp2_with fail;rw[show sOf L++t.s=sOf (L++t.s.data.toList) from by rw[←zm,zH]]
      obtain ⟨M,hM⟩:∃ M,L++t.s.data.toList=M:=⟨_,rfl⟩
      have hszM:(sOf M).size+(sOf (tell n t.kids)).size≤1048576:=by
       rw[zf,zf,←hM,List.length_append];omega
      rw[hM];have HM:Hid (L++t.s.data.toList=M):=hM;clear hM;refine (H.out S _ t.kids _ (qa.later (hB.alloc hB.size _) n hkt) (by omega)).mono ?_
      rintro e w1 ⟨rfl,hb1⟩;go_wp2_with fail
      go_roundg (ts.length-(k+1))
      case measure => omega
      case rel =>
       refine ⟨k+1,by omega,by go_num,?_,(hB.alloc hB.size _).trans (hb1.mono (by have:=hB.size;simp;omega))⟩
       rw[zm,HS.out,HL.out,←HM.out,if_pos htx,List.append_assoc]
    | false =>
      rw[htx]at c0
      simp only[htx]at hlen
      have hszM:(sOf L).size+(sOf (tell n t.kids)).size≤1048576:=by
       rw[zf,zf];omega
      go_wp2_with fail;refine (H.out S _ t.kids _ (qa.later (hB.alloc hB.size _) n hkt) (by omega)).mono ?_
      rintro e w1 ⟨rfl,hb1⟩;go_wp2_with fail
      go_roundg (ts.length-(k+1))
      case measure => omega
      case rel =>
       refine ⟨k+1,by omega,by go_num,?_,(hB.alloc hB.size _).trans (hb1.mono (by have:=hB.size;simp;omega))⟩
       rw[zm,HS.out,HL.out,if_neg (by simp[htx]),List.nil_append]
  · have hkk : k = ts.length := by omega
    subst hkk;rw[List.take_length];go_wp2_with fail;go_ret;exact ⟨rfl,hB⟩
theorem yF (n:Nat):yo n:=by
 induction n with
 | zero=>exact told_zero
 | succ n ih=>exact xW n ih
end Go.Proofs.Ytfdbipeidmpciaa
