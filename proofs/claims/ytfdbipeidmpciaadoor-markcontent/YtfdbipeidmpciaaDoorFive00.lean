/- Bundled: Base LikeM. What each says stands ahead of it. -/
import Derived.Handy
namespace Go.Proofs.YtfdbipeidmpciaaDoor
open Go.ChangeShapes Go.WideShapes Go.ChangeAt Go.RowKit
set_option maxRecDepth 100000
structure Tr where
 text:Bool
 s:ByteArray
 attrs:List (ByteArray × ByteArray)
 kids:List Tr
def qe (S:Nat→Prop)(w:World)(v:Value)(l:List (ByteArray × ByteArray)):Prop :=
  ∃ a cap, v = .slice a l.length cap ∧ l.length ≤ cap ∧ cap ≤ maxLen ∧
    (l≠[]→∃ b o,a=some ⟨b,o,none⟩∧S b∧∀ i x,l[i]?=some x →
      w.cell? ⟨b,o+i*2,none⟩=some (.string x.1)∧w.cell? ⟨b,o+i*2+1,none⟩=some (.string x.2))
def qb (S:Nat→Prop)(w:World):Nat→Value→List Tr→Prop
 | 0,v,ts=>ts=[]∧∃ a cap,v=.slice a 0 cap∧cap≤maxLen
 | n + 1, v, ts => ∃ a cap, v = .slice a ts.length cap ∧ ts.length ≤ cap ∧ cap ≤ maxLen ∧
   (ts≠[]→∃ b o,a=some ⟨b,o,none⟩∧S b∧∀ i t,ts[i]?=some t→∃ va vk,
    w.cell? ⟨b,o+i*4,none⟩=some (.bool t.text)∧w.cell? ⟨b,o+i*4+1,none⟩=some (.string t.s) ∧
    w.cell? ⟨b,o+i*4+2,none⟩=some va∧w.cell? ⟨b,o+i*4+3,none⟩=some vk ∧
    qe S w va t.attrs∧qb S w n vk t.kids)
theorem qe.carry {S S':Nat→Prop}{w w':World}{v:Value}{l:List (ByteArray × ByteArray)}(h:qe S w v l)
 (hw:∀ b,S b→S' b∧w'.heap[b]?=w.heap[b]?):qe S' w' v l:=by
 obtain ⟨a,cap,h1,h2,h3,h4⟩:=h;refine ⟨a,cap,h1,h2,h3,fun hne=>?_⟩
 obtain ⟨b,o,ha,hs,hc⟩:=h4 hne;refine ⟨b,o,ha,(hw b hs).1,fun i x hx=>?_⟩
 rw[World.cell?_of_block (a:=⟨b,o+i*2,none⟩) (hw b hs).2,World.cell?_of_block (a:=⟨b,o+i*2+1,none⟩) (hw b hs).2];exact hc i x hx
theorem qb.carry {S S':Nat→Prop}{w w':World}(hw:∀ b,S b→S' b∧w'.heap[b]?=w.heap[b]?) :
 ∀ (n:Nat) {v:Value} {ts:List Tr},qb S w n v ts→qb S' w' n v ts
 | 0,_,_,h=>h
 | n + 1, _, _, h => by
   obtain ⟨a,cap,h1,h2,h3,h4⟩:=h;refine ⟨a,cap,h1,h2,h3,fun hne=>?_⟩
   obtain ⟨b,o,ha,hs,hc⟩:=h4 hne;refine ⟨b,o,ha,(hw b hs).1,fun i t ht=>?_⟩
   obtain ⟨va,vk,c0,c1,c2,c3,ha',hk'⟩:=hc i t ht;refine ⟨va,vk,?_,?_,?_,?_,ha'.carry hw,qb.carry hw n hk'⟩
   · rw[World.cell?_of_block (a:=⟨b,o+i*4,none⟩) (hw b hs).2];exact c0
   · rw[World.cell?_of_block (a:=⟨b,o+i*4+1,none⟩) (hw b hs).2];exact c1
   · rw[World.cell?_of_block (a:=⟨b,o+i*4+2,none⟩) (hw b hs).2];exact c2
   · rw[World.cell?_of_block (a:=⟨b,o+i*4+3,none⟩) (hw b hs).2];exact c3
theorem qb.nil {S:Nat→Prop}{w:World}:∀ (n:Nat) {v:Value},(∃ a cap,v=.slice a 0 cap∧cap≤maxLen)→qb S w n v []
 | 0,_,h=>⟨rfl,h⟩
 | _+1,_,⟨a,cap,h1,h2⟩=>⟨a,cap,h1,Nat.zero_le _,h2,fun hne=>absurd rfl hne⟩
theorem qb.shape {S:Nat→Prop}{w:World}:∀ (n:Nat) {v:Value} {ts:List Tr},qb S w n v ts→∃ a cap,v=.slice a ts.length cap∧ts.length≤cap∧cap≤maxLen
 | 0,_,_,⟨h0,a,cap,h1,h2⟩=>⟨a,cap,by subst h0;exact h1,by subst h0;exact Nat.zero_le _,h2⟩
 | _+1,_,_,⟨a,cap,h1,h2,h3,_⟩=>⟨a,cap,h1,h2,h3⟩
theorem qb.deeper {S:Nat→Prop}{w:World}:∀ (n:Nat) {v:Value} {ts:List Tr},qb S w n v ts→qb S w (n+1) v ts
 | 0,_,_,⟨h0,h⟩=>by subst h0;exact qb.nil 1 h
 | n + 1, _, _, ⟨a, cap, h1, h2, h3, h4⟩ => by
   refine ⟨a,cap,h1,h2,h3,fun hne=>?_⟩
   obtain ⟨b,o,ha,hs,hc⟩:=h4 hne;refine ⟨b,o,ha,hs,fun i t ht=>?_⟩
   obtain ⟨va,vk,c0,c1,c2,c3,ha',hk'⟩:=hc i t ht;exact ⟨va,vk,c0,c1,c2,c3,ha',qb.deeper n hk'⟩
theorem qe.later {S:Nat→Prop}{w w':World}{v:Value}{l:List (ByteArray × ByteArray)}(h:qe S w v l)(hb:Below w.heap.size w w'):qe S w' v l:=by
 have h':qe (fun b=>S b∧b<w.heap.size) w v l:=by
  obtain ⟨a,cap,h1,h2,h3,h4⟩:=h;refine ⟨a,cap,h1,h2,h3,fun hne=>?_⟩
  obtain ⟨b,o,ha,hs,hc⟩:=h4 hne;refine ⟨b,o,ha,⟨hs,?_⟩,hc⟩;cases l with
  | nil=>exact absurd rfl hne
  | cons x r=>exact World.block_lt_of_cell? w _ (hc 0 x rfl).1
 exact h'.carry fun b hb'=>⟨hb'.1,hb.block b hb'.2⟩
theorem qb.later {S:Nat→Prop}{w w':World}(hb:Below w.heap.size w w'):∀ (n:Nat) {v:Value} {ts:List Tr},qb S w n v ts→qb S w' n v ts
 | 0,_,_,h=>h
 | n + 1, _, _, h => by
   obtain ⟨a,cap,h1,h2,h3,h4⟩:=h;refine ⟨a,cap,h1,h2,h3,fun hne=>?_⟩
   obtain ⟨b,o,ha,hs,hc⟩:=h4 hne;refine ⟨b,o,ha,hs,fun i t ht=>?_⟩
   obtain ⟨va,vk,c0,c1,c2,c3,ha',hk'⟩:=hc i t ht;have hlt:b<w.heap.size:=World.block_lt_of_cell? w _ c0;refine ⟨va,vk,?_,?_,?_,?_,ha'.later hb,qb.later hb n hk'⟩
   · rw[hb.cell (p:=⟨b,o+i*4,none⟩) hlt];exact c0
   · rw[hb.cell (p:=⟨b,o+i*4+1,none⟩) hlt];exact c1
   · rw[hb.cell (p:=⟨b,o+i*4+2,none⟩) hlt];exact c2
   · rw[hb.cell (p:=⟨b,o+i*4+3,none⟩) hlt];exact c3
theorem qe.bounded {S:Nat→Prop}{w:World}{v:Value}{l:List (ByteArray × ByteArray)}(h:qe S w v l):qe (fun b=>S b∧b<w.heap.size) w v l:=by
 obtain ⟨a,cap,h1,h2,h3,h4⟩:=h;refine ⟨a,cap,h1,h2,h3,fun hne=>?_⟩
 obtain ⟨b,o,ha,hs,hc⟩:=h4 hne;refine ⟨b,o,ha,⟨hs,?_⟩,hc⟩;cases l with
 | nil=>exact absurd rfl hne
 | cons x r=>exact World.block_lt_of_cell? w _ (hc 0 x rfl).1
theorem qb.bounded {S:Nat→Prop}{w:World}:∀ (n:Nat) {v:Value} {ts:List Tr},qb S w n v ts→qb (fun b=>S b∧b<w.heap.size) w n v ts
 | 0,_,_,h=>h
 | n + 1, _, ts, h => by
   obtain ⟨a,cap,h1,h2,h3,h4⟩:=h;refine ⟨a,cap,h1,h2,h3,fun hne=>?_⟩
   obtain ⟨b,o,ha,hs,hc⟩:=h4 hne;refine ⟨b,o,ha,⟨hs,?_⟩,fun i t ht=>?_⟩
   · cases ts with
     | nil=>exact absurd rfl hne
     | cons x r =>
       obtain ⟨_,_,c0,_⟩:=hc 0 x rfl;exact World.block_lt_of_cell? w _ c0
   · obtain ⟨va, vk, c0, c1, c2, c3, ha', hk'⟩ := hc i t ht;exact ⟨va,vk,c0,c1,c2,c3,ha'.bounded,qb.bounded n hk'⟩
theorem qe.nil {S:Nat→Prop}{w:World}:qe S w (.slice none 0 0) []:=⟨none,0,rfl,Nat.le_refl _,Nat.zero_le _,fun h=>absurd rfl h⟩
theorem qg {w:World}{a:Addr}{v:Value}(h:(w.cell? a).isSome=true):(w.setCell a v).cell? a=some v:=by
 obtain ⟨u,hu⟩:=Option.isSome_iff_exists.1 h;exact World.cell?_setCell_same _ _ _ hu
theorem Below.alloc1 (w:World)(o:Obj):Below w.heap.size w (w.alloc o):=(Below.refl _ w).alloc (Nat.le_refl _) o
def qY (B:Nat)(e:TypeId)(w:World)(b:Nat):Prop:=B≤b∧∃ c fz,w.heap[b]?=some (.cells c e fz)
theorem qY.lt {B:Nat}{e:TypeId}{w:World}{b:Nat}(h:qY B e w b):b<w.heap.size:=by
 obtain ⟨_,c,fz,hc⟩:=h
 rcases Nat.lt_or_ge b w.heap.size with h'|h'
 · exact h'
 · simp[Array.getElem?_eq_none h']at hc
theorem qY.to {B B':Nat}{e:TypeId}{w w':World}{b:Nat}(h:qY B e w b)(hB:B'≤B)(hh:w'.heap[b]?=w.heap[b]?):qY B' e w' b:=by
 obtain ⟨h1,c,fz,hc⟩:=h;exact ⟨by omega,c,fz,by rw[hh];exact hc⟩
def attrCells:List (ByteArray × ByteArray)→List Value
 | []=>[]
 | x::r=>.string x.1::.string x.2::attrCells r
theorem qL (l:List (ByteArray × ByteArray)):(attrCells l).length=l.length*2:=by
 induction l with
 | nil=>rfl
 | cons x r ih=>simp[attrCells,ih];omega
theorem z8 (l:List (ByteArray × ByteArray)):∀ i x,l[i]?=some x→(attrCells l)[i*2]?=some (.string x.1)∧(attrCells l)[i*2+1]?=some (.string x.2):=by
 induction l with
 | nil=>intro i x h;simp at h
 | cons y r ih =>
   intro i x h;cases i with
   | zero=>simp at h;subst h;simp[attrCells]
   | succ i =>
     have:=ih i x (by simpa using h)
     rw[show (i+1)*2=i*2+2 from by omega]
     simpa[attrCells] using this
theorem yb (l:List (ByteArray × ByteArray)):∀ u∈attrCells l,u.oneCell'=true:=by
 induction l with
 | nil=>intro u h;simp[attrCells]at h
 | cons x r ih =>
   intro u h;simp only[attrCells,List.mem_cons]at h
   rcases h with rfl|rfl|h
   · rfl
   · rfl
   · exact ih u h
theorem qe.cells {w:World}{b o:Nat}{l:List (ByteArray × ByteArray)}
 (hc:∀ i x,l[i]?=some x→w.cell? ⟨b,o+i*2,none⟩=some (.string x.1)∧w.cell? ⟨b,o+i*2+1,none⟩=some (.string x.2)) :
 ∀ j u,(attrCells l)[j]?=some u→w.cell? ⟨b,o+j,none⟩=some u:=by
 intro j u hj
 have hlt:j<(attrCells l).length:=by
  rcases Nat.lt_or_ge j (attrCells l).length with h|h
  · exact h
  · rw[List.getElem?_eq_none h]at hj;cases hj
 rw[qL]at hlt
 have hi:j / 2<l.length:=by omega
 obtain ⟨g0,g1⟩:=z8 l (j / 2) l[j / 2] (by simp[hi])
 obtain ⟨c0,c1⟩:=hc (j / 2) l[j / 2] (by simp[hi])
 by_cases hp:j % 2=0
 · have e : j = j / 2 * 2 := by omega
   rw[←e]at g0 c0
   rw[g0]at hj;rw[c0];exact hj
 · have e : j = j / 2 * 2 + 1 := by omega
   rw[←e]at g1
   rw[show o+j / 2*2+1=o+j from by omega]at c1
   rw[g1]at hj;rw[c1];exact hj
theorem qe.of_owns {w:World}{B:Nat}{e:TypeId}{v:Value}{l:List (ByteArray × ByteArray)}(h:w.ownsRow B e 2 v l.length (attrCells l)):qe (qY B e w) w v l:=by
 rcases h.2 with ⟨rfl,h0⟩|⟨g,cap,cur,rfl,hg,hh,hc,hm,hs,ht⟩
 · have : l = [] := List.eq_nil_of_length_eq_zero h0;subst this;exact ⟨none,0,rfl,Nat.le_refl _,Nat.zero_le _,fun hne=>absurd rfl hne⟩
 · refine ⟨_, cap, rfl, hc, hm, fun _ => ⟨g, 0, rfl, ⟨hg, _, _, hh⟩, fun i x hx => ?_⟩⟩
   have hi:i<l.length:=by
    rcases Nat.lt_or_ge i l.length with h'|h'
    · exact h'
    · rw[List.getElem?_eq_none h']at hx;cases hx
   obtain ⟨g0,g1⟩:=z8 l i x hx;rw[Nat.zero_add]
   constructor
   · rw[World.ownsRow.cellAt h (i*2) (by omega)];exact g0
   · rw[World.ownsRow.cellAt h (i*2+1) (by omega)];exact g1
def quadCells:List (Bool × ByteArray × Value × Value)→List Value
 | []=>[]
 | q::r=>.bool q.1::.string q.2.1::q.2.2.1::q.2.2.2::quadCells r
theorem yr (l:List (Bool × ByteArray × Value × Value)):(quadCells l).length=l.length*4:=by
 induction l with
 | nil=>rfl
 | cons x r ih=>simp[quadCells,ih];omega
theorem yq (l m:List (Bool × ByteArray × Value × Value)):quadCells (l++m)=quadCells l++quadCells m:=by
 induction l with
 | nil=>rfl
 | cons x r ih=>simp[quadCells,ih]
theorem yf (l:List (Bool × ByteArray × Value × Value)):∀ i x,l[i]?=some x→(quadCells l)[i*4]?=some (.bool x.1)∧(quadCells l)[i*4+1]?=some (.string x.2.1) ∧
 (quadCells l)[i*4+2]?=some x.2.2.1∧(quadCells l)[i*4+3]?=some x.2.2.2:=by
 induction l with
 | nil=>intro i x h;simp at h
 | cons y r ih =>
   intro i x h;cases i with
   | zero=>simp at h;subst h;simp[quadCells]
   | succ i =>
     have:=ih i x (by simpa using h)
     rw[show (i+1)*4=i*4+4 from by omega]
     simpa[quadCells] using this
end Go.Proofs.YtfdbipeidmpciaaDoor
namespace Go.Proofs.YtfdbipeidmpciaaDoor
set_option maxRecDepth 100000
theorem jI {a b:ByteArray}(h:a≠b):(a.toList==b.toList)=false:=by
 rw[ByteArray.toList_eq,ByteArray.toList_eq]
 apply beq_eq_false_iff_ne.2
 intro e
 apply h
 cases a;cases b;simp at e
 subst e;rfl
end Go.Proofs.YtfdbipeidmpciaaDoor
