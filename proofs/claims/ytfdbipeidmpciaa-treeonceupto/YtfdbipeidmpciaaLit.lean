/- tree.Good, for every tree, and four trees written out. Condition: texts of at most 2^63 letters, which every text has. -/
import Derived.Test.YtfdbipeidmpciaaOnceM
namespace Go.Proofs.Ytfdbipeidmpciaa
open Go.ChangeShapes Go.WideShapes Go.ChangeAt Go.RowKit
set_option maxRecDepth 100000
theorem qa.of_block {S:Nat→Prop}{w:World}{n g len cap:Nat}{cs:Array Value}{e:TypeId}{fz:Nat × Nat}{ts:List Tr}{qs:List (Bool × ByteArray × Value × Value)}(hh:w.heap[g]?=some (.cells cs e fz))(hcs:cs.toList=quadCells qs)(hl:len=ts.length)(hq:qs.length=ts.length)(hc:len≤cap)(hm:cap≤maxLen)
 (he:∀ (i:Nat) (q:Bool × ByteArray × Value × Value) (t:Tr),qs[i]?=some q→ts[i]?=some t→q.1=t.text∧q.2.1=t.s∧qc S w q.2.2.1 t.attrs∧qa S w n q.2.2.2 t.kids) :
 qa (fun b=>S b∨b=g) w (n+1) (.slice (some ⟨g,0,none⟩) len cap) ts:=by
 subst hl;refine ⟨_,_,rfl,hc,hm,fun _=>⟨g,0,rfl,Or.inr rfl,fun i t ht=>?_⟩⟩
 have hi:i<ts.length:=by
  rcases Nat.lt_or_ge i ts.length with h|h
  · exact h
  · rw[List.getElem?_eq_none h]at ht;cases ht
 obtain ⟨q,hqi⟩:∃ q,qs[i]?=some q:=⟨qs[i]'(by omega),by simp[hq,hi]⟩
 obtain ⟨a,b,c,d⟩:=he i q t hqi ht;obtain ⟨g0,g1,g2,g3⟩:=qP qs i q hqi
 have hcell:∀ j,w.cell? ⟨g,j,none⟩=(quadCells qs)[j]?:=by
  intro j;rw[cH9 hh,←hcs];simp
 refine ⟨q.2.2.1,q.2.2.2,?_,?_,?_,?_,c.carry (fun b hb=>⟨Or.inl hb,rfl⟩),qa.carry (fun b hb=>⟨Or.inl hb,rfl⟩) n d⟩
 · rw[Nat.zero_add,hcell,g0,a]
 · rw[Nat.zero_add,hcell,g1,b]
 · rw[Nat.zero_add,hcell,g2]
 · rw[Nat.zero_add,hcell,g3]
def qD (t:Tr):Bool:=!t.text&&qU [t]
theorem qY (S:Nat→Prop)(n:Nat)(va vk:Value)(t:Tr)(w:World)(h:qc S w va t.attrs)(hk:qa S w n vk t.kids)(hx:TextsN (n+1) [t]) :
 Calls Try.prog 18 #[.agg #[.bool t.text,.string t.s,va,vk]] w fun e w'=>e=.returned (.bool (qD t))∧Below w.heap.size w w':=by
 obtain ⟨aa,ac,rfl⟩:=h.shape;obtain ⟨ka,kc,rfl,_,_⟩:=qa.shape n hk;cases htx:t.text with
 | true =>
   go_enter Try.func18,Try.ntmps18
   go_wp2_with fail;go_ret;exact ⟨by simp[qD,htx],Below.alloc1 _ _⟩
 | false =>
   go_enter Try.func18,Try.ntmps18
   go_wp2_with fail;have hb:∀ X Y,Below w.heap.size w ((w.alloc X).alloc Y):=fun X Y=>(Below.alloc1 w X).alloc (by simp) Y
   refine (yb (fun b=>S b∨b=w.heap.size+1) (n+1) _ [t] _ (qa.of_block (e:=29) (fz:=(0,0)) (qs:=[(false,t.s,.slice aa t.attrs.length ac,.slice ka t.kids.length kc)]) ?_ rfl rfl rfl (nR9 _) (by unfold maxLen;simp) ?_) hx).mono ?_
   · have := heap_alloc_new (w.alloc (.cells #[.bool false, .string t.s, .slice aa t.attrs.length ac, .slice ka t.kids.length kc] 29)) (.cells #[.bool false, .string t.s, .slice aa t.attrs.length ac, .slice ka t.kids.length kc] 29);rw[World.size_alloc]at this
     exact this
   · intro i q t' hq ht';cases i with
     | zero =>
       simp at hq ht'
       subst hq ht';exact ⟨htx.symm,rfl,h.later (hb _ _),qa.later (hb _ _) n hk⟩
     | succ i=>simp at ht'
   rintro e w1 ⟨rfl,hb1⟩;go_wp2_with fail;go_ret;exact ⟨by simp[qD,htx],(hb _ _).trans (hb1.mono (by simp;omega))⟩
def tA:Tr:=⟨false,⟨#[97]⟩,[],[]⟩
def tNone:Tr:=⟨false,⟨#[]⟩,[],[]⟩
def tFour:List Tr:=[⟨true,⟨#[97]⟩,[],[]⟩,⟨true,⟨#[]⟩,[],[]⟩,⟨true,⟨#[98]⟩,[],[]⟩,⟨false,⟨#[99]⟩,[],[]⟩]
theorem good_a:qD tA=true:=by decide
theorem good_none:qD tNone=false:=by decide
theorem join_four:qv 0 tFour=[⟨true,⟨#[97,98]⟩,[],[]⟩,⟨false,⟨#[99]⟩,[],[]⟩]:=by rfl
theorem small_four:Small 1 tFour:=by
 refine ⟨by decide,by decide,?_⟩
 intro t ht;simp[tFour]at ht
 rcases ht with rfl|rfl|rfl|rfl<;>exact ⟨by decide,by decide,trivial⟩
theorem yW {w:World}:∀ (i:Nat)(q:Bool × ByteArray × Value × Value)(t:Tr),([(true,⟨#[97]⟩,.slice none 0 0,.slice none 0 0),(true,⟨#[]⟩,.slice none 0 0,.slice none 0 0),(true,⟨#[98]⟩,.slice none 0 0,.slice none 0 0),(false,⟨#[99]⟩,.slice none 0 0,.slice none 0 0)]:List (Bool × ByteArray × Value × Value))[i]?=some q→tFour[i]?=some t →
 q.1=t.text∧q.2.1=t.s∧qc (fun _=>False) w q.2.2.1 t.attrs∧qa (fun _=>False) w 0 q.2.2.2 t.kids:=by
 intro i q t hq ht
 match i,hq,ht with
 | 0, hq, ht | 1, hq, ht | 2, hq, ht | 3, hq, ht =>
   simp[tFour]at hq ht
   subst hq ht;exact ⟨rfl,rfl,qc.nil,rfl,none,0,rfl,nZ9 _⟩
 | i+4,hq,_=>simp at hq
end Go.Proofs.Ytfdbipeidmpciaa
