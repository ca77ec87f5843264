/- The closed sentence 'trees' of the package topiarylaw is true. No condition. -/
import Derived.Test.YtfdbipeidmpciaaLit
namespace Go.Proofs.Ytfdbipeidmpciaa
open Go.ChangeShapes Go.WideShapes Go.ChangeAt Go.RowKit
set_option maxRecDepth 100000
theorem xi (w:World):Calls Try.prog 11 #[] w fun e w'=>e=.returned (.bool true)∧Below w.heap.size w w':=by
 go_enter Try.func11,Try.ntmps11
 go_wp2_with fail;refine (qZ (fun b=>False∨b=w.heap.size) 0 _ tFour _ (qa.of_block (qs:=[(true,⟨#[97]⟩,.slice none 0 0,.slice none 0 0),(true,⟨#[]⟩,.slice none 0 0,.slice none 0 0),(true,⟨#[98]⟩,.slice none 0 0,.slice none 0 0),(false,⟨#[99]⟩,.slice none 0 0,.slice none 0 0)]) (heap_alloc_new w _) rfl rfl rfl (nR9 _) (by unfold maxLen;decide) yW) small_four (by intro b hb;simp at hb;subst hb;simp) (by decide)).mono ?_
 rintro e w1 ⟨v1,rfl,hT,hb1⟩
 have hT':qa (fun b=>w.heap.size+1≤b) w1 1 v1 [⟨true,⟨#[97,98]⟩,[],[]⟩,⟨false,⟨#[99]⟩,[],[]⟩]:=by
  have:=hT;rw[show (jt tFour).map (jk 0)=_ from join_four,World.size_alloc]at this
  exact this
 obtain ⟨a1,c1,rfl,_,hm,h4⟩:=hT';obtain ⟨b,o,rfl,_,hc⟩:=h4 (by simp)
 obtain ⟨_,_,_,e1,_⟩:=hc 0 _ rfl;simp only[Nat.zero_mul,Nat.add_zero]at e1
 have hbl:b<w1.heap.size:=World.block_lt_of_cell? w1 _ e1;have hB1:Below w.heap.size w w1:=(Below.alloc1 w _).trans (hb1.mono (by simp))
 clear hc h4 hT;go_wp2_with fail;refine (qY (fun _=>True) 0 _ _ tA _ qc.nil ⟨rfl,none,0,rfl,nZ9 _⟩ ?_).mono ?_
 · intro t ht;simp at ht;subst ht;exact ⟨⟨by decide,by simp[tA]⟩,trivial⟩
 rintro e w2 ⟨rfl,hb2⟩;rw[good_a];have e2:w2.cell? ⟨b,o+1,none⟩=some (.string ⟨#[97,98]⟩):=by rw[hb2.cell (p:=⟨b,o+1,none⟩) hbl];exact e1
 have hbl2:b<w2.heap.size:=Nat.lt_of_lt_of_le hbl hb2.size;go_wp2_with fail;refine (qY (fun _=>True) 0 _ _ tNone _ qc.nil ⟨rfl,none,0,rfl,nZ9 _⟩ ?_).mono ?_
 · intro t ht;simp at ht;subst ht;exact ⟨⟨by decide,by simp[tNone]⟩,trivial⟩
 rintro e w3 ⟨rfl,hb3⟩;rw[good_none];have e3:w3.cell? ⟨b,o+1,none⟩=some (.string ⟨#[97,98]⟩):=by rw[hb3.cell (p:=⟨b,o+1,none⟩) hbl2];exact e2
 go_wp2_with fail;go_ret;exact ⟨rfl,(hB1.trans (hb2.mono hB1.size)).trans (hb3.mono (Nat.le_trans hB1.size hb2.size))⟩
end Go.Proofs.Ytfdbipeidmpciaa
