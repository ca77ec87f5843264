/- topiaryref.LineOf: strings.SplitN of a line, the kinds of its words. Condition: texts of at most 2^20 letters; the variable MaxLen holds a number. -/
import Derived.Test.YtfplhcicbbhljaaGreatDoorBundle30
namespace Go.Proofs.YtfplhcicbbhljaaGreatDoor
open Go.ChangeShapes Go.WideShapes Go.ChangeAt Go.RowKit
set_option maxRecDepth 100000
theorem qce {l:List ByteArray}{m:List (List UInt8)}(h:l.map (fun x=>x.data.toList)=m):l=m.map qa:=by
 rw[←h,List.map_map];exact (List.map_id'' (fun x=>by simp[qa]) l).symm
theorem qa3 (s:List UInt8)(W:World)(hm:xH W)(hs:s.length≤1048576) :
 Calls Tryz.prog 14 #[.string (qa s),.string ⟨#[32]⟩,.int .i64 3] W fun e w'=>∃ cap,e=.returned (.slice (some ⟨W.heap.size,0,none⟩) (zJ s).length cap)∧cap≤3∧(zJ s).length≤cap∧(∀ i x,(zJ s)[i]?=some x→w'.cell? ⟨W.heap.size,i,none⟩=some (.string (qa x)))∧W.heap.size<w'.heap.size∧Below W.heap.size W w':=by
 obtain ⟨m,hm⟩:=hm;have h:=Tryz.strings_SplitN (qa s) ⟨#[32]⟩ 3 m W (by rw[qe];omega) hm (by decide) (by decide) (by decide)
 rw[qe]at h
 have hd:=Lib.splitB_data ⟨#[32]⟩ 0 (min 3 (s.length+1)-1) (qa s);have e0:(⟨#[32]⟩:ByteArray).data.toList=[32]:=rfl;rw[zA,e0,VM]at hd
 have hp:=qce hd;have hl:=Lib.splitB_length_le ⟨#[32]⟩ 0 (min 3 (s.length+1)-1) (qa s);rw[hp]at h hl
 rw[List.length_map]at h hl
 refine h.mono ?_;rintro e w' ⟨rfl,rfl⟩;refine ⟨_,rfl,by omega,by omega,fun i x hx=>?_,by simp,Below.alloc1 W _⟩
 rw[cH9 (heap_alloc_new W _)];unfold Lib.cellsOf;have hi:=yx hx;rw[List.getElem?_toArray,List.getElem?_append_left (by simp;omega),List.getElem?_map,List.getElem?_map,hx]
 rfl
def kdF (w:List UInt8):Nat→Int
 | 0=>0
 | i+1=>if wordsL[i]?=some w then (i:Int)+1 else kdF w i
theorem qfD (w:List UInt8):kdF w 10=zq w:=by
 by_cases h0:w=[102,105,114,115,116]
 · subst h0;decide
 by_cases h1:w=[108,97,115,116]
 · subst h1;decide
 by_cases h2:w=[98,101,102,111,114,101]
 · subst h2;decide
 by_cases h3:w=[97,102,116,101,114]
 · subst h3;decide
 by_cases h4:w=[100,101,108,101,116,101]
 · subst h4;decide
 by_cases h5:w=[114,101,112,108,97,99,101]
 · subst h5;decide
 by_cases h6:w=[118,97,108,117,101]
 · subst h6;decide
 by_cases h7:w=[114,101,110,97,109,101]
 · subst h7;decide
 by_cases h8:w=[115,101,116]
 · subst h8;decide
 by_cases h9:w=[100,114,111,112]
 · subst h9;decide
 have hn:∀ i,i<10→wordsL[i]?≠some w:=by
  intro i hi e;have:w∈wordsL:=List.mem_of_getElem? e;simp only[wordsL,List.mem_cons,List.not_mem_nil,or_false]at this
  rcases this with h|h|h|h|h|h|h|h|h|h
  · exact h0 h
  · exact h1 h
  · exact h2 h
  · exact h3 h
  · exact h4 h
  · exact h5 h
  · exact h6 h
  · exact h7 h
  · exact h8 h
  · exact h9 h
 have hz:∀ i,i≤10→kdF w i=0:=by
  intro i
  induction i with
  | zero=>intro _;rfl
  | succ i ih=>intro hi;rw[kdF,if_neg (hn i (by omega)),ih (by omega)]
 rw[hz 10 (nR9 _)]
 have hk:∀ (l:List (List UInt8)) (k:Int),w∉l→kindAt l k w=0:=by
  intro l
  induction l with
  | nil=>intro k _;rfl
  | cons x l ih =>
    intro k hw;rw[List.mem_cons]at hw
    unfold kindAt;rw[if_neg (fun e=>hw (Or.inl e.symm)),ih _ (fun h=>hw (Or.inr h))]
 unfold zq;rw[hk];intro h;obtain ⟨i,hi⟩:=List.mem_iff_getElem?.1 h;exact hn i (yx hi) hi
end Go.Proofs.YtfplhcicbbhljaaGreatDoor
