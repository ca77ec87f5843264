/- Attributes sorted by name, as slices.SortFunc sorts them: what is sorted, and what stays as it was. No condition. -/
import Derived.Test.YtfplhcicbbhljaaGreatDoorBundle03
import Derived.Shelf.SlSortCmp.WholeK
namespace Go.Proofs.YtfplhcicbbhljaaGreatDoor
open Go.Sort
set_option maxRecDepth 100000
def JD (x y:List UInt8 × List UInt8):Int:=Lib.compareBytes x.1 y.1
theorem cmp_lt:∀ a b:List UInt8,decide (Lib.compareBytes a b<0)=decide (a<b):=by
 intro a
 induction a with
 | nil =>
   intro b;cases b with
   | nil=>simp[Lib.compareBytes]
   | cons d b=>simp[Lib.compareBytes]
 | cons c a ih =>
   intro b;cases b with
   | nil=>simp[Lib.compareBytes]
   | cons d b =>
     rw[Lib.compareBytes,decide_eq_decide]
     by_cases h1:c<d
     · simp[h1,List.cons_lt_cons_iff]
     · by_cases h2 : d < c
       · have h3 : ¬ c = d := by intro e;subst e;exact h1 h2
         simp[h1,h2,h3,List.cons_lt_cons_iff]
       · have h3 : c = d := UInt8.le_antisymm (UInt8.not_lt.1 h2) (UInt8.not_lt.1 h1);subst h3;have:=ih b;rw[decide_eq_decide]at this
         simp[this]
theorem less_lt:∀ a b:List UInt8,Op.bytesLess a b=decide (a<b):=by
 intro a
 induction a with
 | nil =>
   intro b;cases b with
   | nil=>simp[Op.bytesLess]
   | cons d b=>simp[Op.bytesLess]
 | cons c a ih =>
   intro b;cases b with
   | nil=>simp[Op.bytesLess]
   | cons d b =>
     rw[Op.bytesLess,ih b]
     by_cases h1:c<d
     · simp[h1,List.cons_lt_cons_iff]
     · by_cases h3 : c = d
       · subst h3;simp
       · simp[h1,h3,List.cons_lt_cons_iff]
theorem qeU (x y:List UInt8 × List UInt8):ltOf JD x y=decide (x.1<y.1):=cmp_lt x.1 y.1
theorem swoA:SWO (ltOf JD) where
 irrefl x:=by rw[qeU];simp[List.lt_irrefl]
 trans x y z h1 h2:=by rw[qeU]at *;simp only[decide_eq_true_eq]at *;exact List.lt_trans h1 h2
 ntrans x y z h1 h2:=by
  rw[qeU]at *
  simp only[decide_eq_false_iff_not,List.not_lt]at *
  exact List.le_trans h2 h1
def sortA (l:List (List UInt8 × List UInt8)):List (List UInt8 × List UInt8):=(pdq (ltOf JD) l.toArray 0 l.length (Lib.bitLen l.length) true true).toList
theorem Yh (l:List (List UInt8 × List UInt8)):PermIn 0 l.toArray.size l.toArray (sortA l).toArray∧SortedIn (ltOf JD) 0 l.toArray.size (sortA l).toArray:=by
 have:=pdq_sorts (ltOf JD) swoA l.toArray 0 l.toArray.size (Lib.bitLen l.length) true true (Nat.zero_le _) (Nat.le_refl _) (Or.inl rfl)
 simpa[sortA] using this
theorem xi (l:List (List UInt8 × List UInt8)):(sortA l).Perm l:=by
 obtain ⟨⟨h1,_,h3⟩,_⟩:=Yh l;have e1:(sortA l).toArray.extract 0 l.toArray.size=(sortA l).toArray:=by rw[←h1];exact Array.extract_size
 rw[e1,Array.extract_size]at h3
 simpa using h3
theorem ji (l:List (List UInt8 × List UInt8)):(sortA l).length=l.length:=(xi l).length_eq
theorem Kk (l:List (List UInt8 × List UInt8)):(sortA l).Pairwise fun x y=>x.1≤y.1:=by
 obtain ⟨⟨h1,_,_⟩,h4⟩:=Yh l;rw[List.pairwise_iff_getElem];intro i j hi hj hij;have:=h4 i j (Nat.zero_le _) hij (by rw[←h1];simpa using hj)
 rw[getElem!_pos _ j (by simpa using hj),getElem!_pos _ i (by simpa using hi),qeU]at this
 simpa[List.not_lt] using this
theorem qdR {l:List (List UInt8 × List UInt8)}(h:l.Pairwise fun x y=>x.1<y.1):∀ a∈l,∀ b∈l,a.1=b.1→a=b:=by
 induction l with
 | nil=>intro a ha;simp at ha
 | cons x r ih =>
   rw[List.pairwise_cons]at h
   intro a ha b hb e;rw[List.mem_cons]at ha hb
   rcases ha with rfl|ha
   · rcases hb with rfl | hb
     · rfl
     · have:=h.1 b hb;rw[e]at this;exact absurd this (List.lt_irrefl _)
   · rcases hb with rfl | hb
     · have:=h.1 a ha;rw[e]at this;exact absurd this (List.lt_irrefl _)
     · exact ih h.2 a ha b hb e
end Go.Proofs.YtfplhcicbbhljaaGreatDoor
