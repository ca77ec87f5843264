/- Bundled: SortM SortL. What each says stands ahead of it. -/
import Derived.Test.YtfdbipeidmpciaaDoorMarkback13
import Derived.Shelf.SlSortCmp.WholeK
namespace Go.Proofs.YtfdbipeidmpciaaDoor
open Go.Sort
set_option maxRecDepth 100000
def Qd (x y:List UInt8 × List UInt8):Int:=Lib.compareBytes x.1 y.1
theorem cmp_lt:∀ a b:List UInt8,decide (Lib.compareBytes a b<0)=decide (a<b):=by
 intro a
 induction a with
 | nil =>
   intro b;cases b with
   | nil=>simp[Lib.compareBytes]
   | cons d b=>simp[Lib.compareBytes]
 | cons c a ih =>
   intro b;cases b with
   | nil=>simp[Lib.compareBytes]
   | cons d b =>
     rw[Lib.compareBytes,decide_eq_decide]
     by_cases h1:c<d
     · simp[h1,List.cons_lt_cons_iff]
     · by_cases h2 : d < c
       · have h3 : ¬ c = d := by intro e;subst e;exact h1 h2
         simp[h1,h2,h3,List.cons_lt_cons_iff]
       · have h3 : c = d := UInt8.le_antisymm (UInt8.not_lt.1 h2) (UInt8.not_lt.1 h1);subst h3;have:=ih b;rw[decide_eq_decide]at this
         simp[this]
theorem less_lt:∀ a b:List UInt8,Op.bytesLess a b=decide (a<b):=by
 intro a
 induction a with
 | nil =>
   intro b;cases b with
   | nil=>simp[Op.bytesLess]
   | cons d b=>simp[Op.bytesLess]
 | cons c a ih =>
   intro b;cases b with
   | nil=>simp[Op.bytesLess]
   | cons d b =>
     rw[Op.bytesLess,ih b]
     by_cases h1:c<d
     · simp[h1,List.cons_lt_cons_iff]
     · by_cases h3 : c = d
       · subst h3;simp
       · simp[h1,h3,List.cons_lt_cons_iff]
theorem XR (x y:List UInt8 × List UInt8):ltOf Qd x y=decide (x.1<y.1):=cmp_lt x.1 y.1
theorem swoA:SWO (ltOf Qd) where
 irrefl x:=by rw[XR];simp[List.lt_irrefl]
 trans x y z h1 h2:=by rw[XR]at *;simp only[decide_eq_true_eq]at *;exact List.lt_trans h1 h2
 ntrans x y z h1 h2:=by
  rw[XR]at *
  simp only[decide_eq_false_iff_not,List.not_lt]at *
  exact List.le_trans h2 h1
def sortA (l:List (List UInt8 × List UInt8)):List (List UInt8 × List UInt8):=(pdq (ltOf Qd) l.toArray 0 l.length (Lib.bitLen l.length) true true).toList
theorem xj (l:List (List UInt8 × List UInt8)):PermIn 0 l.toArray.size l.toArray (sortA l).toArray∧SortedIn (ltOf Qd) 0 l.toArray.size (sortA l).toArray:=by
 have:=pdq_sorts (ltOf Qd) swoA l.toArray 0 l.toArray.size (Lib.bitLen l.length) true true (Nat.zero_le _) (Nat.le_refl _) (Or.inl rfl)
 simpa[sortA] using this
theorem yC (l:List (List UInt8 × List UInt8)):(sortA l).Perm l:=by
 obtain ⟨⟨h1,_,h3⟩,_⟩:=xj l;have e1:(sortA l).toArray.extract 0 l.toArray.size=(sortA l).toArray:=by rw[←h1];exact Array.extract_size
 rw[e1,Array.extract_size]at h3
 simpa using h3
theorem zq (l:List (List UInt8 × List UInt8)):(sortA l).length=l.length:=(yC l).length_eq
theorem Zi (l:List (List UInt8 × List UInt8)):(sortA l).Pairwise fun x y=>x.1≤y.1:=by
 obtain ⟨⟨h1,_,_⟩,h4⟩:=xj l;rw[List.pairwise_iff_getElem];intro i j hi hj hij;have:=h4 i j (Nat.zero_le _) hij (by rw[←h1];simpa using hj)
 rw[getElem!_pos _ j (by simpa using hj),getElem!_pos _ i (by simpa using hi),XR]at this
 simpa[List.not_lt] using this
theorem Xs {l:List (List UInt8 × List UInt8)}(h:l.Pairwise fun x y=>x.1<y.1):∀ a∈l,∀ b∈l,a.1=b.1→a=b:=by
 induction l with
 | nil=>intro a ha;simp at ha
 | cons x r ih =>
   rw[List.pairwise_cons]at h
   intro a ha b hb e;rw[List.mem_cons]at ha hb
   rcases ha with rfl|ha
   · rcases hb with rfl | hb
     · rfl
     · have:=h.1 b hb;rw[e]at this;exact absurd this (List.lt_irrefl _)
   · rcases hb with rfl | hb
     · have:=h.1 a ha;rw[e]at this;exact absurd this (List.lt_irrefl _)
     · exact ih h.2 a ha b hb e
theorem Xy {l:List (List UInt8 × List UInt8)}(h:l.Pairwise fun x y=>x.1<y.1):sortA l=l:=by
 refine List.Perm.eq_of_pairwise (le:=fun x y=>x.1≤y.1) ?_ (Zi l) (h.imp fun h=>List.le_of_lt h) (yC l)
 intro a b ha hb h1 h2;exact Xs h a ((yC l).mem_iff.1 ha) b hb (List.le_antisymm h1 h2)
end Go.Proofs.YtfdbipeidmpciaaDoor
/-
  DERIVED: THE SHELF's CONTRACTS AT THIS DUMP, IN PLAIN WORDS (tools/lay-plain.mjs out of 'YtfdbipeidmpciaaDoorSortL.lean', which tools/lay-shelf.mjs wrote): THE SAME DECLARATIONS UNDER THE SAME NAMES: 'import', 'namespace', 'open', 'def', 'theorem' AND NOTHING ELSE: no command of the shelf's: FOR A HAND-IN. Each laying: the table of numbers ('.._ren') and one theorem, a field a fact of the dump's own or the kernel's comparison; each contract: ONE APPLICATION.
-/
namespace Go.Proofs
open Go.Shelf
def Tryd.sortA_ren:Go.Shelf.Ren:=⟨fun|6=>126|15=>152|14=>151|28=>175|29=>176|20=>167|21=>168|22=>169|23=>170|24=>171|25=>172|26=>173|27=>174|46=>187|47=>188|48=>189|49=>190|50=>191|57=>199|n=>n,fun|22=>22|24=>69|25=>163|3=>3|39=>176|0=>0|53=>194|55=>196|4=>4|46=>188|45=>187|50=>144|5=>5|9=>9|66=>204|70=>84|76=>220|77=>27|n=>n,fun|n=>n⟩
theorem Tryd.sortA:Go.Proofs.SlLaysF0.n6 Tryd.prog Tryd.sortA_ren:={
 mixed:=by kernel_rfl
 f6:=⟨Tryd.f126.name,by decide,Tryd.func126.trans (congrArg some (by kernel_rfl))⟩
 f14:=⟨Tryd.f151.name,by decide,Tryd.func151.trans (congrArg some (by kernel_rfl))⟩
 f15:=Tryd.func152.trans (congrArg some (by kernel_rfl))
 f20:=⟨Tryd.f167.name,by decide,Tryd.func167.trans (congrArg some (by kernel_rfl))⟩
 f21:=⟨Tryd.f168.name,by decide,Tryd.func168.trans (congrArg some (by kernel_rfl))⟩
 f22:=⟨Tryd.f169.name,by decide,Tryd.func169.trans (congrArg some (by kernel_rfl))⟩
 f23:=⟨Tryd.f170.name,by decide,Tryd.func170.trans (congrArg some (by kernel_rfl))⟩
 f24:=⟨Tryd.f171.name,by decide,Tryd.func171.trans (congrArg some (by kernel_rfl))⟩
 f25:=⟨Tryd.f172.name,by decide,Tryd.func172.trans (congrArg some (by kernel_rfl))⟩
 f26:=⟨Tryd.f173.name,by decide,Tryd.func173.trans (congrArg some (by kernel_rfl))⟩
 f27:=⟨Tryd.f174.name,by decide,Tryd.func174.trans (congrArg some (by kernel_rfl))⟩
 f28:=Tryd.func175.trans (congrArg some (by kernel_rfl))
 f29:=Tryd.func176.trans (congrArg some (by kernel_rfl))
 f46:=⟨Tryd.f187.name,by decide,Tryd.func187.trans (congrArg some (by kernel_rfl))⟩
 f47:=Tryd.func188.trans (congrArg some (by kernel_rfl))
 f48:=Tryd.func189.trans (congrArg some (by kernel_rfl))
 f49:=⟨Tryd.f190.name,by decide,Tryd.func190.trans (congrArg some (by kernel_rfl))⟩
 f50:=⟨Tryd.f191.name,by decide,Tryd.func191.trans (congrArg some (by kernel_rfl))⟩
 f57:=⟨Tryd.f199.name,by decide,Tryd.func199.trans (congrArg some (by kernel_rfl))⟩
 t0:=Tryd.underlying0
 a0:=Tryd.isAgg0
 z0:=Tryd.sizeOf0
 v0:=Tryd.zeroValue0
 t3:=Tryd.underlying3
 a3:=Tryd.isAgg3
 z3:=Tryd.sizeOf3
 v3:=Tryd.zeroValue3
 t4:=Tryd.underlying4
 a4:=Tryd.isAgg4
 z4:=Tryd.sizeOf4
 v4:=Tryd.zeroValue4
 t5:=Tryd.underlying5
 a5:=Tryd.isAgg5
 z5:=Tryd.sizeOf5
 v5:=Tryd.zeroValue5
 t9:=Tryd.underlying9
 a9:=Tryd.isAgg9
 z9:=Tryd.sizeOf9
 v9:=Tryd.zeroValue9
 t22:=Tryd.underlying22
 a22:=Tryd.isAgg22
 z22:=Tryd.sizeOf22
 v22:=Tryd.zeroValue22
 t25:=Tryd.underlying163
 a25:=Tryd.isAgg163
 z25:=Tryd.sizeOf163
 v25:=Tryd.zeroValue163
 t39:=Tryd.underlying176
 a39:=Tryd.isAgg176
 z39:=Tryd.sizeOf176
 v39:=Tryd.zeroValue176
 t45:=Tryd.underlying187
 a45:=Tryd.isAgg187
 z45:=Tryd.sizeOf187
 v45:=Tryd.zeroValue187
 t46:=Tryd.underlying188
 a46:=Tryd.isAgg188
 z46:=Tryd.sizeOf188
 v46:=Tryd.zeroValue188
 t50:=Tryd.underlying144
 a50:=Tryd.isAgg144
 z50:=Tryd.sizeOf144
 v50:=Tryd.zeroValue144
 t53:=Tryd.underlying194
 a53:=Tryd.isAgg194
 z53:=Tryd.sizeOf194
 v53:=Tryd.zeroValue194
 t55:=Tryd.underlying196
 a55:=Tryd.isAgg196
 z55:=Tryd.sizeOf196
 v55:=Tryd.zeroValue196
 t66:=Tryd.underlying204
 a66:=Tryd.isAgg204
 z66:=Tryd.sizeOf204
 v66:=Tryd.zeroValue204
 t70:=Tryd.underlying84
 a70:=Tryd.isAgg84
 z70:=Tryd.sizeOf84
 v70:=Tryd.zeroValue84
 t76:=Tryd.underlying220
 a76:=Tryd.isAgg220
 z76:=Tryd.sizeOf220
 v76:=Tryd.zeroValue220
 t77:=Tryd.underlying27
 a77:=Tryd.isAgg27
 z77:=Tryd.sizeOf27
 v77:=Tryd.zeroValue27 }
end Go.Proofs
