/- Bundled: SortM SortL. What each says stands ahead of it. -/
import Derived.Test.YtkbhckhbgalaoaaGreatDoorBundle03
import Derived.Shelf.SlSortCmp.WholeK
namespace Go.Proofs.YtkbhckhbgalaoaaGreatDoor
open Go.Sort
set_option maxRecDepth 100000
def x5 (x y:List UInt8 × List UInt8):Int:=Lib.compareBytes x.1 y.1
theorem cmp_lt:∀ a b:List UInt8,decide (Lib.compareBytes a b<0)=decide (a<b):=by
 intro a
 induction a with
 | nil =>
   intro b;cases b with
   | nil=>simp[Lib.compareBytes]
   | cons d b=>simp[Lib.compareBytes]
 | cons c a ih =>
   intro b;cases b with
   | nil=>simp[Lib.compareBytes]
   | cons d b =>
     rw[Lib.compareBytes,decide_eq_decide]
     by_cases h1:c<d
     · simp[h1,List.cons_lt_cons_iff]
     · by_cases h2 : d < c
       · have h3 : ¬ c = d := by intro e;subst e;exact h1 h2
         simp[h1,h2,h3,List.cons_lt_cons_iff]
       · have h3 : c = d := UInt8.le_antisymm (UInt8.not_lt.1 h2) (UInt8.not_lt.1 h1);subst h3;have:=ih b;rw[decide_eq_decide]at this
         simp[this]
theorem less_lt:∀ a b:List UInt8,Op.bytesLess a b=decide (a<b):=by
 intro a
 induction a with
 | nil =>
   intro b;cases b with
   | nil=>simp[Op.bytesLess]
   | cons d b=>simp[Op.bytesLess]
 | cons c a ih =>
   intro b;cases b with
   | nil=>simp[Op.bytesLess]
   | cons d b =>
     rw[Op.bytesLess,ih b]
     by_cases h1:c<d
     · simp[h1,List.cons_lt_cons_iff]
     · by_cases h3 : c = d
       · subst h3;simp
       · simp[h1,h3,List.cons_lt_cons_iff]
theorem J6 (x y:List UInt8 × List UInt8):ltOf x5 x y=decide (x.1<y.1):=cmp_lt x.1 y.1
theorem swoA:SWO (ltOf x5) where
 irrefl x:=by rw[J6];simp[List.lt_irrefl]
 trans x y z h1 h2:=by rw[J6]at *;simp only[decide_eq_true_eq]at *;exact List.lt_trans h1 h2
 ntrans x y z h1 h2:=by
  rw[J6]at *
  simp only[decide_eq_false_iff_not,List.not_lt]at *
  exact List.le_trans h2 h1
def sortA (l:List (List UInt8 × List UInt8)):List (List UInt8 × List UInt8):=(pdq (ltOf x5) l.toArray 0 l.length (Lib.bitLen l.length) true true).toList
theorem xb (l:List (List UInt8 × List UInt8)):PermIn 0 l.toArray.size l.toArray (sortA l).toArray∧SortedIn (ltOf x5) 0 l.toArray.size (sortA l).toArray:=by
 have:=pdq_sorts (ltOf x5) swoA l.toArray 0 l.toArray.size (Lib.bitLen l.length) true true (Nat.zero_le _) (Nat.le_refl _) (Or.inl rfl)
 simpa[sortA] using this
theorem zx (l:List (List UInt8 × List UInt8)):(sortA l).Perm l:=by
 obtain ⟨⟨h1,_,h3⟩,_⟩:=xb l;have e1:(sortA l).toArray.extract 0 l.toArray.size=(sortA l).toArray:=by rw[←h1];exact Array.extract_size
 rw[e1,Array.extract_size]at h3
 simpa using h3
theorem zC (l:List (List UInt8 × List UInt8)):(sortA l).length=l.length:=(zx l).length_eq
theorem jO (l:List (List UInt8 × List UInt8)):(sortA l).Pairwise fun x y=>x.1≤y.1:=by
 obtain ⟨⟨h1,_,_⟩,h4⟩:=xb l;rw[List.pairwise_iff_getElem];intro i j hi hj hij;have:=h4 i j (Nat.zero_le _) hij (by rw[←h1];simpa using hj)
 rw[getElem!_pos _ j (by simpa using hj),getElem!_pos _ i (by simpa using hi),J6]at this
 simpa[List.not_lt] using this
theorem ZA {l:List (List UInt8 × List UInt8)}(h:l.Pairwise fun x y=>x.1<y.1):∀ a∈l,∀ b∈l,a.1=b.1→a=b:=by
 induction l with
 | nil=>intro a ha;simp at ha
 | cons x r ih =>
   rw[List.pairwise_cons]at h
   intro a ha b hb e;rw[List.mem_cons]at ha hb
   rcases ha with rfl|ha
   · rcases hb with rfl | hb
     · rfl
     · have:=h.1 b hb;rw[e]at this;exact absurd this (List.lt_irrefl _)
   · rcases hb with rfl | hb
     · have:=h.1 a ha;rw[e]at this;exact absurd this (List.lt_irrefl _)
     · exact ih h.2 a ha b hb e
theorem JN {l:List (List UInt8 × List UInt8)}(h:l.Pairwise fun x y=>x.1<y.1):sortA l=l:=by
 refine List.Perm.eq_of_pairwise (le:=fun x y=>x.1≤y.1) ?_ (jO l) (h.imp fun h=>List.le_of_lt h) (zx l)
 intro a b ha hb h1 h2;exact ZA h a ((zx l).mem_iff.1 ha) b hb (List.le_antisymm h1 h2)
end Go.Proofs.YtkbhckhbgalaoaaGreatDoor
/-
  DERIVED: THE SHELF's CONTRACTS AT THIS DUMP, IN PLAIN WORDS (tools/lay-plain.mjs out of 'YtkbhckhbgalaoaaGreatDoorSortL.lean', which tools/lay-shelf.mjs wrote): THE SAME DECLARATIONS UNDER THE SAME NAMES: 'import', 'namespace', 'open', 'def', 'theorem' AND NOTHING ELSE: no command of the shelf's: FOR A HAND-IN. Each laying: the table of numbers ('.._ren') and one theorem, a field a fact of the dump's own or the kernel's comparison; each contract: ONE APPLICATION.
-/
namespace Go.Proofs
open Go.Shelf
def Tryz.sortA_ren:Go.Shelf.Ren:=⟨fun|6=>52|15=>80|14=>79|28=>110|29=>111|20=>102|21=>103|22=>104|23=>105|24=>106|25=>107|26=>108|27=>109|46=>118|47=>119|48=>120|49=>121|50=>122|57=>125|n=>n,fun|22=>22|24=>64|25=>78|3=>3|39=>100|0=>0|53=>119|55=>121|4=>4|46=>112|45=>111|50=>116|5=>5|9=>9|66=>127|70=>131|76=>134|77=>61|n=>n,fun|n=>n⟩
theorem Tryz.sortA:Go.Proofs.SlLaysF0.n6 Tryz.prog Tryz.sortA_ren:={
 mixed:=by kernel_rfl
 f6:=⟨Tryz.f52.name,by decide,Tryz.func52.trans (congrArg some (by kernel_rfl))⟩
 f14:=⟨Tryz.f79.name,by decide,Tryz.func79.trans (congrArg some (by kernel_rfl))⟩
 f15:=Tryz.func80.trans (congrArg some (by kernel_rfl))
 f20:=⟨Tryz.f102.name,by decide,Tryz.func102.trans (congrArg some (by kernel_rfl))⟩
 f21:=⟨Tryz.f103.name,by decide,Tryz.func103.trans (congrArg some (by kernel_rfl))⟩
 f22:=⟨Tryz.f104.name,by decide,Tryz.func104.trans (congrArg some (by kernel_rfl))⟩
 f23:=⟨Tryz.f105.name,by decide,Tryz.func105.trans (congrArg some (by kernel_rfl))⟩
 f24:=⟨Tryz.f106.name,by decide,Tryz.func106.trans (congrArg some (by kernel_rfl))⟩
 f25:=⟨Tryz.f107.name,by decide,Tryz.func107.trans (congrArg some (by kernel_rfl))⟩
 f26:=⟨Tryz.f108.name,by decide,Tryz.func108.trans (congrArg some (by kernel_rfl))⟩
 f27:=⟨Tryz.f109.name,by decide,Tryz.func109.trans (congrArg some (by kernel_rfl))⟩
 f28:=Tryz.func110.trans (congrArg some (by kernel_rfl))
 f29:=Tryz.func111.trans (congrArg some (by kernel_rfl))
 f46:=⟨Tryz.f118.name,by decide,Tryz.func118.trans (congrArg some (by kernel_rfl))⟩
 f47:=Tryz.func119.trans (congrArg some (by kernel_rfl))
 f48:=Tryz.func120.trans (congrArg some (by kernel_rfl))
 f49:=⟨Tryz.f121.name,by decide,Tryz.func121.trans (congrArg some (by kernel_rfl))⟩
 f50:=⟨Tryz.f122.name,by decide,Tryz.func122.trans (congrArg some (by kernel_rfl))⟩
 f57:=⟨Tryz.f125.name,by decide,Tryz.func125.trans (congrArg some (by kernel_rfl))⟩
 t0:=Tryz.underlying0
 a0:=Tryz.isAgg0
 z0:=Tryz.sizeOf0
 v0:=Tryz.zeroValue0
 t3:=Tryz.underlying3
 a3:=Tryz.isAgg3
 z3:=Tryz.sizeOf3
 v3:=Tryz.zeroValue3
 t4:=Tryz.underlying4
 a4:=Tryz.isAgg4
 z4:=Tryz.sizeOf4
 v4:=Tryz.zeroValue4
 t5:=Tryz.underlying5
 a5:=Tryz.isAgg5
 z5:=Tryz.sizeOf5
 v5:=Tryz.zeroValue5
 t9:=Tryz.underlying9
 a9:=Tryz.isAgg9
 z9:=Tryz.sizeOf9
 v9:=Tryz.zeroValue9
 t22:=Tryz.underlying22
 a22:=Tryz.isAgg22
 z22:=Tryz.sizeOf22
 v22:=Tryz.zeroValue22
 t25:=Tryz.underlying78
 a25:=Tryz.isAgg78
 z25:=Tryz.sizeOf78
 v25:=Tryz.zeroValue78
 t39:=Tryz.underlying100
 a39:=Tryz.isAgg100
 z39:=Tryz.sizeOf100
 v39:=Tryz.zeroValue100
 t45:=Tryz.underlying111
 a45:=Tryz.isAgg111
 z45:=Tryz.sizeOf111
 v45:=Tryz.zeroValue111
 t46:=Tryz.underlying112
 a46:=Tryz.isAgg112
 z46:=Tryz.sizeOf112
 v46:=Tryz.zeroValue112
 t50:=Tryz.underlying116
 a50:=Tryz.isAgg116
 z50:=Tryz.sizeOf116
 v50:=Tryz.zeroValue116
 t53:=Tryz.underlying119
 a53:=Tryz.isAgg119
 z53:=Tryz.sizeOf119
 v53:=Tryz.zeroValue119
 t55:=Tryz.underlying121
 a55:=Tryz.isAgg121
 z55:=Tryz.sizeOf121
 v55:=Tryz.zeroValue121
 t66:=Tryz.underlying127
 a66:=Tryz.isAgg127
 z66:=Tryz.sizeOf127
 v66:=Tryz.zeroValue127
 t70:=Tryz.underlying131
 a70:=Tryz.isAgg131
 z70:=Tryz.sizeOf131
 v70:=Tryz.zeroValue131
 t76:=Tryz.underlying134
 a76:=Tryz.isAgg134
 z76:=Tryz.sizeOf134
 v76:=Tryz.zeroValue134
 t77:=Tryz.underlying61
 a77:=Tryz.isAgg61
 z77:=Tryz.sizeOf61
 v77:=Tryz.zeroValue61 }
end Go.Proofs
