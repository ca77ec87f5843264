/- Bundled: SortM SortL RevL. What each says stands ahead of it. -/
import Derived.Test.YtecdgplkelnmhaaGreatDoorBundle03
import Derived.Shelf.SlSortCmp.WholeK
namespace Go.Proofs.YtecdgplkelnmhaaGreatDoor
open Go.Sort
set_option maxRecDepth 100000
def JD (x y:List UInt8 × List UInt8):Int:=Lib.compareBytes x.1 y.1
theorem cmp_lt:∀ a b:List UInt8,decide (Lib.compareBytes a b<0)=decide (a<b):=by
 intro a
 induction a with
 | nil =>
   intro b;cases b with
   | nil=>simp[Lib.compareBytes]
   | cons d b=>simp[Lib.compareBytes]
 | cons c a ih =>
   intro b;cases b with
   | nil=>simp[Lib.compareBytes]
   | cons d b =>
     rw[Lib.compareBytes,decide_eq_decide]
     by_cases h1:c<d
     · simp[h1,List.cons_lt_cons_iff]
     · by_cases h2 : d < c
       · have h3 : ¬ c = d := by intro e;subst e;exact h1 h2
         simp[h1,h2,h3,List.cons_lt_cons_iff]
       · have h3 : c = d := UInt8.le_antisymm (UInt8.not_lt.1 h2) (UInt8.not_lt.1 h1);subst h3;have:=ih b;rw[decide_eq_decide]at this
         simp[this]
theorem qe0 (x y:List UInt8 × List UInt8):ltOf JD x y=decide (x.1<y.1):=cmp_lt x.1 y.1
theorem swoA:SWO (ltOf JD) where
 irrefl x:=by rw[qe0];simp[List.lt_irrefl]
 trans x y z h1 h2:=by rw[qe0]at *;simp only[decide_eq_true_eq]at *;exact List.lt_trans h1 h2
 ntrans x y z h1 h2:=by
  rw[qe0]at *
  simp only[decide_eq_false_iff_not,List.not_lt]at *
  exact List.le_trans h2 h1
def sortA (l:List (List UInt8 × List UInt8)):List (List UInt8 × List UInt8):=(pdq (ltOf JD) l.toArray 0 l.length (Lib.bitLen l.length) true true).toList
theorem Vv (l:List (List UInt8 × List UInt8)):PermIn 0 l.toArray.size l.toArray (sortA l).toArray∧SortedIn (ltOf JD) 0 l.toArray.size (sortA l).toArray:=by
 have:=pdq_sorts (ltOf JD) swoA l.toArray 0 l.toArray.size (Lib.bitLen l.length) true true (Nat.zero_le _) (Nat.le_refl _) (Or.inl rfl)
 simpa[sortA] using this
theorem Jo (l:List (List UInt8 × List UInt8)):(sortA l).Perm l:=by
 obtain ⟨⟨h1,_,h3⟩,_⟩:=Vv l;have e1:(sortA l).toArray.extract 0 l.toArray.size=(sortA l).toArray:=by rw[←h1];exact Array.extract_size
 rw[e1,Array.extract_size]at h3
 simpa using h3
theorem yZ (l:List (List UInt8 × List UInt8)):(sortA l).length=l.length:=(Jo l).length_eq
end Go.Proofs.YtecdgplkelnmhaaGreatDoor
/-
  DERIVED: THE SHELF's CONTRACTS AT THIS DUMP, IN PLAIN WORDS (tools/lay-plain.mjs out of 'YtecdgplkelnmhaaGreatDoorSortL.lean', which tools/lay-shelf.mjs wrote): THE SAME DECLARATIONS UNDER THE SAME NAMES: 'import', 'namespace', 'open', 'def', 'theorem' AND NOTHING ELSE: no command of the shelf's: FOR A HAND-IN. Each laying: the table of numbers ('.._ren') and one theorem, a field a fact of the dump's own or the kernel's comparison; each contract: ONE APPLICATION.
-/
namespace Go.Proofs
open Go.Shelf
def Tryz.sortA_ren:Go.Shelf.Ren:=⟨fun|6=>97|15=>136|14=>135|28=>170|29=>171|20=>162|21=>163|22=>164|23=>165|24=>166|25=>167|26=>168|27=>169|46=>190|47=>191|48=>192|49=>193|50=>194|57=>207|n=>n,fun|22=>47|24=>60|25=>161|3=>3|39=>204|0=>0|53=>235|55=>237|4=>4|46=>229|45=>228|50=>178|5=>5|9=>9|66=>248|70=>45|76=>258|77=>83|n=>n,fun|n=>n⟩
theorem Tryz.sortA:Go.Proofs.SlLaysF0.n6 Tryz.prog Tryz.sortA_ren:={
 mixed:=by kernel_rfl
 f6:=⟨Tryz.f97.name,by decide,Tryz.func97.trans (congrArg some (by kernel_rfl))⟩
 f14:=⟨Tryz.f135.name,by decide,Tryz.func135.trans (congrArg some (by kernel_rfl))⟩
 f15:=Tryz.func136.trans (congrArg some (by kernel_rfl))
 f20:=⟨Tryz.f162.name,by decide,Tryz.func162.trans (congrArg some (by kernel_rfl))⟩
 f21:=⟨Tryz.f163.name,by decide,Tryz.func163.trans (congrArg some (by kernel_rfl))⟩
 f22:=⟨Tryz.f164.name,by decide,Tryz.func164.trans (congrArg some (by kernel_rfl))⟩
 f23:=⟨Tryz.f165.name,by decide,Tryz.func165.trans (congrArg some (by kernel_rfl))⟩
 f24:=⟨Tryz.f166.name,by decide,Tryz.func166.trans (congrArg some (by kernel_rfl))⟩
 f25:=⟨Tryz.f167.name,by decide,Tryz.func167.trans (congrArg some (by kernel_rfl))⟩
 f26:=⟨Tryz.f168.name,by decide,Tryz.func168.trans (congrArg some (by kernel_rfl))⟩
 f27:=⟨Tryz.f169.name,by decide,Tryz.func169.trans (congrArg some (by kernel_rfl))⟩
 f28:=Tryz.func170.trans (congrArg some (by kernel_rfl))
 f29:=Tryz.func171.trans (congrArg some (by kernel_rfl))
 f46:=⟨Tryz.f190.name,by decide,Tryz.func190.trans (congrArg some (by kernel_rfl))⟩
 f47:=Tryz.func191.trans (congrArg some (by kernel_rfl))
 f48:=Tryz.func192.trans (congrArg some (by kernel_rfl))
 f49:=⟨Tryz.f193.name,by decide,Tryz.func193.trans (congrArg some (by kernel_rfl))⟩
 f50:=⟨Tryz.f194.name,by decide,Tryz.func194.trans (congrArg some (by kernel_rfl))⟩
 f57:=⟨Tryz.f207.name,by decide,Tryz.func207.trans (congrArg some (by kernel_rfl))⟩
 t0:=Tryz.underlying0
 a0:=Tryz.isAgg0
 z0:=Tryz.sizeOf0
 v0:=Tryz.zeroValue0
 t3:=Tryz.underlying3
 a3:=Tryz.isAgg3
 z3:=Tryz.sizeOf3
 v3:=Tryz.zeroValue3
 t4:=Tryz.underlying4
 a4:=Tryz.isAgg4
 z4:=Tryz.sizeOf4
 v4:=Tryz.zeroValue4
 t5:=Tryz.underlying5
 a5:=Tryz.isAgg5
 z5:=Tryz.sizeOf5
 v5:=Tryz.zeroValue5
 t9:=Tryz.underlying9
 a9:=Tryz.isAgg9
 z9:=Tryz.sizeOf9
 v9:=Tryz.zeroValue9
 t22:=Tryz.underlying47
 a22:=Tryz.isAgg47
 z22:=Tryz.sizeOf47
 v22:=Tryz.zeroValue47
 t25:=Tryz.underlying161
 a25:=Tryz.isAgg161
 z25:=Tryz.sizeOf161
 v25:=Tryz.zeroValue161
 t39:=Tryz.underlying204
 a39:=Tryz.isAgg204
 z39:=Tryz.sizeOf204
 v39:=Tryz.zeroValue204
 t45:=Tryz.underlying228
 a45:=Tryz.isAgg228
 z45:=Tryz.sizeOf228
 v45:=Tryz.zeroValue228
 t46:=Tryz.underlying229
 a46:=Tryz.isAgg229
 z46:=Tryz.sizeOf229
 v46:=Tryz.zeroValue229
 t50:=Tryz.underlying178
 a50:=Tryz.isAgg178
 z50:=Tryz.sizeOf178
 v50:=Tryz.zeroValue178
 t53:=Tryz.underlying235
 a53:=Tryz.isAgg235
 z53:=Tryz.sizeOf235
 v53:=Tryz.zeroValue235
 t55:=Tryz.underlying237
 a55:=Tryz.isAgg237
 z55:=Tryz.sizeOf237
 v55:=Tryz.zeroValue237
 t66:=Tryz.underlying248
 a66:=Tryz.isAgg248
 z66:=Tryz.sizeOf248
 v66:=Tryz.zeroValue248
 t70:=Tryz.underlying45
 a70:=Tryz.isAgg45
 z70:=Tryz.sizeOf45
 v70:=Tryz.zeroValue45
 t76:=Tryz.underlying258
 a76:=Tryz.isAgg258
 z76:=Tryz.sizeOf258
 v76:=Tryz.zeroValue258
 t77:=Tryz.underlying83
 a77:=Tryz.isAgg83
 z77:=Tryz.sizeOf83
 v77:=Tryz.zeroValue83 }
end Go.Proofs
/-
  DERIVED: THE SHELF's CONTRACTS AT THIS DUMP, IN PLAIN WORDS (tools/lay-plain.mjs out of 'YtecdgplkelnmhaaGreatDoorRevL.lean', which tools/lay-shelf.mjs wrote): THE SAME DECLARATIONS UNDER THE SAME NAMES: 'import', 'namespace', 'open', 'def', 'theorem' AND NOTHING ELSE: no command of the shelf's: FOR A HAND-IN. Each laying: the table of numbers ('.._ren') and one theorem, a field a fact of the dump's own or the kernel's comparison; each contract: ONE APPLICATION.
-/
namespace Go.Proofs
open Go.Shelf
def Tryz.revO_ren:Go.Shelf.Ren:=⟨fun|35=>69|n=>n,fun|22=>77|23=>99|3=>3|4=>4|0=>0|n=>n,fun|n=>n⟩
theorem Tryz.revO:Go.Proofs.SlLaysE0.n35 Tryz.prog Tryz.revO_ren:={
 mixed:=by kernel_rfl
 f35:=⟨Tryz.f69.name,by decide,Tryz.func69.trans (congrArg some (by kernel_rfl))⟩
 t0:=Tryz.underlying0
 a0:=Tryz.isAgg0
 z0:=Tryz.sizeOf0
 v0:=Tryz.zeroValue0
 t3:=Tryz.underlying3
 a3:=Tryz.isAgg3
 z3:=Tryz.sizeOf3
 v3:=Tryz.zeroValue3
 t4:=Tryz.underlying4
 a4:=Tryz.isAgg4
 z4:=Tryz.sizeOf4
 v4:=Tryz.zeroValue4
 t22:=Tryz.underlying77
 a22:=Tryz.isAgg77
 z22:=Tryz.sizeOf77
 v22:=Tryz.zeroValue77 }
end Go.Proofs
