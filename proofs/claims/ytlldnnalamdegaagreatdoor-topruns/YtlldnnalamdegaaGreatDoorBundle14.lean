/- Bundled: SortM SortL RevL. What each says stands ahead of it. -/
import Derived.Test.YtlldnnalamdegaaGreatDoorBundle03
import Derived.Shelf.SlSortCmp.WholeK
namespace Go.Proofs.YtlldnnalamdegaaGreatDoor
open Go.Sort
set_option maxRecDepth 100000
def YP (x y:List UInt8 × List UInt8):Int:=Lib.compareBytes x.1 y.1
theorem cmp_lt:∀ a b:List UInt8,decide (Lib.compareBytes a b<0)=decide (a<b):=by
 intro a
 induction a with
 | nil =>
   intro b;cases b with
   | nil=>simp[Lib.compareBytes]
   | cons d b=>simp[Lib.compareBytes]
 | cons c a ih =>
   intro b;cases b with
   | nil=>simp[Lib.compareBytes]
   | cons d b =>
     rw[Lib.compareBytes,decide_eq_decide]
     by_cases h1:c<d
     · simp[h1,List.cons_lt_cons_iff]
     · by_cases h2 : d < c
       · have h3 : ¬ c = d := by intro e;subst e;exact h1 h2
         simp[h1,h2,h3,List.cons_lt_cons_iff]
       · have h3 : c = d := UInt8.le_antisymm (UInt8.not_lt.1 h2) (UInt8.not_lt.1 h1);subst h3;have:=ih b;rw[decide_eq_decide]at this
         simp[this]
theorem qdG (x y:List UInt8 × List UInt8):ltOf YP x y=decide (x.1<y.1):=cmp_lt x.1 y.1
theorem swoA:SWO (ltOf YP) where
 irrefl x:=by rw[qdG];simp[List.lt_irrefl]
 trans x y z h1 h2:=by rw[qdG]at *;simp only[decide_eq_true_eq]at *;exact List.lt_trans h1 h2
 ntrans x y z h1 h2:=by
  rw[qdG]at *
  simp only[decide_eq_false_iff_not,List.not_lt]at *
  exact List.le_trans h2 h1
def sortA (l:List (List UInt8 × List UInt8)):List (List UInt8 × List UInt8):=(pdq (ltOf YP) l.toArray 0 l.length (Lib.bitLen l.length) true true).toList
theorem Kq (l:List (List UInt8 × List UInt8)):PermIn 0 l.toArray.size l.toArray (sortA l).toArray∧SortedIn (ltOf YP) 0 l.toArray.size (sortA l).toArray:=by
 have:=pdq_sorts (ltOf YP) swoA l.toArray 0 l.toArray.size (Lib.bitLen l.length) true true (Nat.zero_le _) (Nat.le_refl _) (Or.inl rfl)
 simpa[sortA] using this
theorem YF (l:List (List UInt8 × List UInt8)):(sortA l).Perm l:=by
 obtain ⟨⟨h1,_,h3⟩,_⟩:=Kq l;have e1:(sortA l).toArray.extract 0 l.toArray.size=(sortA l).toArray:=by rw[←h1];exact Array.extract_size
 rw[e1,Array.extract_size]at h3
 simpa using h3
theorem yP (l:List (List UInt8 × List UInt8)):(sortA l).length=l.length:=(YF l).length_eq
end Go.Proofs.YtlldnnalamdegaaGreatDoor
/-
  DERIVED: THE SHELF's CONTRACTS AT THIS DUMP, IN PLAIN WORDS (tools/lay-plain.mjs out of 'YtlldnnalamdegaaGreatDoorSortL.lean', which tools/lay-shelf.mjs wrote): THE SAME DECLARATIONS UNDER THE SAME NAMES: 'import', 'namespace', 'open', 'def', 'theorem' AND NOTHING ELSE: no command of the shelf's: FOR A HAND-IN. Each laying: the table of numbers ('.._ren') and one theorem, a field a fact of the dump's own or the kernel's comparison; each contract: ONE APPLICATION.
-/
namespace Go.Proofs
open Go.Shelf
def Tryz.sortA_ren:Go.Shelf.Ren:=⟨fun|6=>82|15=>124|14=>123|28=>158|29=>159|20=>150|21=>151|22=>152|23=>153|24=>154|25=>155|26=>156|27=>157|46=>178|47=>179|48=>180|49=>181|50=>182|57=>195|n=>n,fun|22=>43|24=>58|25=>146|3=>3|39=>190|0=>0|53=>222|55=>224|4=>4|46=>216|45=>215|50=>163|5=>5|9=>9|66=>235|70=>64|76=>245|77=>61|n=>n,fun|n=>n⟩
theorem Tryz.sortA:Go.Proofs.SlLaysF0.n6 Tryz.prog Tryz.sortA_ren:={
 mixed:=by kernel_rfl
 f6:=⟨Tryz.f82.name,by decide,Tryz.func82.trans (congrArg some (by kernel_rfl))⟩
 f14:=⟨Tryz.f123.name,by decide,Tryz.func123.trans (congrArg some (by kernel_rfl))⟩
 f15:=Tryz.func124.trans (congrArg some (by kernel_rfl))
 f20:=⟨Tryz.f150.name,by decide,Tryz.func150.trans (congrArg some (by kernel_rfl))⟩
 f21:=⟨Tryz.f151.name,by decide,Tryz.func151.trans (congrArg some (by kernel_rfl))⟩
 f22:=⟨Tryz.f152.name,by decide,Tryz.func152.trans (congrArg some (by kernel_rfl))⟩
 f23:=⟨Tryz.f153.name,by decide,Tryz.func153.trans (congrArg some (by kernel_rfl))⟩
 f24:=⟨Tryz.f154.name,by decide,Tryz.func154.trans (congrArg some (by kernel_rfl))⟩
 f25:=⟨Tryz.f155.name,by decide,Tryz.func155.trans (congrArg some (by kernel_rfl))⟩
 f26:=⟨Tryz.f156.name,by decide,Tryz.func156.trans (congrArg some (by kernel_rfl))⟩
 f27:=⟨Tryz.f157.name,by decide,Tryz.func157.trans (congrArg some (by kernel_rfl))⟩
 f28:=Tryz.func158.trans (congrArg some (by kernel_rfl))
 f29:=Tryz.func159.trans (congrArg some (by kernel_rfl))
 f46:=⟨Tryz.f178.name,by decide,Tryz.func178.trans (congrArg some (by kernel_rfl))⟩
 f47:=Tryz.func179.trans (congrArg some (by kernel_rfl))
 f48:=Tryz.func180.trans (congrArg some (by kernel_rfl))
 f49:=⟨Tryz.f181.name,by decide,Tryz.func181.trans (congrArg some (by kernel_rfl))⟩
 f50:=⟨Tryz.f182.name,by decide,Tryz.func182.trans (congrArg some (by kernel_rfl))⟩
 f57:=⟨Tryz.f195.name,by decide,Tryz.func195.trans (congrArg some (by kernel_rfl))⟩
 t0:=Tryz.underlying0
 a0:=Tryz.isAgg0
 z0:=Tryz.sizeOf0
 v0:=Tryz.zeroValue0
 t3:=Tryz.underlying3
 a3:=Tryz.isAgg3
 z3:=Tryz.sizeOf3
 v3:=Tryz.zeroValue3
 t4:=Tryz.underlying4
 a4:=Tryz.isAgg4
 z4:=Tryz.sizeOf4
 v4:=Tryz.zeroValue4
 t5:=Tryz.underlying5
 a5:=Tryz.isAgg5
 z5:=Tryz.sizeOf5
 v5:=Tryz.zeroValue5
 t9:=Tryz.underlying9
 a9:=Tryz.isAgg9
 z9:=Tryz.sizeOf9
 v9:=Tryz.zeroValue9
 t22:=Tryz.underlying43
 a22:=Tryz.isAgg43
 z22:=Tryz.sizeOf43
 v22:=Tryz.zeroValue43
 t25:=Tryz.underlying146
 a25:=Tryz.isAgg146
 z25:=Tryz.sizeOf146
 v25:=Tryz.zeroValue146
 t39:=Tryz.underlying190
 a39:=Tryz.isAgg190
 z39:=Tryz.sizeOf190
 v39:=Tryz.zeroValue190
 t45:=Tryz.underlying215
 a45:=Tryz.isAgg215
 z45:=Tryz.sizeOf215
 v45:=Tryz.zeroValue215
 t46:=Tryz.underlying216
 a46:=Tryz.isAgg216
 z46:=Tryz.sizeOf216
 v46:=Tryz.zeroValue216
 t50:=Tryz.underlying163
 a50:=Tryz.isAgg163
 z50:=Tryz.sizeOf163
 v50:=Tryz.zeroValue163
 t53:=Tryz.underlying222
 a53:=Tryz.isAgg222
 z53:=Tryz.sizeOf222
 v53:=Tryz.zeroValue222
 t55:=Tryz.underlying224
 a55:=Tryz.isAgg224
 z55:=Tryz.sizeOf224
 v55:=Tryz.zeroValue224
 t66:=Tryz.underlying235
 a66:=Tryz.isAgg235
 z66:=Tryz.sizeOf235
 v66:=Tryz.zeroValue235
 t70:=Tryz.underlying64
 a70:=Tryz.isAgg64
 z70:=Tryz.sizeOf64
 v70:=Tryz.zeroValue64
 t76:=Tryz.underlying245
 a76:=Tryz.isAgg245
 z76:=Tryz.sizeOf245
 v76:=Tryz.zeroValue245
 t77:=Tryz.underlying61
 a77:=Tryz.isAgg61
 z77:=Tryz.sizeOf61
 v77:=Tryz.zeroValue61 }
end Go.Proofs
/-
  DERIVED: THE SHELF's CONTRACTS AT THIS DUMP, IN PLAIN WORDS (tools/lay-plain.mjs out of 'YtlldnnalamdegaaGreatDoorRevL.lean', which tools/lay-shelf.mjs wrote): THE SAME DECLARATIONS UNDER THE SAME NAMES: 'import', 'namespace', 'open', 'def', 'theorem' AND NOTHING ELSE: no command of the shelf's: FOR A HAND-IN. Each laying: the table of numbers ('.._ren') and one theorem, a field a fact of the dump's own or the kernel's comparison; each contract: ONE APPLICATION.
-/
namespace Go.Proofs
open Go.Shelf
def Tryz.revO_ren:Go.Shelf.Ren:=⟨fun|35=>58|n=>n,fun|22=>67|23=>85|3=>3|4=>4|0=>0|n=>n,fun|n=>n⟩
theorem Tryz.revO:Go.Proofs.SlLaysE0.n35 Tryz.prog Tryz.revO_ren:={
 mixed:=by kernel_rfl
 f35:=⟨Tryz.f58.name,by decide,Tryz.func58.trans (congrArg some (by kernel_rfl))⟩
 t0:=Tryz.underlying0
 a0:=Tryz.isAgg0
 z0:=Tryz.sizeOf0
 v0:=Tryz.zeroValue0
 t3:=Tryz.underlying3
 a3:=Tryz.isAgg3
 z3:=Tryz.sizeOf3
 v3:=Tryz.zeroValue3
 t4:=Tryz.underlying4
 a4:=Tryz.isAgg4
 z4:=Tryz.sizeOf4
 v4:=Tryz.zeroValue4
 t22:=Tryz.underlying67
 a22:=Tryz.isAgg67
 z22:=Tryz.sizeOf67
 v22:=Tryz.zeroValue67 }
end Go.Proofs
