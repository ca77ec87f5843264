/- Bundled: Clone Own. What each says stands ahead of it. -/
import Derived.Test.YtmogemjikjbnfaaGreatDoorBundle00
import Derived.Test.YtmogemjikjbnfaaGreatDoorChecked
import Derived.Lib.SliceRun
import Derived.Deep.LoopGhost
/- slices.Clone of attributes: new memory, the same attributes. Condition: at most 2^42 of them. -/
namespace Go.Proofs.YtmogemjikjbnfaaGreatDoor
open Go.ChangeShapes Go.WideShapes Go.ChangeAt Go.RowKit
set_option maxRecDepth 100000

theorem attrInfo : (Tryz.prog.info? 47).map (fun i => (i.zero, i.size, i.bytes)) = some (some (.agg #[.string ⟨#[]⟩, .string ⟨#[]⟩]), 2, 32) := by kernel_rfl

end Go.Proofs.YtmogemjikjbnfaaGreatDoor

/- tree.withOwnAttrs: the tree with its attributes in new memory. Condition: at most 2^20 attributes. -/
namespace Go.Proofs.YtmogemjikjbnfaaGreatDoor
open Go.ChangeShapes Go.WideShapes Go.ChangeAt Go.RowKit
set_option maxRecDepth 100000

theorem bcell {W w1 : World} (hb : Below W.heap.size W w1) : (∀ b o, b < W.heap.size → w1.cell? ⟨b, o, none⟩ = W.cell? ⟨b, o, none⟩) ∧ (∀ b o, b < W.heap.size → w1.frozen? ⟨b, o, none⟩ = W.frozen? ⟨b, o, none⟩) :=
  ⟨fun b o h => hb.cell (p := ⟨b, o, none⟩) h, fun b o h => hb.frozen (p := ⟨b, o, none⟩) h⟩

theorem Attrs.shape {S : Nat → Prop} {w : World} {v : Value} {l : List (ByteArray × ByteArray)} (h : Attrs S w v l) : ∃ a cap, v = .slice a l.length cap :=
  ⟨_, _, h.choose_spec.choose_spec.1⟩

attribute [local go_sem] cell_set

end Go.Proofs.YtmogemjikjbnfaaGreatDoor

