/- Bundled: OpenD OpenT. What each says stands ahead of it. -/
import Derived.Test.YtecdgplkelnmhaaGreatDoorBundle40
import Derived.Test.YtecdgplkelnmhaaGreatDoorBundle22
namespace Go.Proofs.YtecdgplkelnmhaaGreatDoor
open Go.ChangeShapes Go.WideShapes Go.ChangeAt Go.RowKit
set_option maxRecDepth 100000
section
section
variable {H : Type} {enc : TypeId × Value → H} {W : World}
end
end
section
section
variable {H : Type} {enc : TypeId × Value → H} {W : World}
end
theorem qa.more {S:Nat→Prop}{w:World}{n m:Nat}{v:Value}{ts:List Tr}(h:qa S w n v ts)(hnm:n≤m):qa S w m v ts:=by
 obtain ⟨k,rfl⟩:=Nat.exists_eq_add_of_le hnm;clear hnm
 induction k with
 | zero=>exact h
 | succ k ih=>exact qa.deeper (n+k) ih
end
end Go.Proofs.YtecdgplkelnmhaaGreatDoor
