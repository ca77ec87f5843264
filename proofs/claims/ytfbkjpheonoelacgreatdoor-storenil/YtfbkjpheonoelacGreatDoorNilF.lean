/- What the row of StoreNil says of the program, each fact by itself (together they pass the memory lid). -/
import Derived.Test.YtfbkjpheonoelacGreatDoorRows
import Derived.JoinedOf
import Derived.KernelRfl
namespace Go.Proofs.YtfbkjpheonoelacGreatDoor
set_option maxRecDepth 100000

theorem nilF1 : (Rows.storeNilRow.inPlace == Tryz.prog.inPlace 4) = true := by kernel_rfl
theorem nilF2 : (Rows.storeNilRow.unfollowed == Tryz.prog.unfollowed 4) = true := by kernel_rfl
theorem nilF3 : (Rows.storeNilRow.recurses == Tryz.prog.recurses 4) = true := by kernel_rfl
theorem nilF4 : (Rows.storeNilRow.named == Tryz.prog.varsNamed 4) = true := by kernel_rfl
end Go.Proofs.YtfbkjpheonoelacGreatDoor
