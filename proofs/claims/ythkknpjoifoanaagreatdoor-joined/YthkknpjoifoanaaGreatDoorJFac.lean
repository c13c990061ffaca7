import Derived.WalkKit
import Derived.Test.YthkknpjoifoanaaGreatDoorRows
import Derived.OpenShut
import Derived.JoinedOf
namespace Go.Proofs.YthkknpjoifoanaaGreatDoor
open Go.ChangeShapes Go.WideShapes Go.RowKit
theorem joined_maps : mapsRowed Tryz.prog = true := by kernel_rfl
theorem joined_heard : Tryz.prog.stopsHeard = true := by kernel_rfl
theorem joined_enter : Tryz.prog.mayEnter = true := by kernel_rfl
theorem joined_lift : (Rows.joinedRow.lifted == Tryz.prog.liftsFinal) = true := by kernel_rfl
theorem joined_keys : (Rows.joinedRow.plainKeys == Tryz.prog.plainKeys) = true := by kernel_rfl
theorem joined_make : (Tryz.prog.make == some Rows.joinedRow.make) = true := by kernel_rfl
end Go.Proofs.YthkknpjoifoanaaGreatDoor
